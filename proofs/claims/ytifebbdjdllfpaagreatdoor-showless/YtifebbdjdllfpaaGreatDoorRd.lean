/- The reader of a source text: whether it has ended, and how it goes on over bytes of a kind. -/
import Derived.Test.YtifebbdjdllfpaaGreatDoorKinds
namespace Go.Proofs.YtifebbdjdllfpaaGreatDoor
open Go.RowKit
set_option linter.unusedSimpArgs false
set_option linter.unusedVariables false

/-- At block b lies a reader of the text s that has come to place i. -/
structure At (b : Nat) (s : ByteArray) (i : Nat) (w : World) : Prop where
  text : w.cell? ⟨b, 0, none⟩ = some (.string s)
  spot : w.cell? ⟨b, 1, none⟩ = some (.int .i64 i)
  free : w.frozen? ⟨b, 1, none⟩ = false
  there : b < w.heap.size

/-- From w to w' the reader at b has come to place j; no other block of w has turned. -/
def Mv (b j : Nat) (w w' : World) : Prop := Below w.heap.size (w.setCell ⟨b, 1, none⟩ (.int .i64 j)) w'

set_option maxHeartbeats 1000000 in
theorem ended_any (b : Nat) (s : ByteArray) (i : Nat) (w : World) (h : At b s i w) (hs : s.size ≤ maxLen) (hi : i ≤ s.size) :
    Calls Tryz.prog 70 #[.pointer (some ⟨b, 0, none⟩)] w fun e w' => e = .returned (.bool (decide (i = s.size))) ∧ ∃ n, w' = w.drewN n := by
  unfold maxLen at hs
  obtain ⟨h0, h1, h2, h3⟩ := h
  go_enter Tryz.func70, Tryz.ntmps70
  go_wp2
  go_quiet (fail)
  go_wp2
  go_ret
  exact ⟨ret_bool (by rw [Bool.eq_iff_iff]; simp; omega), _, rfl⟩

theorem ext_list (s : ByteArray) (i j : Nat) : (s.extract i j).data.toList = (s.data.toList.take j).drop i := by
  rw [ByteArray.data_extract]
  simp [Array.toList_extract, List.extract_eq_take_drop]
  rw [List.take_drop]
  by_cases h : i ≤ j
  · rw [Nat.add_sub_of_le h]
  · rw [List.drop_eq_nil_of_le (by simp; omega), List.drop_eq_nil_of_le (by simp; omega)]
theorem ext_size {s : ByteArray} {i j : Nat} (h : j ≤ s.size) : (s.extract i j).size = j - i := by
  simp [ByteArray.size_extract]; omega

/-- How many bytes of a kind stand from place i on. -/
def run (s : ByteArray) (i : Nat) (p : UInt8 → Bool) : Nat := ((s.data.toList.drop i).takeWhile p).length
theorem run_le (s : ByteArray) (i : Nat) (p : UInt8 → Bool) (hi : i ≤ s.size) : i + run s i p ≤ s.size := by
  have := Lx.tw_le (p := p) (s.data.toList.drop i)
  unfold run; simp at this; omega

set_option maxHeartbeats 1000000 in
theorem take_any (b : Nat) (s : ByteArray) (i K : Nat) (p : UInt8 → Bool) (w : World) (h : At b s i w) (hs : s.size ≤ maxLen) (hi : i ≤ s.size) (hK : Kind K p) (hr : ∀ (args : Array Value) (w : World), (callFunc K args).run Tryz.prog w = .ok (.enter K args) w) :
    Calls Tryz.prog 68 #[.pointer (some ⟨b, 0, none⟩), .func (.func K) #[] #[]] w fun e w' => e = .returned (.string (s.extract i (i + run s i p))) ∧ ∃ n, w' = (w.setCell ⟨b, 1, none⟩ (.int .i64 ((i + run s i p : Nat) : Int))).drewN n := by
  obtain ⟨h0, h1, h2, h3⟩ := h
  have hrun := run_le s i p hi
  have hc : ∀ w1 : World, Calls Tryz.prog 95 #[.string (s.extract i s.size), .func (.func K) #[] #[]] w1 fun e w' => e = .returned (.int .i64 (run s i p : Nat)) ∧ w' = w1 := by
    intro w1
    refine (count_any (s.extract i s.size) K p w1 (by rw [ext_size (Nat.le_refl _)]; omega) hK hr).mono ?_
    rintro e w' ⟨rfl, rfl⟩
    refine ⟨ret_int ?_, rfl⟩
    rw [ext_list, run, List.take_of_length_le (by simp)]
  unfold maxLen at hs
  have hb1 : (i : Int) + (run s i p : Int) ≤ 9223372036854775807 := by omega
  have hb2 : (i : Int) + (run s i p : Int) ≤ (s.size : Int) := by omega
  have hwr : IntKind.i64.wrap ((i : Int) + (run s i p : Int)) = (i : Int) + (run s i p : Int) := IntWalk.i64_in _ (by omega)
  go_enter Tryz.func68, Tryz.ntmps68
  go_wp2
  go_region_with (go_at_call 95; refine (hc _).mono ?_; rintro e w' ⟨rfl, rfl⟩)
  all_goals
    simp only [Exit.then]
    refine ‹∀ (a : Act) (w : World), _ → _› _ _ ?_
    go_wp2
    go_quiet (fail)
    go_wp2
    go_ret
    exact ⟨rfl, _, by rw [show ((i + run s i p : Nat) : Int) = (i : Int) + (run s i p : Int) by omega]; simp only [World.drewN_drew, World.drewN_drewN]; rfl⟩
end Go.Proofs.YtifebbdjdllfpaaGreatDoor
