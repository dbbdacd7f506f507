/- Texts of ours, joined: Vy, Rdv. -/
import Derived.Test.YtndahpcjkcihlaaShelf
import Derived.Test.YtndahpcjkcihlaaG01
import Derived.Test.YtndahpcjkcihlaaG00
import Derived.WalkKit
import Derived.WalkSpells
import Derived.WalkLawsBesides
/- Type: the program's. -/
namespace Go.Proofs.Ytndahpcjkcihlaa
open Go.RowKit
set_option linter.unusedSimpArgs false
set_option linter.unusedVariables false

set_option maxRecDepth 100000 in
set_option maxHeartbeats 1000000 in
theorem between_any (s a c : ByteArray) (w : World) (hs : s.size ≤ maxLen) :
    Calls Try.prog 101 #[.string s, .string a, .string c] w fun e w' => (∃ z, e = .returned (.tuple #[.string z, .bool (betw s.data.toList a.data.toList c.data.toList).isSome]) ∧ z.size ≤ s.size ∧ ∀ y, betw s.data.toList a.data.toList c.data.toList = some y → z = ⟨y.toArray⟩) ∧ w' = w := by
  have hl : (Lib.trimPrefix s.data.toList a.data.toList).length ≤ s.size := by
    unfold Lib.trimPrefix
    have : s.data.toList.length = s.size := by simp
    split <;> simp <;> omega
  have hz : (Lib.trimSuffix (Lib.trimPrefix s.data.toList a.data.toList) c.data.toList).length ≤ s.size := by
    refine Nat.le_trans ?_ hl
    generalize Lib.trimPrefix s.data.toList a.data.toList = q
    unfold Lib.trimSuffix
    split <;> simp
  have h1 := Try.strings_CutPrefix s a w
  have h2 := Try.strings_CutSuffix ⟨(Lib.trimPrefix s.data.toList a.data.toList).toArray⟩ c w (by show (Lib.trimPrefix s.data.toList a.data.toList).toArray.size ≤ _; unfold maxLen at hs; simp; omega)
  have hr : (betw s.data.toList a.data.toList c.data.toList).isSome = (Lib.hasPrefix s.data.toList a.data.toList && Lib.hasSuffix (Lib.trimPrefix s.data.toList a.data.toList) c.data.toList) := by
    unfold betw
    split
    · rename_i h; rw [h]; rfl
    · rename_i h; simp only [Bool.not_eq_true] at h; rw [h]; rfl
  have hy : ∀ y, betw s.data.toList a.data.toList c.data.toList = some y → y = Lib.trimSuffix (Lib.trimPrefix s.data.toList a.data.toList) c.data.toList := by
    intro y h
    unfold betw at h
    split at h
    · simpa using h.symm
    · cases h
  rw [hr]
  have hd : (ByteArray.mk (Lib.trimPrefix s.data.toList a.data.toList).toArray).data.toList = Lib.trimPrefix s.data.toList a.data.toList := by simp
  rw [hd] at h2
  clear hd hl
  generalize Lib.trimSuffix (Lib.trimPrefix s.data.toList a.data.toList) c.data.toList = z at *
  generalize Lib.hasSuffix (Lib.trimPrefix s.data.toList a.data.toList) c.data.toList = q at *
  generalize Lib.trimPrefix s.data.toList a.data.toList = z1 at *
  generalize Lib.hasPrefix s.data.toList a.data.toList = p at *
  have hf : (∃ z' : ByteArray, Ending.returned (.tuple #[.string ⟨z.toArray⟩, .bool (p && q)]) = .returned (.tuple #[.string z', .bool (p && q)]) ∧ z'.size ≤ s.size ∧ ∀ y, betw s.data.toList a.data.toList c.data.toList = some y → z' = ⟨y.toArray⟩) :=
    ⟨⟨z.toArray⟩, rfl, by show z.toArray.size ≤ _; simpa using hz, fun y h => by rw [hy y h]⟩
  clear hy hr hz
  cases p
  all_goals
    go_enter Try.func101, Try.ntmps101
    go_wp2_with (go_at_call 104; refine h1.mono ?_; rintro e w' ⟨rfl, rfl⟩)
    go_wp2_with (go_at_call 105; refine h2.mono ?_; rintro e w' ⟨rfl, rfl⟩)
    go_wp2
    go_ret2
    exact ⟨by simpa using hf, rfl⟩
theorem between_yes (s : ByteArray) (a c y : List UInt8) (w : World) (hs : s.size ≤ maxLen) (h : betw s.data.toList a c = some y) :
    Calls Try.prog 101 #[.string s, .string ⟨a.toArray⟩, .string ⟨c.toArray⟩] w fun e w' => e = .returned (.tuple #[.string ⟨y.toArray⟩, .bool true]) ∧ w' = w := by
  refine (between_any s ⟨a.toArray⟩ ⟨c.toArray⟩ w hs).mono ?_
  rintro e w' ⟨⟨z, rfl, _, hz⟩, rfl⟩
  simp only [List.toList_toArray] at hz ⊢
  rw [h, hz y h]
  exact ⟨rfl, trivial⟩
theorem between_no (s : ByteArray) (a c : List UInt8) (w : World) (hs : s.size ≤ maxLen) (h : betw s.data.toList a c = none) :
    Calls Try.prog 101 #[.string s, .string ⟨a.toArray⟩, .string ⟨c.toArray⟩] w fun e w' => (∃ z, e = .returned (.tuple #[.string z, .bool false])) ∧ w' = w := by
  refine (between_any s ⟨a.toArray⟩ ⟨c.toArray⟩ w hs).mono ?_
  rintro e w' ⟨⟨z, rfl, _, hz⟩, rfl⟩
  simp only [List.toList_toArray]
  rw [h]
  exact ⟨⟨z, rfl⟩, trivial⟩
set_option maxRecDepth 100000 in
set_option maxHeartbeats 1000000 in
theorem element_no (s : ByteArray) (w : World) (hs : s.size ≤ maxLen) (h : elemT s.data.toList = none) :
    Calls Try.prog 97 #[.string s] w fun e w' => (∃ z, e = .returned (.tuple #[.string z, .bool false])) ∧ w' = w := by
  unfold elemT at h
  rcases e1 : betw s.data.toList [91] [93] with _ | y1
  · rw [e1] at h
    rcases e2 : betw s.data.toList [123, 105, 110, 116, 58] [125] with _ | y2
    · rw [e2] at h
      have h1 := between_no s _ _ w hs e1
      have h2 := between_no s _ _ w hs e2
      have h3 := between_no s _ _ w hs h
      clear e1 e2 h
      go_enter Try.func97, Try.ntmps97
      go_wp2_with fail
      refine h1.mono ?_
      rintro e w' ⟨⟨z1, rfl⟩, rfl⟩
      go_wp2_with fail
      refine h2.mono ?_
      rintro e w' ⟨⟨z2, rfl⟩, rfl⟩
      go_wp2_with fail
      refine h3.mono ?_
      rintro e w' ⟨⟨z3, rfl⟩, rfl⟩
      go_wp2
      go_ret2
      exact ⟨⟨z3, rfl⟩, rfl⟩
    · rw [e2] at h; cases h
  · rw [e1] at h; cases h
set_option maxRecDepth 100000 in
set_option maxHeartbeats 1000000 in
theorem element_yes (s : ByteArray) (y : List UInt8) (w : World) (hs : s.size ≤ maxLen) (h : elemT s.data.toList = some y) :
    Calls Try.prog 97 #[.string s] w fun e w' => e = .returned (.tuple #[.string ⟨y.toArray⟩, .bool true]) ∧ w' = w := by
  unfold elemT at h
  rcases e1 : betw s.data.toList [91] [93] with _ | y1
  · rw [e1] at h
    rcases e2 : betw s.data.toList [123, 105, 110, 116, 58] [125] with _ | y2
    · rw [e2] at h
      have h1 := between_no s _ _ w hs e1
      have h2 := between_no s _ _ w hs e2
      have h3 := between_yes s _ _ y w hs h
      clear e1 e2 h
      go_enter Try.func97, Try.ntmps97
      go_wp2_with fail
      refine h1.mono ?_
      rintro e w' ⟨⟨z1, rfl⟩, rfl⟩
      go_wp2_with fail
      refine h2.mono ?_
      rintro e w' ⟨⟨z2, rfl⟩, rfl⟩
      go_wp2_with fail
      refine h3.mono ?_
      rintro e w' ⟨rfl, rfl⟩
      go_wp2
      go_ret2
      exact ⟨rfl, rfl⟩
    · rw [e2] at h
      simp only [Option.some.injEq] at h
      subst h
      have h1 := between_no s _ _ w hs e1
      have h2 := between_yes s _ _ y2 w hs e2
      clear e1 e2
      go_enter Try.func97, Try.ntmps97
      go_wp2_with fail
      refine h1.mono ?_
      rintro e w' ⟨⟨z1, rfl⟩, rfl⟩
      go_wp2_with fail
      refine h2.mono ?_
      rintro e w' ⟨rfl, rfl⟩
      go_wp2
      go_ret2
      exact ⟨rfl, rfl⟩
  · rw [e1] at h
    simp only [Option.some.injEq] at h
    subst h
    have h1 := between_yes s _ _ y1 w hs e1
    clear e1
    go_enter Try.func97, Try.ntmps97
    go_wp2_with fail
    refine h1.mono ?_
    rintro e w' ⟨rfl, rfl⟩
    go_wp2
    go_ret2
    exact ⟨rfl, rfl⟩
theorem elem_len {s y : List UInt8} (h : elemT s = some y) : y.length ≤ s.length := by
  unfold elemT at h
  rcases e1 : betw s [91] [93] with _ | y1
  · rw [e1] at h
    rcases e2 : betw s [123, 105, 110, 116, 58] [125] with _ | y2
    · rw [e2] at h
      rw [(betw_iff _ _ _ _).1 h]; simp; omega
    · rw [e2] at h
      simp only [Option.some.injEq] at h
      subst h
      rw [(betw_iff _ _ _ _).1 e2]; simp; omega
  · rw [e1] at h
    simp only [Option.some.injEq] at h
    subst h
    rw [(betw_iff _ _ _ _).1 e1]; simp; omega
theorem bytes_of {s : ByteArray} {l : List UInt8} (h : s.data.toList = l) : s = ⟨l.toArray⟩ := by
  cases s; simp at h; subst h; simp
set_option maxRecDepth 100000 in
set_option maxHeartbeats 2000000 in
theorem istype_any : ∀ (f d : Nat), d + f = 5 → ∀ (s : ByteArray) (w : World), s.size ≤ maxLen →
    Calls Try.prog 90 #[.string s, .int .i64 d] w fun e w' => e = .returned (.bool (tyF f s.data.toList)) ∧ w' = w
  | 0, d, hd, s, w, hs => by
    have hdI : (4 : Int) < (d : Int) := by omega
    go_enter Try.func90, Try.ntmps90
    go_wp2
    go_ret
    exact ⟨rfl, rfl⟩
  | f + 1, d, hd, s, w, hs => by
    have hdI : ¬ (4 : Int) < (d : Int) := by omega
    have ih := istype_any f (d + 1) (by omega)
    rw [tyF]
    by_cases c1 : s.data.toList = [105, 110, 116] ∨ s.data.toList = [98, 111, 111, 108] ∨ s.data.toList = [116, 101, 120, 116]
    · rw [if_pos c1]
      have hl : s = ⟨#[105, 110, 116]⟩ ∨ s = ⟨#[98, 111, 111, 108]⟩ ∨ s = ⟨#[116, 101, 120, 116]⟩ := by
        rcases c1 with h | h | h
        · exact Or.inl (bytes_of h)
        · exact Or.inr (Or.inl (bytes_of h))
        · exact Or.inr (Or.inr (bytes_of h))
      clear c1 ih
      rcases hl with rfl | rfl | rfl
      all_goals
        go_enter Try.func90, Try.ntmps90
        go_wp2
        go_ret
        exact ⟨rfl, rfl⟩
    rw [if_neg c1]
    have q1 : (s.toList == [105, 110, 116]) = false := by rw [ByteArray.toList_eq]; simp; exact fun h => c1 (Or.inl h)
    have q2 : (s.toList == [98, 111, 111, 108]) = false := by rw [ByteArray.toList_eq]; simp; exact fun h => c1 (Or.inr (Or.inl h))
    have q3 : (s.toList == [116, 101, 120, 116]) = false := by rw [ByteArray.toList_eq]; simp; exact fun h => c1 (Or.inr (Or.inr h))
    clear c1
    rcases he : elemT s.data.toList with _ | y
    · have hE := element_no s w hs he
      go_enter Try.func90, Try.ntmps90
      go_wp2_with fail
      refine hE.mono ?_
      rintro e w' ⟨⟨z, rfl⟩, rfl⟩
      go_wp2
      go_ret
      exact ⟨rfl, rfl⟩
    · have hE := element_yes s y w hs he
      have hdI2 : (d : Int) + 1 ≤ 9223372036854775807 := by omega
      have hl := elem_len he
      have hI := ih ⟨y.toArray⟩ w (by show y.toArray.size ≤ _; have : s.data.toList.length = s.size := by simp
                                      simp; omega)
      simp only [List.toList_toArray, Int.natCast_add, Int.cast_ofNat_Int] at hI
      go_enter Try.func90, Try.ntmps90
      go_wp2_with fail
      refine hE.mono ?_
      rintro e w' ⟨rfl, rfl⟩
      go_wp2_with fail
      refine hI.mono ?_
      rintro e w' ⟨rfl, rfl⟩
      go_wp2
      go_ret
      exact ⟨rfl, rfl⟩
set_option maxRecDepth 100000 in
set_option maxHeartbeats 1000000 in
theorem stype_any (s : ByteArray) (w : World) (hs : s.size ≤ maxLen) :
    Calls Try.prog 83 #[.string s] w fun e w' => e = .returned (.bool (gType s.data.toList)) ∧ w' = w := by
  have h := istype_any 4 1 rfl s w hs
  rw [← gType_tyF] at h
  go_enter Try.func83, Try.ntmps83
  go_wp2_with (go_at_call 90; refine h.mono ?_; rintro e w' ⟨rfl, rfl⟩)
  go_ret
  exact ⟨rfl, rfl⟩
end Go.Proofs.Ytndahpcjkcihlaa
/- A type's depth: the document's, walked. -/
namespace Go.Proofs.Ytndahpcjkcihlaa
open Go.RowKit
set_option linter.unusedSimpArgs false
set_option linter.unusedVariables false

set_option maxRecDepth 100000 in
set_option maxHeartbeats 1000000 in
theorem rdep8_n1 (t : ByteArray) (w : World) (hs : t.size ≤ 9223372036854775807) (h1 : (t.toList == [105, 110, 116]) = false) (h2 : (t.toList == [98, 111, 111, 108]) = false) (h3 : (t.toList == [116, 101, 120, 116]) = false) (hl : t.size ≤ 2) : Calls Try.prog 60 #[.string t] w fun r w' => r = .returned (.int .i64 0) ∧ w' = w := by
  go_enter Try.func60, Try.ntmps60
  go_wp2
  go_ret
  exact ⟨rfl, rfl⟩
set_option maxRecDepth 100000 in
set_option maxHeartbeats 1000000 in
theorem rdep8_n2 (t : ByteArray) (w : World) (hs : t.size ≤ 9223372036854775807) (h1 : (t.toList == [105, 110, 116]) = false) (h2 : (t.toList == [98, 111, 111, 108]) = false) (h3 : (t.toList == [116, 101, 120, 116]) = false) (hk : 2 < t.size) (hl : t.size ≤ 6) (hA : ¬ (t[0].toNat : Int) = 91) : Calls Try.prog 60 #[.string t] w fun r w' => r = .returned (.int .i64 0) ∧ w' = w := by
  go_enter Try.func60, Try.ntmps60
  go_wp2
  go_ret
  exact ⟨rfl, rfl⟩
set_option maxRecDepth 100000 in
set_option maxHeartbeats 1000000 in
theorem rdep8_n3 (t : ByteArray) (w : World) (hs : t.size ≤ 9223372036854775807) (h1 : (t.toList == [105, 110, 116]) = false) (h2 : (t.toList == [98, 111, 111, 108]) = false) (h3 : (t.toList == [116, 101, 120, 116]) = false) (hk : 2 < t.size) (hl : t.size ≤ 6) (hA : (t[0].toNat : Int) = 91) (hB : ¬ (t[t.size - 1].toNat : Int) = 93) : Calls Try.prog 60 #[.string t] w fun r w' => r = .returned (.int .i64 0) ∧ w' = w := by
  go_enter Try.func60, Try.ntmps60
  go_wp2
  go_ret
  exact ⟨rfl, rfl⟩
set_option maxRecDepth 100000 in
set_option maxHeartbeats 1000000 in
theorem rdep8_n4 (t : ByteArray) (w : World) (hs : t.size ≤ 9223372036854775807) (h1 : (t.toList == [105, 110, 116]) = false) (h2 : (t.toList == [98, 111, 111, 108]) = false) (h3 : (t.toList == [116, 101, 120, 116]) = false) (hk : 6 < t.size) (hl : t.size ≤ 7) (hA : (t[0].toNat : Int) = 91) (hB : ¬ (t[t.size - 1].toNat : Int) = 93) (hq : ((t.extract 0 5).toList == [123, 105, 110, 116, 58]) = false) : Calls Try.prog 60 #[.string t] w fun r w' => r = .returned (.int .i64 0) ∧ w' = w := by
  go_enter Try.func60, Try.ntmps60
  go_wp2
  go_ret
  exact ⟨rfl, rfl⟩
set_option maxRecDepth 100000 in
set_option maxHeartbeats 1000000 in
theorem rdep8_n5 (t : ByteArray) (w : World) (hs : t.size ≤ 9223372036854775807) (h1 : (t.toList == [105, 110, 116]) = false) (h2 : (t.toList == [98, 111, 111, 108]) = false) (h3 : (t.toList == [116, 101, 120, 116]) = false) (hl : 7 < t.size) (hA : (t[0].toNat : Int) = 91) (hB : ¬ (t[t.size - 1].toNat : Int) = 93) (hq : ((t.extract 0 5).toList == [123, 105, 110, 116, 58]) = false) (hr : ((t.extract 0 6).toList == [123, 116, 101, 120, 116, 58]) = false) : Calls Try.prog 60 #[.string t] w fun r w' => r = .returned (.int .i64 0) ∧ w' = w := by
  go_enter Try.func60, Try.ntmps60
  go_wp2
  go_ret
  exact ⟨rfl, rfl⟩
set_option maxRecDepth 100000 in
set_option maxHeartbeats 1000000 in
theorem rdep8_n6 (t : ByteArray) (w : World) (hs : t.size ≤ 9223372036854775807) (h1 : (t.toList == [105, 110, 116]) = false) (h2 : (t.toList == [98, 111, 111, 108]) = false) (h3 : (t.toList == [116, 101, 120, 116]) = false) (hk : 6 < t.size) (hl : t.size ≤ 7) (hA : ¬ (t[0].toNat : Int) = 91) (hq : ((t.extract 0 5).toList == [123, 105, 110, 116, 58]) = false) : Calls Try.prog 60 #[.string t] w fun r w' => r = .returned (.int .i64 0) ∧ w' = w := by
  go_enter Try.func60, Try.ntmps60
  go_wp2
  go_ret
  exact ⟨rfl, rfl⟩
set_option maxRecDepth 100000 in
set_option maxHeartbeats 1000000 in
theorem rdep8_n7 (t : ByteArray) (w : World) (hs : t.size ≤ 9223372036854775807) (h1 : (t.toList == [105, 110, 116]) = false) (h2 : (t.toList == [98, 111, 111, 108]) = false) (h3 : (t.toList == [116, 101, 120, 116]) = false) (hl : 7 < t.size) (hA : ¬ (t[0].toNat : Int) = 91) (hq : ((t.extract 0 5).toList == [123, 105, 110, 116, 58]) = false) (hr : ((t.extract 0 6).toList == [123, 116, 101, 120, 116, 58]) = false) : Calls Try.prog 60 #[.string t] w fun r w' => r = .returned (.int .i64 0) ∧ w' = w := by
  go_enter Try.func60, Try.ntmps60
  go_wp2
  go_ret
  exact ⟨rfl, rfl⟩
set_option maxRecDepth 100000 in
set_option maxHeartbeats 1000000 in
theorem rdep8_n8 (t : ByteArray) (w : World) (hs : t.size ≤ 9223372036854775807) (h1 : (t.toList == [105, 110, 116]) = false) (h2 : (t.toList == [98, 111, 111, 108]) = false) (h3 : (t.toList == [116, 101, 120, 116]) = false) (hl : 7 < t.size) (hA : ¬ (t[0].toNat : Int) = 91) (hq : ((t.extract 0 5).toList == [123, 105, 110, 116, 58]) = false) (hr : ((t.extract 0 6).toList == [123, 116, 101, 120, 116, 58]) = true) (hC : ¬ (t[t.size - 1].toNat : Int) = 125) : Calls Try.prog 60 #[.string t] w fun r w' => r = .returned (.int .i64 0) ∧ w' = w := by
  go_enter Try.func60, Try.ntmps60
  go_wp2
  go_ret
  exact ⟨rfl, rfl⟩
set_option maxRecDepth 100000 in
set_option maxHeartbeats 1000000 in
theorem rdep8_n9 (t : ByteArray) (w : World) (hs : t.size ≤ 9223372036854775807) (h1 : (t.toList == [105, 110, 116]) = false) (h2 : (t.toList == [98, 111, 111, 108]) = false) (h3 : (t.toList == [116, 101, 120, 116]) = false) (hk : 6 < t.size) (hl : t.size ≤ 7) (hA : ¬ (t[0].toNat : Int) = 91) (hq : ((t.extract 0 5).toList == [123, 105, 110, 116, 58]) = true) (hC : ¬ (t[t.size - 1].toNat : Int) = 125) : Calls Try.prog 60 #[.string t] w fun r w' => r = .returned (.int .i64 0) ∧ w' = w := by
  go_enter Try.func60, Try.ntmps60
  go_wp2
  go_ret
  exact ⟨rfl, rfl⟩
set_option maxRecDepth 100000 in
set_option maxHeartbeats 1000000 in
theorem rdep8_na (t : ByteArray) (w : World) (hs : t.size ≤ 9223372036854775807) (h1 : (t.toList == [105, 110, 116]) = false) (h2 : (t.toList == [98, 111, 111, 108]) = false) (h3 : (t.toList == [116, 101, 120, 116]) = false) (hl : 7 < t.size) (hA : ¬ (t[0].toNat : Int) = 91) (hq : ((t.extract 0 5).toList == [123, 105, 110, 116, 58]) = true) (hr : ((t.extract 0 6).toList == [123, 116, 101, 120, 116, 58]) = false) (hC : ¬ (t[t.size - 1].toNat : Int) = 125) : Calls Try.prog 60 #[.string t] w fun r w' => r = .returned (.int .i64 0) ∧ w' = w := by
  go_enter Try.func60, Try.ntmps60
  go_wp2
  go_ret
  exact ⟨rfl, rfl⟩
set_option maxRecDepth 100000 in
set_option maxHeartbeats 1000000 in
theorem rdep8_l (t : ByteArray) (w : World) (d : Nat) (hd : t.size ≤ 200 → d ≤ 300) (hs : t.size ≤ 9223372036854775807) (h1 : (t.toList == [105, 110, 116]) = false) (h2 : (t.toList == [98, 111, 111, 108]) = false) (h3 : (t.toList == [116, 101, 120, 116]) = false) (hl : 2 < t.size) (hA : (t[0].toNat : Int) = 91) (hB : (t[t.size - 1].toNat : Int) = 93) (hin : t.size ≤ 200 → Calls Try.prog 60 #[.string (t.extract 1 (t.size - 1))] w fun r w' => r = .returned (.int .i64 d) ∧ w' = w) : Calls Try.prog 60 #[.string t] w fun r w' => r = .returned (.int .i64 ((if 200 < t.size then 0 else if d = 0 then 0 else d + 1 : Nat) : Int)) ∧ w' = w := by
  by_cases hz : 200 < t.size
  · rw [if_pos hz]
    clear hin hd
    go_enter Try.func60, Try.ntmps60
    go_wp2
    go_ret
    exact ⟨rfl, rfl⟩
  · rw [if_neg hz]
    replace hin := hin (by omega)
    replace hd := hd (by omega)
    rcases Nat.eq_zero_or_pos d with h0 | h0
    · rw [if_pos h0]
      subst h0
      go_enter Try.func60, Try.ntmps60
      go_wp2_with fail
      refine hin.mono ?_
      rintro e w1 ⟨rfl, rfl⟩
      go_wp2
      go_ret
      exact ⟨rfl, rfl⟩
    · rw [if_neg (by omega)]
      go_enter Try.func60, Try.ntmps60
      go_wp2_with fail
      refine hin.mono ?_
      rintro e w1 ⟨rfl, rfl⟩
      go_wp2
      go_ret
      exact ⟨rfl, rfl⟩
set_option maxRecDepth 100000 in
set_option maxHeartbeats 1000000 in
theorem rdep8_i (t : ByteArray) (w : World) (d : Nat) (hd : t.size ≤ 200 → d ≤ 300) (hs : t.size ≤ 9223372036854775807) (h1 : (t.toList == [105, 110, 116]) = false) (h2 : (t.toList == [98, 111, 111, 108]) = false) (h3 : (t.toList == [116, 101, 120, 116]) = false) (hl : 6 < t.size) (hA : ¬ (t[0].toNat : Int) = 91) (hq : ((t.extract 0 5).toList == [123, 105, 110, 116, 58]) = true) (hC : (t[t.size - 1].toNat : Int) = 125) (hin : t.size ≤ 200 → Calls Try.prog 60 #[.string (t.extract 5 (t.size - 1))] w fun r w' => r = .returned (.int .i64 d) ∧ w' = w) : Calls Try.prog 60 #[.string t] w fun r w' => r = .returned (.int .i64 ((if 200 < t.size then 0 else if d = 0 then 0 else d + 1 : Nat) : Int)) ∧ w' = w := by
  by_cases hz : 200 < t.size
  · rw [if_pos hz]
    clear hin hd
    go_enter Try.func60, Try.ntmps60
    go_wp2
    go_ret
    exact ⟨rfl, rfl⟩
  · rw [if_neg hz]
    replace hin := hin (by omega)
    replace hd := hd (by omega)
    rcases Nat.eq_zero_or_pos d with h0 | h0
    · rw [if_pos h0]
      subst h0
      go_enter Try.func60, Try.ntmps60
      go_wp2_with fail
      refine hin.mono ?_
      rintro e w1 ⟨rfl, rfl⟩
      go_wp2
      go_ret
      exact ⟨rfl, rfl⟩
    · rw [if_neg (by omega)]
      go_enter Try.func60, Try.ntmps60
      go_wp2_with fail
      refine hin.mono ?_
      rintro e w1 ⟨rfl, rfl⟩
      go_wp2
      go_ret
      exact ⟨rfl, rfl⟩
set_option maxRecDepth 100000 in
set_option maxHeartbeats 1000000 in
theorem rdep8_t (t : ByteArray) (w : World) (d : Nat) (hd : t.size ≤ 200 → d ≤ 300) (hs : t.size ≤ 9223372036854775807) (h1 : (t.toList == [105, 110, 116]) = false) (h2 : (t.toList == [98, 111, 111, 108]) = false) (h3 : (t.toList == [116, 101, 120, 116]) = false) (hl : 7 < t.size) (hA : ¬ (t[0].toNat : Int) = 91) (hq : ((t.extract 0 5).toList == [123, 105, 110, 116, 58]) = false) (hr : ((t.extract 0 6).toList == [123, 116, 101, 120, 116, 58]) = true) (hC : (t[t.size - 1].toNat : Int) = 125) (hin : t.size ≤ 200 → Calls Try.prog 60 #[.string (t.extract 6 (t.size - 1))] w fun r w' => r = .returned (.int .i64 d) ∧ w' = w) : Calls Try.prog 60 #[.string t] w fun r w' => r = .returned (.int .i64 ((if 200 < t.size then 0 else if d = 0 then 0 else d + 1 : Nat) : Int)) ∧ w' = w := by
  by_cases hz : 200 < t.size
  · rw [if_pos hz]
    clear hin hd
    go_enter Try.func60, Try.ntmps60
    go_wp2
    go_ret
    exact ⟨rfl, rfl⟩
  · rw [if_neg hz]
    replace hin := hin (by omega)
    replace hd := hd (by omega)
    rcases Nat.eq_zero_or_pos d with h0 | h0
    · rw [if_pos h0]
      subst h0
      go_enter Try.func60, Try.ntmps60
      go_wp2_with fail
      refine hin.mono ?_
      rintro e w1 ⟨rfl, rfl⟩
      go_wp2
      go_ret
      exact ⟨rfl, rfl⟩
    · rw [if_neg (by omega)]
      go_enter Try.func60, Try.ntmps60
      go_wp2_with fail
      refine hin.mono ?_
      rintro e w1 ⟨rfl, rfl⟩
      go_wp2
      go_ret
      exact ⟨rfl, rfl⟩
end Go.Proofs.Ytndahpcjkcihlaa
