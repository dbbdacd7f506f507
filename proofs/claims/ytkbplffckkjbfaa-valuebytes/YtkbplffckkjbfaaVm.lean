/- Parts of types, first values: the program's. -/
import Derived.Test.YtkbplffckkjbfaaVk
namespace Go.Proofs.Ytkbplffckkjbfaa
open Go.RowKit
set_option linter.unusedVariables false
set_option linter.unusedSimpArgs false

theorem ba_eq {s : ByteArray} {l : List UInt8} (h : s.data.toList = l) : s = ⟨l.toArray⟩ := by
  cases s; simp at h; subst h; simp
set_option maxRecDepth 100000 in
set_option maxHeartbeats 1000000 in
theorem inside_l (a z : UInt8) (m : List UInt8) (hm : m.length ≤ 1000) (w : World) : Calls Try.prog 49 #[.string ⟨(a :: (m ++ [z])).toArray⟩] w fun e w' => e = .returned (.string ⟨m.toArray⟩) ∧ w' = w := by
  have hz : (⟨(a :: (m ++ [z])).toArray⟩ : ByteArray).size = m.length + 2 := by show (a :: (m ++ [z])).toArray.size = _; simp
  have he : (⟨(a :: (m ++ [z])).toArray⟩ : ByteArray).extract 1 (m.length + 2 - 1) = ⟨m.toArray⟩ := ba_eq (by rw [ext_list]; simp)
  generalize (⟨(a :: (m ++ [z])).toArray⟩ : ByteArray) = s at *
  go_enter Try.func49, Try.ntmps49
  go_wp2
  go_ret
  exact ⟨by first | rfl | exact congrArg (fun x => Ending.returned (.string x)) he, rfl⟩
set_option maxRecDepth 100000 in
set_option maxHeartbeats 1000000 in
theorem sclone_any (s : ByteArray) (w : World) (hs : s.size ≤ 281474976710656) : Calls Try.prog 47 #[.string s] w fun e w' => e = .returned (.string s) ∧ Below w.heap.size w w' := by
  go_enter Try.func47, Try.ntmps47
  go_wp2_with (go_at_call 73; refine (Try.stringslite_Clone s _ hs).mono ?_; rintro e w1 ⟨rfl, hb⟩)
  go_ret
  exact ⟨rfl, hb⟩
theorem sclone_l (l : List UInt8) (w : World) (hs : l.length ≤ 281474976710656) : Calls Try.prog 47 #[.string ⟨l.toArray⟩] w fun e w' => e = .returned (.string ⟨l.toArray⟩) ∧ Below w.heap.size w w' := sclone_any _ w (by show l.toArray.size ≤ _; simpa using hs)
set_option maxRecDepth 100000 in
set_option maxHeartbeats 1000000 in
theorem list_any (l : List UInt8) (hl : l.length ≤ 9223372036854775807) (w : World) : Calls Try.prog 16 #[.string ⟨l.toArray⟩] w fun e w' => e = .returned (.tuple #[.string ⟨(elT l).1.toArray⟩, .bool (elT l).2]) ∧ Below w.heap.size w w' := by
  have hK := kindOf_any l hl w
  rcases h : tyOf l with _ | T
  · have hk : kdOf l = 0 := by unfold kdOf; rw [h]
    have he : elT l = ([], false) := by unfold elT; rw [h]
    rw [hk] at hK; rw [he]
    clear h hk he
    go_enter Try.func16, Try.ntmps16
    go_wp2_with (go_at_call 48; refine hK.mono ?_; rintro e w' ⟨rfl, rfl⟩)
    go_ret2
    exact ⟨rfl, Below.refl _ _⟩
  · have hk : kdOf l = kd T := by unfold kdOf; rw [h]
    obtain ⟨h1, h2⟩ := (tyOf_iff _ _).1 h
    rw [hk] at hK
    by_cases h4 : kd T = 4
    · cases T with
      | list t =>
        have he : elT l = (tyT t, true) := by unfold elT; rw [h]
        rw [he]
        clear h hk he
        subst h1
        have hlen := tyT_len t
        simp only [Ty.dp] at h2
        have hI := inside_l 91 93 (tyT t) (by omega) w
        have hC := sclone_l (tyT t) w (by omega)
        have e : tyT (.list t) = 91 :: (tyT t ++ [93]) := rfl
        rw [← e] at hI
        have e4 : kd (.list t) = 4 := rfl
        rw [e4] at hK
        clear e e4 h4 hl
        generalize tyT (.list t) = z at *
        generalize tyT t = y at *
        clear hlen
        go_enter Try.func16, Try.ntmps16
        go_wp2_with fail
        refine hK.mono ?_
        rintro e w' ⟨rfl, rfl⟩
        go_wp2_with fail
        refine hI.mono ?_
        rintro e w' ⟨rfl, rfl⟩
        go_wp2_with fail
        refine hC.mono ?_
        rintro e w' ⟨rfl, hb⟩
        go_wp2
        go_ret2
        exact ⟨rfl, hb⟩
      | _ => exact absurd h4 (by simp [kd])
    · have he : elT l = ([], false) := by
        unfold elT; rw [h]
        cases T <;> first | rfl | exact absurd rfl h4
      rw [he]
      have h4' : (kd T != 4) = true := by simp [h4]
      clear h hk he h1
      generalize kd T = z at *
      go_enter Try.func16, Try.ntmps16
      go_wp2_with (go_at_call 48; refine hK.mono ?_; rintro e w' ⟨rfl, rfl⟩)
      go_ret2
      exact ⟨rfl, Below.refl _ _⟩
theorem ib_colon : ∀ (k : Bool) (y : List UInt8), Lib.indexByte (keyT k ++ 58 :: y) 58 = (keyT k).length := by
  intro k y
  cases k <;> simp [keyT, Lib.indexByte]
set_option maxRecDepth 100000 in
set_option maxHeartbeats 1000000 in
theorem lindex_l (k : Bool) (y : List UInt8) (w : World) (hy : y.length ≤ 1000) : Calls Try.prog 92 #[.string ⟨(keyT k ++ 58 :: y).toArray⟩, .string ⟨#[58]⟩] w fun e w' => e = .returned (.int .i64 (keyT k).length) ∧ w' = w := by
  have hI := Try.stringslite_IndexByte ⟨(keyT k ++ 58 :: y).toArray⟩ 58 w
  rw [show (⟨(keyT k ++ 58 :: y).toArray⟩ : ByteArray).data.toList = keyT k ++ 58 :: y from by simp, show (58 : Int).toNat.toUInt8 = 58 from by decide, ib_colon] at hI
  have hne : ((⟨#[58]⟩ : ByteArray).toList == (⟨(keyT k ++ 58 :: y).toArray⟩ : ByteArray).toList) = false := by
    rw [ByteArray.toList_eq, ByteArray.toList_eq]; cases k <;> simp [keyT]
  have hne2 : (keyT k ++ 58 :: y == [58]) = false := by cases k <;> simp [keyT]
  have hne3 : ([58] == keyT k ++ 58 :: y) = false := by cases k <;> simp [keyT]
  generalize keyT k ++ 58 :: y = z at *
  go_enter Try.func92, Try.ntmps92
  go_wp2_with fail
  refine hI.mono ?_
  rintro e w' ⟨rfl, rfl⟩
  go_wp2
  go_ret
  exact ⟨rfl, rfl⟩
end Go.Proofs.Ytkbplffckkjbfaa
