/- A map's types; values made of nothing: the program's. -/
import Derived.Test.YtkbplffckkjbfaaVm
namespace Go.Proofs.Ytkbplffckkjbfaa
open Go.RowKit
set_option linter.unusedVariables false
set_option linter.unusedSimpArgs false

set_option maxRecDepth 100000 in
set_option maxHeartbeats 1000000 in
theorem lcut_l (k : Bool) (y : List UInt8) (w : World) (hy : y.length ≤ 1000) : Calls Try.prog 74 #[.string ⟨(keyT k ++ 58 :: y).toArray⟩, .string ⟨#[58]⟩] w fun e w' => e = .returned (.tuple #[.string ⟨(keyT k).toArray⟩, .string ⟨y.toArray⟩, .bool true]) ∧ Below w.heap.size w w' := by
  have hI := lindex_l k y w hy
  have hz : (⟨(keyT k ++ 58 :: y).toArray⟩ : ByteArray).size = (keyT k).length + 1 + y.length := by show (keyT k ++ 58 :: y).toArray.size = _; simp; omega
  have h1 : (⟨(keyT k ++ 58 :: y).toArray⟩ : ByteArray).extract 0 (keyT k).length = ⟨(keyT k).toArray⟩ := ba_eq (by rw [ext_list]; simp)
  have h2 : (⟨(keyT k ++ 58 :: y).toArray⟩ : ByteArray).extract ((keyT k).length + 1) ((keyT k).length + 1 + y.length) = ⟨y.toArray⟩ := ba_eq (by
    rw [ext_list, List.take_of_length_le (by simp; omega), List.drop_append]
    simp)
  have hkl : (keyT k).length ≤ 4 := by cases k <;> simp [keyT]
  generalize (⟨(keyT k ++ 58 :: y).toArray⟩ : ByteArray) = s at *
  generalize hn : (keyT k).length = n at *
  clear hn
  generalize keyT k = kt at *
  have b1 : (0 : Int) ≤ (n : Int) := by omega
  have b2 : (n : Int) ≤ (s.size : Int) := by omega
  have b3 : (n : Int) + 1 ≤ (s.size : Int) := by omega
  go_enter Try.func74, Try.ntmps74
  go_wp2_with fail
  refine hI.mono ?_
  rintro e w' ⟨rfl, rfl⟩
  clear hI
  go_wp2_with fail
  go_quiet (fail)
  go_wp2
  go_ret3
  exact ⟨rfl, below_drewN _ _⟩
set_option maxRecDepth 100000 in
set_option maxHeartbeats 1000000 in
theorem scut_l (k : Bool) (y : List UInt8) (w : World) (hy : y.length ≤ 1000) : Calls Try.prog 50 #[.string ⟨(keyT k ++ 58 :: y).toArray⟩, .string ⟨#[58]⟩] w fun e w' => e = .returned (.tuple #[.string ⟨(keyT k).toArray⟩, .string ⟨y.toArray⟩, .bool true]) ∧ Below w.heap.size w w' := by
  have hI := lcut_l k y w hy
  generalize (⟨(keyT k ++ 58 :: y).toArray⟩ : ByteArray) = s at *
  go_enter Try.func50, Try.ntmps50
  go_wp2_with fail
  refine hI.mono ?_
  rintro e w' ⟨rfl, hb⟩
  clear hI
  go_wp2
  go_ret3
  exact ⟨rfl, hb⟩
set_option maxRecDepth 100000 in
set_option maxHeartbeats 1000000 in
theorem map_any (l : List UInt8) (hl : l.length ≤ 9223372036854775807) (w : World) : Calls Try.prog 17 #[.string ⟨l.toArray⟩] w fun e w' => e = .returned (.tuple #[.string ⟨(mpT l).1.toArray⟩, .string ⟨(mpT l).2.1.toArray⟩, .bool (mpT l).2.2]) ∧ Below w.heap.size w w' := by
  have hK := kindOf_any l hl w
  rcases h : tyOf l with _ | T
  · have hk : kdOf l = 0 := by unfold kdOf; rw [h]
    have he : mpT l = ([], [], false) := by unfold mpT; rw [h]
    rw [hk] at hK; rw [he]
    clear h hk he
    go_enter Try.func17, Try.ntmps17
    go_wp2_with (go_at_call 48; refine hK.mono ?_; rintro e w' ⟨rfl, rfl⟩)
    go_ret3
    exact ⟨rfl, Below.refl _ _⟩
  · have hk : kdOf l = kd T := by unfold kdOf; rw [h]
    obtain ⟨h1, h2⟩ := (tyOf_iff _ _).1 h
    rw [hk] at hK
    by_cases h4 : kd T = 5
    · cases T with
      | map k t =>
        have he : mpT l = (keyT k, tyT t, true) := by unfold mpT; rw [h]
        rw [he]
        clear h hk he
        subst h1
        have hlen := tyT_len t
        have hkl : (keyT k).length ≤ 4 := by cases k <;> simp [keyT]
        simp only [Ty.dp] at h2
        have hI := inside_l 123 125 (keyT k ++ 58 :: tyT t) (by simp; omega) w
        have hC := scut_l k (tyT t) w (by omega)
        have hC1 := fun w => sclone_l (keyT k) w (by omega)
        have hC2 := fun w => sclone_l (tyT t) w (by omega)
        have e : tyT (.map k t) = 123 :: ((keyT k ++ 58 :: tyT t) ++ [125]) := by simp [tyT]
        rw [← e] at hI
        have e4 : kd (.map k t) = 5 := rfl
        rw [e4] at hK
        clear e e4 h4 hl
        generalize tyT (.map k t) = z at *
        generalize keyT k ++ 58 :: tyT t = m at *
        generalize tyT t = y at *
        generalize keyT k = kt at *
        clear hlen hkl
        go_enter Try.func17, Try.ntmps17
        go_wp2_with fail
        refine hK.mono ?_
        rintro e w' ⟨rfl, rfl⟩
        go_wp2_with fail
        refine hI.mono ?_
        rintro e w' ⟨rfl, rfl⟩
        go_wp2_with fail
        refine hC.mono ?_
        rintro e w2 ⟨rfl, hb2⟩
        go_wp2_with fail
        refine (hC1 _).mono ?_
        rintro e w3 ⟨rfl, hb3⟩
        go_wp2_with fail
        refine (hC2 _).mono ?_
        rintro e w4 ⟨rfl, hb4⟩
        go_wp2
        go_ret3
        exact ⟨rfl, hb2.trans ((hb3.trans (hb4.mono hb3.size)).mono hb2.size)⟩
      | _ => exact absurd h4 (by simp [kd])
    · have he : mpT l = ([], [], false) := by
        unfold mpT; rw [h]
        cases T <;> first | rfl | exact absurd rfl h4
      rw [he]
      have h4' : (kd T != 5) = true := by simp [h4]
      clear h hk he h1
      generalize kd T = z at *
      go_enter Try.func17, Try.ntmps17
      go_wp2_with (go_at_call 48; refine hK.mono ?_; rintro e w' ⟨rfl, rfl⟩)
      go_ret3
      exact ⟨rfl, Below.refl _ _⟩
set_option maxRecDepth 100000 in
set_option maxHeartbeats 1000000 in
theorem zero_any (l : List UInt8) (hl : l.length ≤ 9223372036854775807) (w : World) : Calls Try.prog 20 #[.string ⟨l.toArray⟩] w fun e w' => e = .returned (.agg #[.int .i64 (kdOf l), .int .i64 0, .string ⟨#[]⟩, .slice none 0 0]) ∧ Below w.heap.size w w' := by
  have hK := kindOf_any l hl
  generalize kdOf l = z at *
  go_enter Try.func20, Try.ntmps20
  go_wp2_with (go_at_call 48; refine (hK _).mono ?_; rintro e w' ⟨rfl, rfl⟩)
  exact bodyPost_ret (v := .agg #[.int .i64 z, .int .i64 0, .string ⟨#[]⟩, .slice none 0 0]) (by simp [results, Try.results20, go_sem]) rfl ⟨rfl, (Below.refl _ _).alloc (Nat.le_refl _) _⟩
set_option maxRecDepth 100000 in
set_option maxHeartbeats 1000000 in
theorem int_any (n : Int) (w : World) : Calls Try.prog 14 #[.int .i64 n] w fun e w' => e = .returned (.agg #[.int .i64 1, .int .i64 n, .string ⟨#[]⟩, .slice none 0 0]) ∧ Below w.heap.size w w' := by
  go_enter Try.func14, Try.ntmps14
  go_wp2
  exact bodyPost_ret (v := .agg #[.int .i64 1, .int .i64 n, .string ⟨#[]⟩, .slice none 0 0]) (by simp [results, Try.results14, go_sem]) rfl ⟨rfl, (Below.refl _ _).alloc (Nat.le_refl _) _⟩
set_option maxRecDepth 100000 in
set_option maxHeartbeats 1000000 in
theorem bool_any (b : Bool) (w : World) : Calls Try.prog 12 #[.bool b] w fun e w' => e = .returned (.agg #[.int .i64 2, .int .i64 (if b then 1 else 0), .string ⟨#[]⟩, .slice none 0 0]) ∧ Below w.heap.size w w' := by
  cases b
  · go_enter Try.func12, Try.ntmps12
    go_wp2
    exact bodyPost_ret (v := .agg #[.int .i64 2, .int .i64 0, .string ⟨#[]⟩, .slice none 0 0]) (by simp [results, Try.results12, go_sem]) rfl ⟨rfl, ((Below.refl _ _).alloc (Nat.le_refl _) _).alloc (by simp) _⟩
  · go_enter Try.func12, Try.ntmps12
    go_wp2
    exact bodyPost_ret (v := .agg #[.int .i64 2, .int .i64 1, .string ⟨#[]⟩, .slice none 0 0]) (by simp [results, Try.results12, go_sem]) rfl ⟨rfl, ((Below.refl _ _).alloc (Nat.le_refl _) _).alloc (by simp) _⟩
set_option maxRecDepth 100000 in
set_option maxHeartbeats 1000000 in
theorem text_any (l : List UInt8) (hl : l.length ≤ 281474976710656) (w : World) : Calls Try.prog 15 #[.string ⟨l.toArray⟩] w fun e w' => e = .returned (.agg #[.int .i64 3, .int .i64 0, .string ⟨l.toArray⟩, .slice none 0 0]) ∧ Below w.heap.size w w' := by
  have hC := fun w => sclone_l l w hl
  obtain ⟨w0, hW, hb0, hs0, hr⟩ := rbox w
  go_enter Try.func15, Try.ntmps15
  go_wp2_with fail
  refine (hC _).mono ?_
  rintro e w3 ⟨rfl, hb3⟩
  obtain ⟨c0, c1, c2, c3, f0, f1, f2, f3, hz⟩ := hr w3 hb3
  clear hr hW
  go_wp2_with fail
  exact bodyPost_ret (v := .agg #[.int .i64 3, .int .i64 0, .string ⟨l.toArray⟩, .slice none 0 0]) (by simp [results, Try.results15, go_sem, hz, c0, c1, c2, c3]) rfl ⟨rfl, below_set4 (hb0.trans (hb3.mono (by omega))) (Nat.le_refl _) _ _ _ _⟩
end Go.Proofs.Ytkbplffckkjbfaa
