/- Parts of types, first values: the document's. -/
import Derived.Test.YtkbplffckkjbfaaVn
namespace Go.Proofs.Ytkbplffckkjbfaa
open Go.RowKit
set_option linter.unusedVariables false
set_option linter.unusedSimpArgs false

set_option maxRecDepth 100000 in
set_option maxHeartbeats 1000000 in
theorem rlist_any (l : List UInt8) (hl : l.length ≤ 9223372036854775807) (w : World) : Calls Try.prog 19 #[.string ⟨l.toArray⟩] w fun e w' => e = .returned (.string ⟨(elT l).1.toArray⟩) ∧ w' = w := by
  have hK := rtype_l l hl w
  unfold gType at hK
  rcases h : tyOf l with _ | T
  · have he : elT l = ([], false) := by unfold elT; rw [h]
    rw [h] at hK; rw [he]
    clear h he
    go_enter Try.func19, Try.ntmps19
    go_wp2_with (go_at_call 44; refine hK.mono ?_; rintro e w' ⟨rfl, rfl⟩)
    go_ret
    exact ⟨rfl, rfl⟩
  · obtain ⟨h1, h2⟩ := (tyOf_iff _ _).1 h
    rw [h] at hK
    have hlen := tyT_len T
    rcases T with _ | _ | _ | t | ⟨k, t⟩
    · have he : elT l = ([], false) := by unfold elT; rw [h]
      rw [he]
      clear h he
      subst h1
      go_enter Try.func19, Try.ntmps19
      go_wp2_with (go_at_call 44; refine hK.mono ?_; rintro e w' ⟨rfl, rfl⟩)
      go_ret
      exact ⟨rfl, rfl⟩
    · have he : elT l = ([], false) := by unfold elT; rw [h]
      rw [he]
      clear h he
      subst h1
      go_enter Try.func19, Try.ntmps19
      go_wp2_with (go_at_call 44; refine hK.mono ?_; rintro e w' ⟨rfl, rfl⟩)
      go_ret
      exact ⟨rfl, rfl⟩
    · have he : elT l = ([], false) := by unfold elT; rw [h]
      rw [he]
      clear h he
      subst h1
      go_enter Try.func19, Try.ntmps19
      go_wp2_with (go_at_call 44; refine hK.mono ?_; rintro e w' ⟨rfl, rfl⟩)
      go_ret
      exact ⟨rfl, rfl⟩
    · have he : elT l = (tyT t, true) := by unfold elT; rw [h]
      rw [he]
      clear h he
      subst h1
      have hlt := tyT_len t
      have e : tyT (.list t) = 91 :: (tyT t ++ [93]) := rfl
      have hz : (⟨(tyT (.list t)).toArray⟩ : ByteArray).size = (tyT t).length + 2 := by rw [e]; show (91 :: (tyT t ++ [93])).toArray.size = _; simp
      have hx : (⟨(tyT (.list t)).toArray⟩ : ByteArray).extract 1 ((tyT t).length + 2 - 1) = ⟨(tyT t).toArray⟩ := ba_eq (by rw [ext_list, e]; simp)
      rw [e] at hK hz hx ⊢
      generalize tyT t = y at *
      simp only [Ty.dp] at h2
      clear hlen e
      go_enter Try.func19, Try.ntmps19
      go_wp2_with (go_at_call 44; refine hK.mono ?_; rintro e w' ⟨rfl, rfl⟩)
      go_ret
      exact ⟨by first | rfl | exact congrArg (fun x => Ending.returned (.string x)) hx, rfl⟩
    · have he : elT l = ([], false) := by unfold elT; rw [h]
      rw [he]
      clear h he
      subst h1
      have e : tyT (.map k t) = 123 :: (keyT k ++ 58 :: (tyT t ++ [125])) := by simp [tyT]
      rw [e] at hK hlen ⊢
      generalize keyT k ++ 58 :: (tyT t ++ [125]) = r at *
      simp only [List.length_cons] at hlen
      clear e h2
      go_enter Try.func19, Try.ntmps19
      go_wp2_with (go_at_call 44; refine hK.mono ?_; rintro e w' ⟨rfl, rfl⟩)
      go_ret
      exact ⟨rfl, rfl⟩
set_option maxRecDepth 100000 in
set_option maxHeartbeats 1000000 in
theorem rmap_any (l : List UInt8) (hl : l.length ≤ 9223372036854775807) (w : World) : Calls Try.prog 18 #[.string ⟨l.toArray⟩] w fun e w' => e = .returned (.tuple #[.string ⟨(mpT l).1.toArray⟩, .string ⟨(mpT l).2.1.toArray⟩]) ∧ Below w.heap.size w w' := by
  have hK := rtype_l l hl w
  unfold gType at hK
  rcases h : tyOf l with _ | T
  · have he : mpT l = ([], [], false) := by unfold mpT; rw [h]
    rw [h] at hK; rw [he]
    clear h he
    go_enter Try.func18, Try.ntmps18
    go_wp2_with (go_at_call 44; refine hK.mono ?_; rintro e w' ⟨rfl, rfl⟩)
    go_ret2
    exact ⟨rfl, Below.refl _ _⟩
  · obtain ⟨h1, h2⟩ := (tyOf_iff _ _).1 h
    rw [h] at hK
    have hlen := tyT_len T
    rcases T with _ | _ | _ | t | ⟨k, t⟩
    · have he : mpT l = ([], [], false) := by unfold mpT; rw [h]
      rw [he]
      clear h he
      subst h1
      go_enter Try.func18, Try.ntmps18
      go_wp2_with (go_at_call 44; refine hK.mono ?_; rintro e w' ⟨rfl, rfl⟩)
      go_ret2
      exact ⟨rfl, Below.refl _ _⟩
    · have he : mpT l = ([], [], false) := by unfold mpT; rw [h]
      rw [he]
      clear h he
      subst h1
      go_enter Try.func18, Try.ntmps18
      go_wp2_with (go_at_call 44; refine hK.mono ?_; rintro e w' ⟨rfl, rfl⟩)
      go_ret2
      exact ⟨rfl, Below.refl _ _⟩
    · have he : mpT l = ([], [], false) := by unfold mpT; rw [h]
      rw [he]
      clear h he
      subst h1
      go_enter Try.func18, Try.ntmps18
      go_wp2_with (go_at_call 44; refine hK.mono ?_; rintro e w' ⟨rfl, rfl⟩)
      go_ret2
      exact ⟨rfl, Below.refl _ _⟩
    · have he : mpT l = ([], [], false) := by unfold mpT; rw [h]
      rw [he]
      clear h he
      subst h1
      have e : tyT (.list t) = 91 :: (tyT t ++ [93]) := rfl
      rw [e] at hK hlen ⊢
      generalize tyT t ++ [93] = r at *
      simp only [List.length_cons] at hlen
      clear e h2
      go_enter Try.func18, Try.ntmps18
      go_wp2_with (go_at_call 44; refine hK.mono ?_; rintro e w' ⟨rfl, rfl⟩)
      go_ret2
      exact ⟨rfl, Below.refl _ _⟩
    · have he : mpT l = (keyT k, tyT t, true) := by unfold mpT; rw [h]
      rw [he]
      clear h he
      subst h1
      have hlt := tyT_len t
      simp only [Ty.dp] at h2
      cases k
      · have e : tyT (.map false t) = 123 :: 116 :: 101 :: 120 :: 116 :: 58 :: (tyT t ++ [125]) := by simp [tyT, keyT]
        have hz : (⟨(tyT (.map false t)).toArray⟩ : ByteArray).size = (tyT t).length + 7 := by rw [e]; show (123 :: 116 :: 101 :: 120 :: 116 :: 58 :: (tyT t ++ [125])).toArray.size = _; simp
        have hx : (⟨(tyT (.map false t)).toArray⟩ : ByteArray).extract 6 ((tyT t).length + 7 - 1) = ⟨(tyT t).toArray⟩ := ba_eq (by rw [ext_list, e]; simp)
        have hx2 : (⟨(tyT (.map false t)).toArray⟩ : ByteArray).extract 6 ((tyT t).length + 6) = ⟨(tyT t).toArray⟩ := ba_eq (by rw [ext_list, e]; simp)
        have hkt : keyT false = [116, 101, 120, 116] := rfl
        rw [hkt]
        rw [e] at hK hz hx hx2 ⊢
        generalize tyT t = y at *
        clear hlen e hkt
        go_enter Try.func18, Try.ntmps18
        go_wp2_with (go_at_call 44; refine hK.mono ?_; rintro e w' ⟨rfl, rfl⟩)
        go_quiet (fail)
        go_wp2
        go_ret2
        exact ⟨by first | rfl | (simp [hx, hx2]), below_drewN _ _⟩
      · have e : tyT (.map true t) = 123 :: 105 :: 110 :: 116 :: 58 :: (tyT t ++ [125]) := by simp [tyT, keyT]
        have hz : (⟨(tyT (.map true t)).toArray⟩ : ByteArray).size = (tyT t).length + 6 := by rw [e]; show (123 :: 105 :: 110 :: 116 :: 58 :: (tyT t ++ [125])).toArray.size = _; simp
        have hx : (⟨(tyT (.map true t)).toArray⟩ : ByteArray).extract 5 ((tyT t).length + 6 - 1) = ⟨(tyT t).toArray⟩ := ba_eq (by rw [ext_list, e]; simp)
        have hx2 : (⟨(tyT (.map true t)).toArray⟩ : ByteArray).extract 5 ((tyT t).length + 5) = ⟨(tyT t).toArray⟩ := ba_eq (by rw [ext_list, e]; simp)
        have hkt : keyT true = [105, 110, 116] := rfl
        rw [hkt]
        rw [e] at hK hz hx hx2 ⊢
        generalize tyT t = y at *
        clear hlen e hkt
        go_enter Try.func18, Try.ntmps18
        go_wp2_with (go_at_call 44; refine hK.mono ?_; rintro e w' ⟨rfl, rfl⟩)
        go_quiet (fail)
        go_wp2
        go_ret2
        exact ⟨by first | rfl | (simp [hx, hx2]), below_drewN _ _⟩
set_option maxRecDepth 100000 in
set_option maxHeartbeats 1000000 in
theorem rzero_any (l : List UInt8) (hl : l.length ≤ 9223372036854775807) (w : World) : Calls Try.prog 21 #[.string ⟨l.toArray⟩] w fun e w' => e = .returned (.agg #[.int .i64 (kdOf l), .int .i64 0, .string ⟨#[]⟩, .slice none 0 0]) ∧ Below w.heap.size w w' := by
  have hK := fun w => rtype_l l hl w
  have hL := fun w => rlist_any l hl w
  unfold gType at hK
  rcases h : tyOf l with _ | T
  · have hk : Hid (kdOf l = 0) := by show _ = _; unfold kdOf; rw [h]
    have he : elT l = ([], false) := by unfold elT; rw [h]
    rw [he] at hL
    have n1 : (l == [105, 110, 116]) = false := by rw [beq_eq_false_iff_ne]; intro h1; rw [h1] at h; exact absurd h (by decide)
    have n2 : (l == [98, 111, 111, 108]) = false := by rw [beq_eq_false_iff_ne]; intro h1; rw [h1] at h; exact absurd h (by decide)
    have n3 : (l == [116, 101, 120, 116]) = false := by rw [beq_eq_false_iff_ne]; intro h1; rw [h1] at h; exact absurd h (by decide)
    rw [h] at hK
    rw [hk.out]
    clear h he hk
    go_enter Try.func21, Try.ntmps21
    go_wp2_with (first | (go_at_call 44; refine (hK _).mono ?_; rintro e w' ⟨rfl, rfl⟩) | (go_at_call 19; refine (hL _).mono ?_; rintro e w' ⟨rfl, rfl⟩))
    exact bodyPost_ret (v := .agg #[.int .i64 0, .int .i64 0, .string ⟨#[]⟩, .slice none 0 0]) (by simp [results, Try.results21, go_sem]) rfl ⟨rfl, (Below.refl _ _).alloc (Nat.le_refl _) _⟩
  · have hk : Hid (kdOf l = kd T) := by show _ = _; unfold kdOf; rw [h]
    obtain ⟨h1, h2⟩ := (tyOf_iff _ _).1 h
    have hlen := tyT_len T
    rw [h] at hK
    rw [hk.out]
    rcases T with _ | _ | _ | t | ⟨k, t⟩
    · show Calls _ _ _ _ fun e w' => e = .returned (.agg #[.int .i64 1, .int .i64 0, .string ⟨#[]⟩, .slice none 0 0]) ∧ _
      clear hk h hL
      subst h1
      go_enter Try.func21, Try.ntmps21
      go_wp2_with (first | (go_at_call 44; refine (hK _).mono ?_; rintro e w' ⟨rfl, rfl⟩) | (go_at_call 19; refine (hL _).mono ?_; rintro e w' ⟨rfl, rfl⟩))
      exact bodyPost_ret (v := .agg #[.int .i64 1, .int .i64 0, .string ⟨#[]⟩, .slice none 0 0]) (by simp [results, Try.results21, go_sem]) rfl ⟨rfl, (Below.refl _ _).alloc (Nat.le_refl _) _⟩
    · show Calls _ _ _ _ fun e w' => e = .returned (.agg #[.int .i64 2, .int .i64 0, .string ⟨#[]⟩, .slice none 0 0]) ∧ _
      clear hk h hL
      subst h1
      go_enter Try.func21, Try.ntmps21
      go_wp2_with (first | (go_at_call 44; refine (hK _).mono ?_; rintro e w' ⟨rfl, rfl⟩) | (go_at_call 19; refine (hL _).mono ?_; rintro e w' ⟨rfl, rfl⟩))
      exact bodyPost_ret (v := .agg #[.int .i64 2, .int .i64 0, .string ⟨#[]⟩, .slice none 0 0]) (by simp [results, Try.results21, go_sem]) rfl ⟨rfl, (Below.refl _ _).alloc (Nat.le_refl _) _⟩
    · show Calls _ _ _ _ fun e w' => e = .returned (.agg #[.int .i64 3, .int .i64 0, .string ⟨#[]⟩, .slice none 0 0]) ∧ _
      clear hk h hL
      subst h1
      go_enter Try.func21, Try.ntmps21
      go_wp2_with (first | (go_at_call 44; refine (hK _).mono ?_; rintro e w' ⟨rfl, rfl⟩) | (go_at_call 19; refine (hL _).mono ?_; rintro e w' ⟨rfl, rfl⟩))
      exact bodyPost_ret (v := .agg #[.int .i64 3, .int .i64 0, .string ⟨#[]⟩, .slice none 0 0]) (by simp [results, Try.results21, go_sem]) rfl ⟨rfl, (Below.refl _ _).alloc (Nat.le_refl _) _⟩
    · show Calls _ _ _ _ fun e w' => e = .returned (.agg #[.int .i64 4, .int .i64 0, .string ⟨#[]⟩, .slice none 0 0]) ∧ _
      have he : elT l = (tyT t, true) := by unfold elT; rw [h]
      rw [he] at hL
      clear hk h he
      subst h1
      obtain ⟨c, r, hc, -, -⟩ := tyT_first t
      have e : tyT (.list t) = 91 :: (tyT t ++ [93]) := rfl
      rw [e] at hL ⊢
      rw [hc] at hL ⊢
      clear e hlen h2 hK
      go_enter Try.func21, Try.ntmps21
      go_wp2_with (first | (go_at_call 44; refine (hK _).mono ?_; rintro e w' ⟨rfl, rfl⟩) | (go_at_call 19; refine (hL _).mono ?_; rintro e w' ⟨rfl, rfl⟩))
      exact bodyPost_ret (v := .agg #[.int .i64 4, .int .i64 0, .string ⟨#[]⟩, .slice none 0 0]) (by simp [results, Try.results21, go_sem]) rfl ⟨rfl, (Below.refl _ _).alloc (Nat.le_refl _) _⟩
    · show Calls _ _ _ _ fun e w' => e = .returned (.agg #[.int .i64 5, .int .i64 0, .string ⟨#[]⟩, .slice none 0 0]) ∧ _
      have he : elT l = ([], false) := by unfold elT; rw [h]
      rw [he] at hL
      clear hk h he
      subst h1
      have e : tyT (.map k t) = 123 :: (keyT k ++ 58 :: (tyT t ++ [125])) := by simp [tyT]
      rw [e] at hL hK ⊢
      generalize keyT k ++ 58 :: (tyT t ++ [125]) = r at *
      clear e hlen h2
      go_enter Try.func21, Try.ntmps21
      go_wp2_with (first | (go_at_call 44; refine (hK _).mono ?_; rintro e w' ⟨rfl, rfl⟩) | (go_at_call 19; refine (hL _).mono ?_; rintro e w' ⟨rfl, rfl⟩))
      exact bodyPost_ret (v := .agg #[.int .i64 5, .int .i64 0, .string ⟨#[]⟩, .slice none 0 0]) (by simp [results, Try.results21, go_sem]) rfl ⟨rfl, (Below.refl _ _).alloc (Nat.le_refl _) _⟩
end Go.Proofs.Ytkbplffckkjbfaa
