/- Texts of ours, joined: Rk, Vb, Vi. -/
import Derived.Test.YtndahpcjkcihlaaG08
import Derived.Test.YtndahpcjkcihlaaG05
import Derived.Deep.LoopGhost
/- Parts of types, first values: the document's. -/
namespace Go.Proofs.Ytndahpcjkcihlaa
open Go.RowKit
set_option linter.unusedVariables false
set_option linter.unusedSimpArgs false

set_option maxRecDepth 100000 in
set_option maxHeartbeats 1000000 in
theorem rlist_any (l : List UInt8) (hl : l.length ≤ 9223372036854775807) (w : World) : Calls Try.prog 62 #[.string ⟨l.toArray⟩] w fun e w' => e = .returned (.string ⟨(elT l).1.toArray⟩) ∧ w' = w := by
  have hK := rtype_l l hl w
  unfold gType at hK
  rcases h : tyOf l with _ | T
  · have he : elT l = ([], false) := by unfold elT; rw [h]
    rw [h] at hK; rw [he]
    clear h he
    go_enter Try.func62, Try.ntmps62
    go_wp2_with (go_at_call 33; refine hK.mono ?_; rintro e w' ⟨rfl, rfl⟩)
    go_ret
    exact ⟨rfl, rfl⟩
  · obtain ⟨h1, h2⟩ := (tyOf_iff _ _).1 h
    rw [h] at hK
    have hlen := tyT_len T
    rcases T with _ | _ | _ | t | ⟨k, t⟩
    · have he : elT l = ([], false) := by unfold elT; rw [h]
      rw [he]
      clear h he
      subst h1
      go_enter Try.func62, Try.ntmps62
      go_wp2_with (go_at_call 33; refine hK.mono ?_; rintro e w' ⟨rfl, rfl⟩)
      go_ret
      exact ⟨rfl, rfl⟩
    · have he : elT l = ([], false) := by unfold elT; rw [h]
      rw [he]
      clear h he
      subst h1
      go_enter Try.func62, Try.ntmps62
      go_wp2_with (go_at_call 33; refine hK.mono ?_; rintro e w' ⟨rfl, rfl⟩)
      go_ret
      exact ⟨rfl, rfl⟩
    · have he : elT l = ([], false) := by unfold elT; rw [h]
      rw [he]
      clear h he
      subst h1
      go_enter Try.func62, Try.ntmps62
      go_wp2_with (go_at_call 33; refine hK.mono ?_; rintro e w' ⟨rfl, rfl⟩)
      go_ret
      exact ⟨rfl, rfl⟩
    · have he : elT l = (tyT t, true) := by unfold elT; rw [h]
      rw [he]
      clear h he
      subst h1
      have hlt := tyT_len t
      have e : tyT (.list t) = 91 :: (tyT t ++ [93]) := rfl
      have hz : (⟨(tyT (.list t)).toArray⟩ : ByteArray).size = (tyT t).length + 2 := by rw [e]; show (91 :: (tyT t ++ [93])).toArray.size = _; simp
      have hx : (⟨(tyT (.list t)).toArray⟩ : ByteArray).extract 1 ((tyT t).length + 2 - 1) = ⟨(tyT t).toArray⟩ := ba_eq (by rw [ext_list, e]; simp)
      rw [e] at hK hz hx ⊢
      generalize tyT t = y at *
      simp only [Ty.dp] at h2
      clear hlen e
      go_enter Try.func62, Try.ntmps62
      go_wp2_with (go_at_call 33; refine hK.mono ?_; rintro e w' ⟨rfl, rfl⟩)
      go_ret
      exact ⟨by first | rfl | exact congrArg (fun x => Ending.returned (.string x)) hx, rfl⟩
    · have he : elT l = ([], false) := by unfold elT; rw [h]
      rw [he]
      clear h he
      subst h1
      have e : tyT (.map k t) = 123 :: (keyT k ++ 58 :: (tyT t ++ [125])) := by simp [tyT]
      rw [e] at hK hlen ⊢
      generalize keyT k ++ 58 :: (tyT t ++ [125]) = r at *
      simp only [List.length_cons] at hlen
      clear e h2
      go_enter Try.func62, Try.ntmps62
      go_wp2_with (go_at_call 33; refine hK.mono ?_; rintro e w' ⟨rfl, rfl⟩)
      go_ret
      exact ⟨rfl, rfl⟩
set_option maxRecDepth 100000 in
set_option maxHeartbeats 1000000 in
theorem rmap_any (l : List UInt8) (hl : l.length ≤ 9223372036854775807) (w : World) : Calls Try.prog 63 #[.string ⟨l.toArray⟩] w fun e w' => e = .returned (.tuple #[.string ⟨(mpT l).1.toArray⟩, .string ⟨(mpT l).2.1.toArray⟩]) ∧ Below w.heap.size w w' := by
  have hK := rtype_l l hl w
  unfold gType at hK
  rcases h : tyOf l with _ | T
  · have he : mpT l = ([], [], false) := by unfold mpT; rw [h]
    rw [h] at hK; rw [he]
    clear h he
    go_enter Try.func63, Try.ntmps63
    go_wp2_with (go_at_call 33; refine hK.mono ?_; rintro e w' ⟨rfl, rfl⟩)
    go_ret2
    exact ⟨rfl, Below.refl _ _⟩
  · obtain ⟨h1, h2⟩ := (tyOf_iff _ _).1 h
    rw [h] at hK
    have hlen := tyT_len T
    rcases T with _ | _ | _ | t | ⟨k, t⟩
    · have he : mpT l = ([], [], false) := by unfold mpT; rw [h]
      rw [he]
      clear h he
      subst h1
      go_enter Try.func63, Try.ntmps63
      go_wp2_with (go_at_call 33; refine hK.mono ?_; rintro e w' ⟨rfl, rfl⟩)
      go_ret2
      exact ⟨rfl, Below.refl _ _⟩
    · have he : mpT l = ([], [], false) := by unfold mpT; rw [h]
      rw [he]
      clear h he
      subst h1
      go_enter Try.func63, Try.ntmps63
      go_wp2_with (go_at_call 33; refine hK.mono ?_; rintro e w' ⟨rfl, rfl⟩)
      go_ret2
      exact ⟨rfl, Below.refl _ _⟩
    · have he : mpT l = ([], [], false) := by unfold mpT; rw [h]
      rw [he]
      clear h he
      subst h1
      go_enter Try.func63, Try.ntmps63
      go_wp2_with (go_at_call 33; refine hK.mono ?_; rintro e w' ⟨rfl, rfl⟩)
      go_ret2
      exact ⟨rfl, Below.refl _ _⟩
    · have he : mpT l = ([], [], false) := by unfold mpT; rw [h]
      rw [he]
      clear h he
      subst h1
      have e : tyT (.list t) = 91 :: (tyT t ++ [93]) := rfl
      rw [e] at hK hlen ⊢
      generalize tyT t ++ [93] = r at *
      simp only [List.length_cons] at hlen
      clear e h2
      go_enter Try.func63, Try.ntmps63
      go_wp2_with (go_at_call 33; refine hK.mono ?_; rintro e w' ⟨rfl, rfl⟩)
      go_ret2
      exact ⟨rfl, Below.refl _ _⟩
    · have he : mpT l = (keyT k, tyT t, true) := by unfold mpT; rw [h]
      rw [he]
      clear h he
      subst h1
      have hlt := tyT_len t
      simp only [Ty.dp] at h2
      cases k
      · have e : tyT (.map false t) = 123 :: 116 :: 101 :: 120 :: 116 :: 58 :: (tyT t ++ [125]) := by simp [tyT, keyT]
        have hz : (⟨(tyT (.map false t)).toArray⟩ : ByteArray).size = (tyT t).length + 7 := by rw [e]; show (123 :: 116 :: 101 :: 120 :: 116 :: 58 :: (tyT t ++ [125])).toArray.size = _; simp
        have hx : (⟨(tyT (.map false t)).toArray⟩ : ByteArray).extract 6 ((tyT t).length + 7 - 1) = ⟨(tyT t).toArray⟩ := ba_eq (by rw [ext_list, e]; simp)
        have hx2 : (⟨(tyT (.map false t)).toArray⟩ : ByteArray).extract 6 ((tyT t).length + 6) = ⟨(tyT t).toArray⟩ := ba_eq (by rw [ext_list, e]; simp)
        have hkt : keyT false = [116, 101, 120, 116] := rfl
        rw [hkt]
        rw [e] at hK hz hx hx2 ⊢
        generalize tyT t = y at *
        clear hlen e hkt
        go_enter Try.func63, Try.ntmps63
        go_wp2_with (go_at_call 33; refine hK.mono ?_; rintro e w' ⟨rfl, rfl⟩)
        go_quiet (fail)
        go_wp2
        go_ret2
        exact ⟨by first | rfl | (simp [hx, hx2]), below_drewN _ _⟩
      · have e : tyT (.map true t) = 123 :: 105 :: 110 :: 116 :: 58 :: (tyT t ++ [125]) := by simp [tyT, keyT]
        have hz : (⟨(tyT (.map true t)).toArray⟩ : ByteArray).size = (tyT t).length + 6 := by rw [e]; show (123 :: 105 :: 110 :: 116 :: 58 :: (tyT t ++ [125])).toArray.size = _; simp
        have hx : (⟨(tyT (.map true t)).toArray⟩ : ByteArray).extract 5 ((tyT t).length + 6 - 1) = ⟨(tyT t).toArray⟩ := ba_eq (by rw [ext_list, e]; simp)
        have hx2 : (⟨(tyT (.map true t)).toArray⟩ : ByteArray).extract 5 ((tyT t).length + 5) = ⟨(tyT t).toArray⟩ := ba_eq (by rw [ext_list, e]; simp)
        have hkt : keyT true = [105, 110, 116] := rfl
        rw [hkt]
        rw [e] at hK hz hx hx2 ⊢
        generalize tyT t = y at *
        clear hlen e hkt
        go_enter Try.func63, Try.ntmps63
        go_wp2_with (go_at_call 33; refine hK.mono ?_; rintro e w' ⟨rfl, rfl⟩)
        go_quiet (fail)
        go_wp2
        go_ret2
        exact ⟨by first | rfl | (simp [hx, hx2]), below_drewN _ _⟩
set_option maxRecDepth 100000 in
set_option maxHeartbeats 1000000 in
theorem rzero_any (l : List UInt8) (hl : l.length ≤ 9223372036854775807) (w : World) : Calls Try.prog 61 #[.string ⟨l.toArray⟩] w fun e w' => e = .returned (.agg #[.int .i64 (kdOf l), .int .i64 0, .string ⟨#[]⟩, .slice none 0 0]) ∧ Below w.heap.size w w' := by
  have hK := fun w => rtype_l l hl w
  have hL := fun w => rlist_any l hl w
  unfold gType at hK
  rcases h : tyOf l with _ | T
  · have hk : Hid (kdOf l = 0) := by show _ = _; unfold kdOf; rw [h]
    have he : elT l = ([], false) := by unfold elT; rw [h]
    rw [he] at hL
    have n1 : (l == [105, 110, 116]) = false := by rw [beq_eq_false_iff_ne]; intro h1; rw [h1] at h; exact absurd h (by decide)
    have n2 : (l == [98, 111, 111, 108]) = false := by rw [beq_eq_false_iff_ne]; intro h1; rw [h1] at h; exact absurd h (by decide)
    have n3 : (l == [116, 101, 120, 116]) = false := by rw [beq_eq_false_iff_ne]; intro h1; rw [h1] at h; exact absurd h (by decide)
    rw [h] at hK
    rw [hk.out]
    clear h he hk
    go_enter Try.func61, Try.ntmps61
    go_wp2_with (first | (go_at_call 33; refine (hK _).mono ?_; rintro e w' ⟨rfl, rfl⟩) | (go_at_call 62; refine (hL _).mono ?_; rintro e w' ⟨rfl, rfl⟩))
    exact bodyPost_ret (v := .agg #[.int .i64 0, .int .i64 0, .string ⟨#[]⟩, .slice none 0 0]) (by simp [results, Try.results61, go_sem]) rfl ⟨rfl, (Below.refl _ _).alloc (Nat.le_refl _) _⟩
  · have hk : Hid (kdOf l = kd T) := by show _ = _; unfold kdOf; rw [h]
    obtain ⟨h1, h2⟩ := (tyOf_iff _ _).1 h
    have hlen := tyT_len T
    rw [h] at hK
    rw [hk.out]
    rcases T with _ | _ | _ | t | ⟨k, t⟩
    · show Calls _ _ _ _ fun e w' => e = .returned (.agg #[.int .i64 1, .int .i64 0, .string ⟨#[]⟩, .slice none 0 0]) ∧ _
      clear hk h hL
      subst h1
      go_enter Try.func61, Try.ntmps61
      go_wp2_with (first | (go_at_call 33; refine (hK _).mono ?_; rintro e w' ⟨rfl, rfl⟩) | (go_at_call 62; refine (hL _).mono ?_; rintro e w' ⟨rfl, rfl⟩))
      exact bodyPost_ret (v := .agg #[.int .i64 1, .int .i64 0, .string ⟨#[]⟩, .slice none 0 0]) (by simp [results, Try.results61, go_sem]) rfl ⟨rfl, (Below.refl _ _).alloc (Nat.le_refl _) _⟩
    · show Calls _ _ _ _ fun e w' => e = .returned (.agg #[.int .i64 2, .int .i64 0, .string ⟨#[]⟩, .slice none 0 0]) ∧ _
      clear hk h hL
      subst h1
      go_enter Try.func61, Try.ntmps61
      go_wp2_with (first | (go_at_call 33; refine (hK _).mono ?_; rintro e w' ⟨rfl, rfl⟩) | (go_at_call 62; refine (hL _).mono ?_; rintro e w' ⟨rfl, rfl⟩))
      exact bodyPost_ret (v := .agg #[.int .i64 2, .int .i64 0, .string ⟨#[]⟩, .slice none 0 0]) (by simp [results, Try.results61, go_sem]) rfl ⟨rfl, (Below.refl _ _).alloc (Nat.le_refl _) _⟩
    · show Calls _ _ _ _ fun e w' => e = .returned (.agg #[.int .i64 3, .int .i64 0, .string ⟨#[]⟩, .slice none 0 0]) ∧ _
      clear hk h hL
      subst h1
      go_enter Try.func61, Try.ntmps61
      go_wp2_with (first | (go_at_call 33; refine (hK _).mono ?_; rintro e w' ⟨rfl, rfl⟩) | (go_at_call 62; refine (hL _).mono ?_; rintro e w' ⟨rfl, rfl⟩))
      exact bodyPost_ret (v := .agg #[.int .i64 3, .int .i64 0, .string ⟨#[]⟩, .slice none 0 0]) (by simp [results, Try.results61, go_sem]) rfl ⟨rfl, (Below.refl _ _).alloc (Nat.le_refl _) _⟩
    · show Calls _ _ _ _ fun e w' => e = .returned (.agg #[.int .i64 4, .int .i64 0, .string ⟨#[]⟩, .slice none 0 0]) ∧ _
      have he : elT l = (tyT t, true) := by unfold elT; rw [h]
      rw [he] at hL
      clear hk h he
      subst h1
      obtain ⟨c, r, hc, -, -⟩ := tyT_first t
      have e : tyT (.list t) = 91 :: (tyT t ++ [93]) := rfl
      rw [e] at hL ⊢
      rw [hc] at hL ⊢
      clear e hlen h2 hK
      go_enter Try.func61, Try.ntmps61
      go_wp2_with (first | (go_at_call 33; refine (hK _).mono ?_; rintro e w' ⟨rfl, rfl⟩) | (go_at_call 62; refine (hL _).mono ?_; rintro e w' ⟨rfl, rfl⟩))
      exact bodyPost_ret (v := .agg #[.int .i64 4, .int .i64 0, .string ⟨#[]⟩, .slice none 0 0]) (by simp [results, Try.results61, go_sem]) rfl ⟨rfl, (Below.refl _ _).alloc (Nat.le_refl _) _⟩
    · show Calls _ _ _ _ fun e w' => e = .returned (.agg #[.int .i64 5, .int .i64 0, .string ⟨#[]⟩, .slice none 0 0]) ∧ _
      have he : elT l = ([], false) := by unfold elT; rw [h]
      rw [he] at hL
      clear hk h he
      subst h1
      have e : tyT (.map k t) = 123 :: (keyT k ++ 58 :: (tyT t ++ [125])) := by simp [tyT]
      rw [e] at hL hK ⊢
      generalize keyT k ++ 58 :: (tyT t ++ [125]) = r at *
      clear e hlen h2
      go_enter Try.func61, Try.ntmps61
      go_wp2_with (first | (go_at_call 33; refine (hK _).mono ?_; rintro e w' ⟨rfl, rfl⟩) | (go_at_call 62; refine (hL _).mono ?_; rintro e w' ⟨rfl, rfl⟩))
      exact bodyPost_ret (v := .agg #[.int .i64 5, .int .i64 0, .string ⟨#[]⟩, .slice none 0 0]) (by simp [results, Try.results61, go_sem]) rfl ⟨rfl, (Below.refl _ _).alloc (Nat.le_refl _) _⟩
end Go.Proofs.Ytndahpcjkcihlaa
/- What a kind does not have: the program's. -/
namespace Go.Proofs.Ytndahpcjkcihlaa
open Go.RowKit
set_option linter.unusedVariables false
set_option linter.unusedSimpArgs false

theorem int_len0 (n : Nat) : ((n : Int) == 0) = (n == 0) := by rw [Bool.eq_iff_iff]; simp
set_option maxRecDepth 100000 in
set_option maxHeartbeats 2000000 in
theorem isBare_any {B : Nat → Prop} {v : V} {sl : Value} {w : World} (hv : IsW B w v sl) :
    Calls Try.prog 57 #[.agg #[.int .i64 v.k, .int .i64 v.n, .string ⟨v.t.toArray⟩, sl]] w fun r w' => r = .returned (.bool (bareB v)) ∧ Below w.heap.size w w' := by
  obtain ⟨ao, cap, rfl, hc1, hc2⟩ := hv.vs.slice
  obtain ⟨w0, hW, hb0, hsz, d0, d1, d2, d3⟩ := boxed w v (.slice ao v.l.length cap)
  clear hv
  by_cases k1 : v.k = 1
  · have q1 : (v.k == 1) = true := by simp [k1]
    have q2 : (v.k == 2) = false := by simp [k1]
    have q3 : (v.k == 3) = false := by simp [k1]
    have q4 : (v.k == 4) = false := by simp [k1]
    have q5 : (v.k == 5) = false := by simp [k1]
    clear k1
    go_enter Try.func57, Try.ntmps57
    go_wp2_with fail
    all_goals
      go_ret
      exact ⟨ret_bool (by simp_all [bareB, int_len0]), hb0⟩
  by_cases k2 : v.k = 2
  · have q1 : (v.k == 1) = false := by simp [k2]
    have q2 : (v.k == 2) = true := by simp [k2]
    have q3 : (v.k == 3) = false := by simp [k2]
    have q4 : (v.k == 4) = false := by simp [k2]
    have q5 : (v.k == 5) = false := by simp [k2]
    clear k2 k1
    go_enter Try.func57, Try.ntmps57
    go_wp2_with fail
    all_goals
      go_ret
      exact ⟨ret_bool (by simp_all [bareB, int_len0]), hb0⟩
  by_cases k3 : v.k = 3
  · have q1 : (v.k == 1) = false := by simp [k3]
    have q2 : (v.k == 2) = false := by simp [k3]
    have q3 : (v.k == 3) = true := by simp [k3]
    have q4 : (v.k == 4) = false := by simp [k3]
    have q5 : (v.k == 5) = false := by simp [k3]
    clear k3 k1 k2
    go_enter Try.func57, Try.ntmps57
    go_wp2_with fail
    all_goals
      go_ret
      exact ⟨ret_bool (by simp_all [bareB, int_len0]), hb0⟩
  by_cases k4 : v.k = 4
  · have q1 : (v.k == 1) = false := by simp [k4]
    have q2 : (v.k == 2) = false := by simp [k4]
    have q3 : (v.k == 3) = false := by simp [k4]
    have q4 : (v.k == 4) = true := by simp [k4]
    have q5 : (v.k == 5) = false := by simp [k4]
    clear k4 k1 k2 k3
    go_enter Try.func57, Try.ntmps57
    go_wp2_with fail
    all_goals
      go_ret
      exact ⟨ret_bool (by simp_all [bareB, int_len0]), hb0⟩
  by_cases k5 : v.k = 5
  · have q1 : (v.k == 1) = false := by simp [k5]
    have q2 : (v.k == 2) = false := by simp [k5]
    have q3 : (v.k == 3) = false := by simp [k5]
    have q4 : (v.k == 4) = false := by simp [k5]
    have q5 : (v.k == 5) = true := by simp [k5]
    clear k5 k1 k2 k3 k4
    go_enter Try.func57, Try.ntmps57
    go_wp2_with fail
    all_goals
      go_ret
      exact ⟨ret_bool (by simp_all [bareB, int_len0]), hb0⟩
  have q1 : (v.k == 1) = false := by simp [k1]
  have q2 : (v.k == 2) = false := by simp [k2]
  have q3 : (v.k == 3) = false := by simp [k3]
  have q4 : (v.k == 4) = false := by simp [k4]
  have q5 : (v.k == 5) = false := by simp [k5]
  clear k1 k2 k3 k4 k5
  go_enter Try.func57, Try.ntmps57
  go_wp2_with fail
  all_goals
    go_ret
    exact ⟨ret_bool (by simp_all [bareB, int_len0]), hb0⟩
end Go.Proofs.Ytndahpcjkcihlaa
/- Lists of a type: the program's. -/
namespace Go.Proofs.Ytndahpcjkcihlaa
open Go.RowKit
set_option linter.unusedVariables false
set_option linter.unusedSimpArgs false

/-- hasShape does what it should, of this type's text. -/
def HsOk (B : Nat → Prop) (y : List UInt8) (p : V → Bool) : Prop := ∀ (v : V) (sl : Value) (w : World), IsW B w v sl →
    Calls Try.prog 31 #[.agg #[.int .i64 v.k, .int .i64 v.n, .string ⟨v.t.toArray⟩, sl], .string ⟨y.toArray⟩] w fun r w' => r = .returned (.bool (p v)) ∧ Below w.heap.size w w'

set_option maxRecDepth 100000 in
set_option maxHeartbeats 1000000 in
theorem closure_any {B : Nat → Prop} {y : List UInt8} {p : V → Bool} (hok : HsOk B y p) {v : V} {sl : Value} {w : World} {g : Nat} (hv : IsW B w v sl) (hg : w.cell? ⟨g, 0, none⟩ = some (.string ⟨y.toArray⟩)) (hgl : g < w.heap.size) :
    Calls Try.prog 85 #[.agg #[.int .i64 v.k, .int .i64 v.n, .string ⟨v.t.toArray⟩, sl], .pointer (some ⟨g, 0, none⟩)] w fun r w' => r = .returned (.bool (!p v)) ∧ Below w.heap.size w w' := by
  obtain ⟨ao, cap, rfl, hc1, hc2⟩ := hv.vs.slice
  obtain ⟨w0, hW, hb0, hsz, d0, d1, d2, d3⟩ := boxed w v (.slice ao v.l.length cap)
  have hg' : w0.cell? ⟨g, 0, none⟩ = some (.string ⟨y.toArray⟩) := by rw [(bcell hb0).1 _ _ hgl]; exact hg
  have hC := hok v _ w0 (hv.below hb0)
  clear hv hok hg
  go_enter Try.func85, Try.ntmps85
  go_wp2_with fail
  refine hC.mono ?_
  rintro e w3 ⟨rfl, hb3⟩
  go_wp2
  go_ret
  exact ⟨rfl, hb0.trans (hb3.mono hb0.size)⟩
set_option maxRecDepth 100000 in
set_option maxHeartbeats 1000000 in
theorem indexFunc_any {B : Nat → Prop} {y : List UInt8} {p : V → Bool} (hok : HsOk B y p) {l : List V} {ao : Option Addr} {cap : Nat} {w : World} {g0 : Nat} (hl : IsVs B w l (.slice ao l.length cap)) (hg : w.cell? ⟨g0, 0, none⟩ = some (.string ⟨y.toArray⟩)) (hgl : g0 < w.heap.size) :
    Calls Try.prog 65 #[.slice ao l.length cap, .func (Fn.func 85) #[] #[.pointer (some ⟨g0, 0, none⟩)]] w fun r w' => (∃ i : Int, r = .returned (.int .i64 i) ∧ decide (0 ≤ i) = l.any (fun x => !p x)) ∧ Below w.heap.size w w' := by
  obtain ⟨ao', cap', e, a1, a2⟩ := hl.slice
  simp only [Value.slice.injEq] at e
  obtain ⟨rfl, -, rfl⟩ := e
  have hround : ∀ (q : Nat) (wr : World), q < l.length → Below w.heap.size w wr →
      ∃ x g o ax cx, l[q]? = some x ∧ ao = some ⟨g, o, none⟩ ∧ g < wr.heap.size ∧ wr.cell? ⟨g, o + q * 4, none⟩ = some (.int .i64 x.k) ∧ wr.cell? ⟨g, o + q * 4 + 1, none⟩ = some (.int .i64 x.n) ∧ wr.cell? ⟨g, o + q * 4 + 2, none⟩ = some (.string ⟨x.t.toArray⟩) ∧ wr.cell? ⟨g, o + q * 4 + 3, none⟩ = some (.slice ax x.l.length cx) ∧
        Calls Try.prog 85 #[.agg #[.int .i64 x.k, .int .i64 x.n, .string ⟨x.t.toArray⟩, .slice ax x.l.length cx], .pointer (some ⟨g0, 0, none⟩)] wr fun r w' => r = .returned (.bool (!p x)) ∧ Below wr.heap.size wr w' := by
    intro q wr hq hB
    have hx : l[q]? = some l[q] := List.getElem?_eq_getElem hq
    obtain ⟨g, o, ax, cx, e, _, hg1, c0, c1, c2, c3, hw⟩ := (hl.below hB).get hx
    have hs := hB.size
    exact ⟨l[q], g, o, ax, cx, hx, e, hg1, c0, c1, c2, c3, closure_any hok hw (by rw [(bcell hB).1 _ _ hgl]; exact hg) (by omega)⟩
  clear hok hl hg
  go_enter Try.func65, Try.ntmps65
  go_wp2_with fail
  go_loopg [8] l.length (fun g i wr => ∃ q : Nat, q ≤ l.length ∧ g = l.length - q ∧ i = .int .i64 q ∧ Hid (∀ j x, j < q → l[j]? = some x → p x = true) ∧ Below w.heap.size w wr)
  case atStart => exact ⟨0, Nat.zero_le _, rfl, rfl, fun j x h => by omega, Below.refl _ _⟩
  case round =>
    obtain ⟨q, hq, rfl, rfl, HA, hB⟩ := hrel
    by_cases hlt : q < l.length
    · obtain ⟨x, g, o, ax, cx, hx, rfl, hg, c0, c1, c2, c3, hcall⟩ := hround q wr hlt hB
      have hltI : (q : Int) < (l.length : Int) := by omega
      have hx' : Hid (l[q]? = some x) := hx
      clear hround hx
      go_wp2_with fail
      refine hcall.mono ?_
      rintro e w3 ⟨rfl, hb3⟩
      clear hcall
      have hB3 : Below w.heap.size w w3 := hB.trans (hb3.mono hB.size)
      rcases hp : p x with _ | _
      · have hfin : Hid (decide (0 ≤ (q : Int)) = l.any fun x => !p x) := by
          show _ = _
          rw [decide_eq_true (by omega)]
          symm
          rw [List.any_eq_true]
          exact ⟨x, List.mem_of_getElem? hx'.out, by simp [hp]⟩
        go_wp2
        go_ret
        exact ⟨⟨q, rfl, hfin⟩, hB3⟩
      · have HA2 : Hid (∀ j x, j < q + 1 → l[j]? = some x → p x = true) := by
          intro j z hj hz
          by_cases e : j = q
          · subst e; rw [hx'.out] at hz; cases hz; exact hp
          · exact HA.out j z (by omega) hz
        go_wp2_with fail
        go_roundg (l.length - (q + 1))
        case measure => omega
        case rel => exact ⟨q + 1, by omega, rfl, by go_num, HA2, hB3⟩
    · have hltI : ¬ (q : Int) < (l.length : Int) := by omega
      have hfin : Hid (decide (0 ≤ (-1 : Int)) = l.any fun x => !p x) := by
        show _ = _
        rw [decide_eq_false (by omega)]
        symm
        rw [List.any_eq_false]
        intro x hx
        obtain ⟨j, hj⟩ := List.mem_iff_getElem?.1 hx
        have := (List.getElem?_eq_some_iff.1 hj).1
        simp [HA.out j x (by omega) hj]
      clear hround HA
      go_wp2
      go_ret
      exact ⟨⟨-1, rfl, hfin⟩, hB⟩
set_option maxRecDepth 100000 in
set_option maxHeartbeats 1000000 in
theorem contains_any {B : Nat → Prop} {y : List UInt8} {p : V → Bool} (hok : HsOk B y p) {l : List V} {ao : Option Addr} {cap : Nat} {w : World} {g0 : Nat} (hl : IsVs B w l (.slice ao l.length cap)) (hg : w.cell? ⟨g0, 0, none⟩ = some (.string ⟨y.toArray⟩)) (hgl : g0 < w.heap.size) :
    Calls Try.prog 37 #[.slice ao l.length cap, .func (Fn.func 85) #[] #[.pointer (some ⟨g0, 0, none⟩)]] w fun r w' => r = .returned (.bool (l.any (fun x => !p x))) ∧ Below w.heap.size w w' := by
  have hC := indexFunc_any hok hl hg hgl
  clear hok hl hg
  go_enter Try.func37, Try.ntmps37
  go_wp2_with fail
  refine hC.mono ?_
  rintro e w3 ⟨⟨i, rfl, hi⟩, hb3⟩
  clear hC
  have Hi : Hid (decide (0 ≤ i) = l.any fun x => !p x) := hi
  clear hi
  go_wp2
  go_ret
  exact ⟨ret_bool Hi.out, hb3⟩
set_option maxRecDepth 100000 in
set_option maxHeartbeats 1000000 in
theorem isListOf_any {B : Nat → Prop} {y : List UInt8} {p : V → Bool} (hok : HsOk B (elT y).1 p) (hy : y.length ≤ 9223372036854775807) {l : List V} {ao : Option Addr} {cap : Nat} {w : World} (hl : IsVs B w l (.slice ao l.length cap)) :
    Calls Try.prog 58 #[.slice ao l.length cap, .string ⟨y.toArray⟩] w fun r w' => r = .returned (.bool (decide (l.length ≤ 64) && l.all p)) ∧ Below w.heap.size w w' := by
  obtain ⟨ao', cap', e, a1, a2⟩ := hl.slice
  simp only [Value.slice.injEq] at e
  obtain ⟨rfl, -, rfl⟩ := e
  by_cases h64 : l.length ≤ 64
  · have h64I : ¬ (64 : Int) < (l.length : Int) := by omega
    have hL := list_any y hy w
    have hC : ∀ w2, Below w.heap.size w w2 → Calls Try.prog 37 #[.slice ao l.length cap, .func (Fn.func 85) #[] #[.pointer (some ⟨w2.heap.size, 0, none⟩)]] (w2.alloc (.cells #[.string ⟨(elT y).1.toArray⟩] 9)) fun r w' => r = .returned (.bool (l.any (fun x => !p x))) ∧ Below w.heap.size w w' := by
      intro w2 hb
      have hba : Below w2.heap.size w2 (w2.alloc (.cells #[.string ⟨(elT y).1.toArray⟩] 9)) := (Below.refl _ _).alloc (Nat.le_refl _) _
      have hbw : Below w.heap.size w (w2.alloc (.cells #[.string ⟨(elT y).1.toArray⟩] 9)) := hb.trans (hba.mono hb.size)
      refine (contains_any hok (hl.below hbw) (g0 := w2.heap.size) ?_ ?_).mono ?_
      · exact cell_of_one (heap_new w2 (.cells #[.string ⟨(elT y).1.toArray⟩] 9))
      · simp
      · rintro e w3 ⟨rfl, h3⟩
        exact ⟨rfl, hbw.trans (h3.mono hbw.size)⟩
    have hfin : Hid ((decide (l.length ≤ 64) && l.all p) = !(l.any (fun x => !p x))) := by
      show _ = _
      rw [decide_eq_true h64, Bool.true_and, Bool.eq_iff_iff]
      simp
    clear hok hl
    generalize (elT y).1 = z at *
    generalize (elT y).2 = zb at *
    generalize l.any (fun x => !p x) = r at *
    go_enter Try.func58, Try.ntmps58
    go_wp2_with fail
    refine hL.mono ?_
    rintro e w2 ⟨rfl, hb2⟩
    go_wp2_with fail
    refine (hC w2 hb2).mono ?_
    rintro e w3 ⟨rfl, hb3⟩
    clear hC hL
    go_wp2
    go_ret
    exact ⟨ret_bool hfin.out.symm, hb3⟩
  · have h64I : (64 : Int) < (l.length : Int) := by omega
    clear hok hl
    go_enter Try.func58, Try.ntmps58
    go_wp2
    go_ret
    exact ⟨ret_bool (by rw [decide_eq_false h64]; rfl), Below.refl _ _⟩
end Go.Proofs.Ytndahpcjkcihlaa
