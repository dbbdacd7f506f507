/- Texts of ours, joined: Vq, Vf. -/
import Derived.Test.YtndahpcjkcihlaaG10
/- Which values a type has: the program's. -/
namespace Go.Proofs.Ytndahpcjkcihlaa
open Go.RowKit
set_option linter.unusedVariables false
set_option linter.unusedSimpArgs false
attribute [local go_sem ↓] Go.wp_at_zero Go.wp_at_succ

set_option maxRecDepth 100000 in
set_option maxHeartbeats 2000000 in
/-- Another kind, or more than its kind has. -/
theorem hasShape_no {B : Nat → Prop} {y : List UInt8} (hy : y.length ≤ 9223372036854775807) {v : V} {sl : Value} {w : World} (hv : IsW B w v sl) (h : v.k ≠ kdOf y ∨ bareB v = false) :
    Calls Try.prog 31 #[.agg #[.int .i64 v.k, .int .i64 v.n, .string ⟨v.t.toArray⟩, sl], .string ⟨y.toArray⟩] w fun r w' => r = .returned (.bool false) ∧ Below w.heap.size w w' := by
  obtain ⟨ao, cap, rfl, hc1, hc2⟩ := hv.vs.slice
  obtain ⟨w0, hW, hb0, hsz, d0, d1, d2, d3⟩ := boxed w v (.slice ao v.l.length cap)
  have hK := fun w => kindOf_any y hy w
  have hBr : ∀ w2, Below w0.heap.size w0 w2 → Calls Try.prog 57 #[.agg #[.int .i64 v.k, .int .i64 v.n, .string ⟨v.t.toArray⟩, .slice ao v.l.length cap]] w2 fun r w' => r = .returned (.bool (bareB v)) ∧ Below w2.heap.size w2 w' := fun w2 hb2 => isBare_any ((hv.below hb0).below hb2)
  clear hv
  generalize kdOf y = z at *
  by_cases hk : v.k = z
  · have hbf : bareB v = false := by
      rcases h with h | h
      · exact absurd hk h
      · exact h
    rw [hbf] at hBr
    have hk' : (v.k != z) = false := by simp [hk]
    have hgb : w.heap.size < w0.heap.size := by omega
    clear h hk hbf
    go_enter Try.func31, Try.ntmps31
    go_wp2_with fail
    go_region_held3 (fun w' => w'.cell? ⟨w.heap.size, 0, none⟩ = some (.int .i64 v.k) ∧ w'.cell? ⟨w.heap.size, 1, none⟩ = some (.int .i64 v.n) ∧ w'.cell? ⟨w.heap.size, 2, none⟩ = some (.string ⟨v.t.toArray⟩) ∧ w'.cell? ⟨w.heap.size, 3, none⟩ = some (.slice ao v.l.length cap)) (go_keep)
      (first | (go_at_call 56; refine (hK _).mono ?_; rintro e w' ⟨rfl, rfl⟩) | (go_at_call 57; refine (hBr _ (Below.refl _ _).drew).mono ?_; rintro e w5 ⟨rfl, hb5⟩; replace hb5 := below_undrew hb5; obtain ⟨f3, -⟩ := bcell hb5))
    all_goals
      go_wp2
      go_ret
      exact ⟨rfl, hb0.trans (hb5.mono hb0.size)⟩
  · have hk' : (v.k != z) = true := by simp [hk]
    clear h hBr
    go_enter Try.func31, Try.ntmps31
    go_wp2_with fail
    go_quiet ((go_at_call 56; exact Calls.quiet_of_same (hK _)))
    go_wp2
    go_ret
    exact ⟨rfl, hb0.trans ((below_drewN _ _).mono hb0.size)⟩
set_option maxRecDepth 100000 in
set_option maxHeartbeats 2000000 in
/-- The right kind, and no more than its kind has: what is asked then. -/
theorem hasShape_then {B : Nat → Prop} {T : Ty} (hT : T.dp ≤ 4) {v : V} {sl : Value} {w : World} (hv : IsW B w v sl) (hk : v.k = kd T) (hbare : bareB v = true)
    (hlist : ∀ t, T = .list t → HsOk B (tyT t) (shpB t)) (hmap : ∀ k t, T = .map k t → HsOk B (keyT k) (shpB (keyTy k)) ∧ HsOk B (tyT t) (shpB t)) :
    Calls Try.prog 31 #[.agg #[.int .i64 v.k, .int .i64 v.n, .string ⟨v.t.toArray⟩, sl], .string ⟨(tyT T).toArray⟩] w fun r w' => r = .returned (.bool (shpB T v)) ∧ Below w.heap.size w w' := by
  have hlen := tyT_len T
  obtain ⟨ao, cap, rfl, hc1, hc2⟩ := hv.vs.slice
  obtain ⟨w0, hW, hb0, hsz, d0, d1, d2, d3⟩ := boxed w v (.slice ao v.l.length cap)
  have hK := fun w => kindOf_any (tyT T) (by omega) w
  have hkd : kdOf (tyT T) = kd T := by unfold kdOf; rw [tyOf_ty hT]
  rw [hkd] at hK
  have hBr : ∀ w2, Below w0.heap.size w0 w2 → Calls Try.prog 57 #[.agg #[.int .i64 v.k, .int .i64 v.n, .string ⟨v.t.toArray⟩, .slice ao v.l.length cap]] w2 fun r w' => r = .returned (.bool true) ∧ Below w2.heap.size w2 w' := fun w2 hb2 => by
    have := isBare_any ((hv.below hb0).below hb2)
    rw [hbare] at this
    exact this
  have hk' : (v.k != kd T) = false := by simp [hk]
  have hgb : w.heap.size < w0.heap.size := by omega
  have hL : ∀ w5 t, Below w0.heap.size w0 w5 → T = .list t → Calls Try.prog 58 #[.slice ao v.l.length cap, .string ⟨(tyT T).toArray⟩] w5 fun r w' => r = .returned (.bool (decide (v.l.length ≤ 64) && v.l.all (shpB t))) ∧ Below w5.heap.size w5 w' := by
    intro w5 t hb5 e
    have he : (elT (tyT T)).1 = tyT t := by unfold elT; rw [tyOf_ty hT, e]
    exact isListOf_any (by rw [he]; exact hlist t e) (by omega) ((hv.vs.below hb0).below hb5)
  have hM : ∀ w5 k t, Below w0.heap.size w0 w5 → T = .map k t → Calls Try.prog 59 #[.slice ao v.l.length cap, .string ⟨(tyT T).toArray⟩] w5 fun r w' => BoolIs (MapR (shpB (keyTy k)) (shpB t) v.l) r ∧ Below w5.heap.size w5 w' := by
    intro w5 k t hb5 e
    have he : mpT (tyT T) = (keyT k, tyT t, true) := by unfold mpT; rw [tyOf_ty hT, e]
    exact isMapOf_any (by rw [he]; exact (hmap k t e).1) (by rw [he]; exact (hmap k t e).2) (by omega) ((hv.vs.below hb0).below hb5)
  have HK : Hid (v.k = kd T) := hk
  clear hv hlist hmap hkd hlen hk
  go_enter Try.func31, Try.ntmps31
  go_wp2_with fail
  go_region_held3 (fun w' => w'.cell? ⟨w.heap.size, 0, none⟩ = some (.int .i64 v.k) ∧ w'.cell? ⟨w.heap.size, 1, none⟩ = some (.int .i64 v.n) ∧ w'.cell? ⟨w.heap.size, 2, none⟩ = some (.string ⟨v.t.toArray⟩) ∧ w'.cell? ⟨w.heap.size, 3, none⟩ = some (.slice ao v.l.length cap)) (go_keep)
    (first | (go_at_call 56; refine (hK _).mono ?_; rintro e w' ⟨rfl, rfl⟩) | (go_at_call 57; refine (hBr _ (Below.refl _ _).drew).mono ?_; rintro e w5 ⟨rfl, hb5⟩; replace hb5 := below_undrew hb5; obtain ⟨f3, -⟩ := bcell hb5))
  have hB5 : Below w.heap.size w w5 := hb0.trans (hb5.mono hb0.size)
  have e0 : w5.cell? ⟨w.heap.size, 0, none⟩ = some (.int .i64 v.k) := by rw [f3 _ _ hgb]; exact d0
  have e1 : w5.cell? ⟨w.heap.size, 1, none⟩ = some (.int .i64 v.n) := by rw [f3 _ _ hgb]; exact d1
  have e2 : w5.cell? ⟨w.heap.size, 2, none⟩ = some (.string ⟨v.t.toArray⟩) := by rw [f3 _ _ hgb]; exact d2
  have e3 : w5.cell? ⟨w.heap.size, 3, none⟩ = some (.slice ao v.l.length cap) := by rw [f3 _ _ hgb]; exact d3
  clear f3 d0 d1 d2 d3 hW hBr hK hk'
  have hk : v.k = kd T := HK.out
  clear HK
  rcases T with _ | _ | _ | t | ⟨k, t⟩
  · have hfin : Hid (shpB .int v = true) := shpB_iff.2 (shp_int hk hbare)
    replace hk : v.k = 1 := hk
    clear hL hM
    go_wp2
    go_ret
    exact ⟨ret_bool hfin.out.symm, hB5⟩
  · have hfin : Hid (shpB .bool v = true ↔ (v.n = 0 ∨ v.n = 1)) := shpB_iff.trans (shp_bool hk hbare)
    replace hk : v.k = 2 := hk
    clear hL hM
    by_cases n0 : v.n = 0
    · have n0' : (v.n == 0) = true := by simp [n0]
      go_wp2
      go_ret
      exact ⟨ret_bool (hfin.out.2 (Or.inl n0)).symm, hB5⟩
    · have n0' : (v.n == 0) = false := by simp [n0]
      have hfin2 : Hid (shpB .bool v = (v.n == 1)) := by
        show _ = _
        rw [Bool.eq_iff_iff, hfin.out]; simp [n0]
      go_wp2
      go_ret
      exact ⟨ret_bool hfin2.out.symm, hB5⟩
  · have hfin : Hid (shpB .text v = decide (v.t.length ≤ 256)) := by
      show _ = _
      rw [Bool.eq_iff_iff, shpB_iff, shp_text hk hbare]; simp
    replace hk : v.k = 3 := hk
    clear hL hM
    go_wp2
    go_ret
    exact ⟨ret_bool (by rw [hfin.out, decide_eq_decide]; omega), hB5⟩
  · have hfin : Hid (shpB (.list t) v = (decide (v.l.length ≤ 64) && v.l.all (shpB t))) := by
      show _ = _
      rw [Bool.eq_iff_iff, shpB_iff, shp_list hk hbare]
      simp [shpB_iff]
    replace hk : v.k = 4 := hk
    replace hL := hL w5 t hb5 rfl
    clear hM
    generalize tyT (.list t) = y at *
    go_wp2_with fail
    refine hL.mono ?_
    rintro e w6 ⟨rfl, hb6⟩
    clear hL
    go_wp2
    go_ret
    exact ⟨ret_bool hfin.out.symm, hB5.trans (hb6.mono hB5.size)⟩
  · have hfin : Hid (∀ b : Bool, (b = true ↔ MapR (shpB (keyTy k)) (shpB t) v.l) → shpB (.map k t) v = b) := by
      intro b hb
      rw [Bool.eq_iff_iff, hb, shpB_iff, shp_map hk hbare]
      unfold MapR
      simp only [shpB_iff, keyS_shp]
    replace hk : v.k = 5 := hk
    replace hM := hM w5 k t hb5 rfl
    clear hL
    generalize tyT (.map k t) = y at *
    go_wp2_with fail
    refine hM.mono ?_
    rintro e w6 ⟨⟨b, rfl, hb⟩, hb6⟩
    clear hM
    have hfin2 : Hid (shpB (.map k t) v = b) := hfin.out b hb
    clear hb hfin
    go_wp2
    go_ret
    exact ⟨ret_bool hfin2.out.symm, hB5.trans (hb6.mono hB5.size)⟩
theorem hs_ty (B : Nat → Prop) : ∀ (T : Ty), T.dp ≤ 4 → HsOk B (tyT T) (shpB T)
  | T, hT => by
    have hkey : ∀ k : Bool, HsOk B (keyT k) (shpB (keyTy k)) := by
      intro k v sl w hv
      rw [← keyTy_T]
      have hd : (keyTy k).dp ≤ 4 := by rw [keyTy_dp]; omega
      have hlen := tyT_len (keyTy k)
      by_cases hn : v.k ≠ kd (keyTy k) ∨ bareB v = false
      · have hf : shpB (keyTy k) v = false := shpB_false.2 (fun h => by
          rcases hn with hn | hn
          · exact hn h.kind
          · rw [h.bare] at hn; cases hn)
        rw [hf]
        exact hasShape_no (by omega) hv (by unfold kdOf; rw [tyOf_ty hd]; exact hn)
      · have hn1 : v.k = kd (keyTy k) := Decidable.not_not.1 fun h => hn (Or.inl h)
        have hn2 : bareB v = true := by
          rcases h : bareB v with _ | _
          · exact absurd (Or.inr h) hn
          · rfl
        exact hasShape_then hd hv hn1 hn2 (fun t e => by cases k <;> cases e) (fun k' t e => by cases k <;> cases e)
    intro v sl w hv
    have hlen := tyT_len T
    by_cases hn : v.k ≠ kd T ∨ bareB v = false
    · have hf : shpB T v = false := shpB_false.2 (fun h => by
        rcases hn with hn | hn
        · exact hn h.kind
        · rw [h.bare] at hn; cases hn)
      rw [hf]
      exact hasShape_no (by omega) hv (by unfold kdOf; rw [tyOf_ty hT]; exact hn)
    · have hn1 : v.k = kd T := Decidable.not_not.1 fun h => hn (Or.inl h)
      have hn2 : bareB v = true := by
        rcases h : bareB v with _ | _
        · exact absurd (Or.inr h) hn
        · rfl
      refine hasShape_then hT hv hn1 hn2 (fun t e => ?_) (fun k t e => ⟨hkey k, ?_⟩)
      · subst e; exact hs_ty B t (by simp [Ty.dp] at hT; omega)
      · subst e; exact hs_ty B t (by simp [Ty.dp] at hT; omega)
termination_by T => T.dp
decreasing_by all_goals (subst e; simp [Ty.dp])
end Go.Proofs.Ytndahpcjkcihlaa
/- Fits: the program's. -/
namespace Go.Proofs.Ytndahpcjkcihlaa
open Go.RowKit
set_option linter.unusedVariables false
set_option linter.unusedSimpArgs false
attribute [local go_sem ↓] Go.wp_at_zero Go.wp_at_succ

set_option maxRecDepth 100000 in
set_option maxHeartbeats 2000000 in
theorem hasShape_zero {B : Nat → Prop} {y : List UInt8} (hy : y.length ≤ 9223372036854775807) {v : V} {sl : Value} {w : World} (hv : IsW B w v sl) (hk : v.k = 0) (hky : kdOf y = 0) (hbare : bareB v = true) :
    Calls Try.prog 31 #[.agg #[.int .i64 v.k, .int .i64 v.n, .string ⟨v.t.toArray⟩, sl], .string ⟨y.toArray⟩] w fun r w' => r = .returned (.bool false) ∧ Below w.heap.size w w' := by
  obtain ⟨ao, cap, rfl, hc1, hc2⟩ := hv.vs.slice
  obtain ⟨w0, hW, hb0, hsz, d0, d1, d2, d3⟩ := boxed w v (.slice ao v.l.length cap)
  have hK := fun w => kindOf_any y hy w
  have hBr : ∀ w2, Below w0.heap.size w0 w2 → Calls Try.prog 57 #[.agg #[.int .i64 v.k, .int .i64 v.n, .string ⟨v.t.toArray⟩, .slice ao v.l.length cap]] w2 fun r w' => r = .returned (.bool true) ∧ Below w2.heap.size w2 w' := fun w2 hb2 => by
    have := isBare_any ((hv.below hb0).below hb2)
    rw [hbare] at this
    exact this
  clear hv
  rw [hky] at hK
  have hk' : (v.k != 0) = false := by simp [hk]
  have HK : Hid (v.k = 0) := hk
  have hgb : w.heap.size < w0.heap.size := by omega
  clear hky hk
  go_enter Try.func31, Try.ntmps31
  go_wp2_with fail
  go_region_held3 (fun w' => w'.cell? ⟨w.heap.size, 0, none⟩ = some (.int .i64 v.k) ∧ w'.cell? ⟨w.heap.size, 1, none⟩ = some (.int .i64 v.n) ∧ w'.cell? ⟨w.heap.size, 2, none⟩ = some (.string ⟨v.t.toArray⟩) ∧ w'.cell? ⟨w.heap.size, 3, none⟩ = some (.slice ao v.l.length cap)) (go_keep)
    (first | (go_at_call 56; refine (hK _).mono ?_; rintro e w' ⟨rfl, rfl⟩) | (go_at_call 57; refine (hBr _ (Below.refl _ _).drew).mono ?_; rintro e w5 ⟨rfl, hb5⟩; replace hb5 := below_undrew hb5; obtain ⟨f3, -⟩ := bcell hb5))
  have e0 : w5.cell? ⟨w.heap.size, 0, none⟩ = some (.int .i64 v.k) := by rw [f3 _ _ hgb]; exact d0
  clear f3 d0 d1 d2 d3 hW hBr hK hk'
  have hk : v.k = 0 := HK.out
  go_wp2
  go_ret
  exact ⟨rfl, hb0.trans (hb5.mono hb0.size)⟩
/-- hasShape, of any text. -/
theorem hasShape_any {B : Nat → Prop} {y : List UInt8} (hy : y.length ≤ 9223372036854775807) {v : V} {sl : Value} {w : World} (hv : IsW B w v sl) :
    Calls Try.prog 31 #[.agg #[.int .i64 v.k, .int .i64 v.n, .string ⟨v.t.toArray⟩, sl], .string ⟨y.toArray⟩] w fun r w' => r = .returned (.bool (shpS y v)) ∧ Below w.heap.size w w' := by
  rcases h : tyOf y with _ | T
  · have hs : shpS y v = false := by unfold shpS; rw [h]
    have hk : kdOf y = 0 := by unfold kdOf; rw [h]
    rw [hs]
    by_cases hn : v.k ≠ kdOf y ∨ bareB v = false
    · exact hasShape_no hy hv hn
    · have hn1 : v.k = kdOf y := Decidable.not_not.1 fun h => hn (Or.inl h)
      have hn2 : bareB v = true := by
        rcases h : bareB v with _ | _
        · exact absurd (Or.inr h) hn
        · rfl
      exact hasShape_zero hy hv (hn1.trans hk) hk hn2
  · obtain ⟨h1, h2⟩ := (tyOf_iff _ _).1 h
    rw [← h1, shpS_ty h2]
    exact hs_ty B T h2 v sl w hv
set_option maxRecDepth 100000 in
set_option maxHeartbeats 1000000 in
theorem fits_any {B : Nat → Prop} {y : List UInt8} (hy : y.length ≤ 9223372036854775807) {v : V} {sl : Value} {w : World} (hv : IsW B w v sl) (hw : wt v ≤ 4611686018427387904) :
    Calls Try.prog 19 #[.agg #[.int .i64 v.k, .int .i64 v.n, .string ⟨v.t.toArray⟩, sl], .string ⟨y.toArray⟩] w fun r w' => r = .returned (.bool (fitS y v)) ∧ Below w.heap.size w w' := by
  obtain ⟨ao, cap, rfl, hc1, hc2⟩ := hv.vs.slice
  obtain ⟨w0, hW, hb0, hsz, d0, d1, d2, d3⟩ := boxed w v (.slice ao v.l.length cap)
  have hS := hasShape_any hy (hv.below hb0)
  have hWt : ∀ w2, Below w0.heap.size w0 w2 → Calls Try.prog 32 #[.agg #[.int .i64 v.k, .int .i64 v.n, .string ⟨v.t.toArray⟩, .slice ao v.l.length cap]] w2 fun r w' => r = .returned (.int .i64 (wt v)) ∧ Below w2.heap.size w2 w' := fun w2 hb2 => weight_any _ v _ B w2 (Nat.lt_succ_self _) hw ((hv.below hb0).below hb2)
  have hfin : Hid (fitS y v = (shpS y v && decide (wt v ≤ 16384))) := rfl
  have hgb : w.heap.size < w0.heap.size := by omega
  clear hv
  generalize shpS y v = s at *
  generalize wt v = n at *
  cases s
  · go_enter Try.func19, Try.ntmps19
    go_wp2_with fail
    refine hS.mono ?_
    rintro e w5 ⟨rfl, hb5⟩
    go_wp2
    go_ret
    exact ⟨ret_bool (by rw [hfin.out]; rfl), hb0.trans (hb5.mono hb0.size)⟩
  · go_enter Try.func19, Try.ntmps19
    go_wp2_with fail
    refine hS.mono ?_
    rintro e w5 ⟨rfl, hb5⟩
    obtain ⟨f3, -⟩ := bcell hb5
    have e0 : w5.cell? ⟨w.heap.size, 0, none⟩ = some (.int .i64 v.k) := by rw [f3 _ _ hgb]; exact d0
    have e1 : w5.cell? ⟨w.heap.size, 1, none⟩ = some (.int .i64 v.n) := by rw [f3 _ _ hgb]; exact d1
    have e2 : w5.cell? ⟨w.heap.size, 2, none⟩ = some (.string ⟨v.t.toArray⟩) := by rw [f3 _ _ hgb]; exact d2
    have e3 : w5.cell? ⟨w.heap.size, 3, none⟩ = some (.slice ao v.l.length cap) := by rw [f3 _ _ hgb]; exact d3
    clear f3 d0 d1 d2 d3 hW hS
    go_wp2_with fail
    refine (hWt _ hb5).mono ?_
    rintro e w6 ⟨rfl, hb6⟩
    clear hWt
    go_wp2
    go_ret
    exact ⟨ret_bool (by rw [hfin.out, Bool.true_and, decide_eq_decide]; omega), hb0.trans ((hb5.trans (hb6.mono hb5.size)).mono hb0.size)⟩
end Go.Proofs.Ytndahpcjkcihlaa
