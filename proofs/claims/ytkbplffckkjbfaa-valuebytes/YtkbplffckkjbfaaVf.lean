/- Fits: the program's. -/
import Derived.Test.YtkbplffckkjbfaaVq
namespace Go.Proofs.Ytkbplffckkjbfaa
open Go.RowKit
set_option linter.unusedVariables false
set_option linter.unusedSimpArgs false
attribute [local go_sem ↓] Go.wp_at_zero Go.wp_at_succ

set_option maxRecDepth 100000 in
set_option maxHeartbeats 2000000 in
theorem hasShape_zero {B : Nat → Prop} {y : List UInt8} (hy : y.length ≤ 9223372036854775807) {v : V} {sl : Value} {w : World} (hv : IsW B w v sl) (hk : v.k = 0) (hky : kdOf y = 0) (hbare : bareB v = true) :
    Calls Try.prog 51 #[.agg #[.int .i64 v.k, .int .i64 v.n, .string ⟨v.t.toArray⟩, sl], .string ⟨y.toArray⟩] w fun r w' => r = .returned (.bool false) ∧ Below w.heap.size w w' := by
  obtain ⟨ao, cap, rfl, hc1, hc2⟩ := hv.vs.slice
  obtain ⟨w0, hW, hb0, hsz, d0, d1, d2, d3⟩ := boxed w v (.slice ao v.l.length cap)
  have hK := fun w => kindOf_any y hy w
  have hBr : ∀ w2, Below w0.heap.size w0 w2 → Calls Try.prog 75 #[.agg #[.int .i64 v.k, .int .i64 v.n, .string ⟨v.t.toArray⟩, .slice ao v.l.length cap]] w2 fun r w' => r = .returned (.bool true) ∧ Below w2.heap.size w2 w' := fun w2 hb2 => by
    have := isBare_any ((hv.below hb0).below hb2)
    rw [hbare] at this
    exact this
  clear hv
  rw [hky] at hK
  have hk' : (v.k != 0) = false := by simp [hk]
  have HK : Hid (v.k = 0) := hk
  have hgb : w.heap.size < w0.heap.size := by omega
  clear hky hk
  go_enter Try.func51, Try.ntmps51
  go_wp2_with fail
  go_region_held3 (fun w' => w'.cell? ⟨w.heap.size, 0, none⟩ = some (.int .i64 v.k) ∧ w'.cell? ⟨w.heap.size, 1, none⟩ = some (.int .i64 v.n) ∧ w'.cell? ⟨w.heap.size, 2, none⟩ = some (.string ⟨v.t.toArray⟩) ∧ w'.cell? ⟨w.heap.size, 3, none⟩ = some (.slice ao v.l.length cap)) (go_keep)
    (first | (go_at_call 48; refine (hK _).mono ?_; rintro e w' ⟨rfl, rfl⟩) | (go_at_call 75; refine (hBr _ (Below.refl _ _).drew).mono ?_; rintro e w5 ⟨rfl, hb5⟩; replace hb5 := below_undrew hb5; obtain ⟨f3, -⟩ := bcell hb5))
  have e0 : w5.cell? ⟨w.heap.size, 0, none⟩ = some (.int .i64 v.k) := by rw [f3 _ _ hgb]; exact d0
  clear f3 d0 d1 d2 d3 hW hBr hK hk'
  have hk : v.k = 0 := HK.out
  go_wp2
  go_ret
  exact ⟨rfl, hb0.trans (hb5.mono hb0.size)⟩
/-- hasShape, of any text. -/
theorem hasShape_any {B : Nat → Prop} {y : List UInt8} (hy : y.length ≤ 9223372036854775807) {v : V} {sl : Value} {w : World} (hv : IsW B w v sl) :
    Calls Try.prog 51 #[.agg #[.int .i64 v.k, .int .i64 v.n, .string ⟨v.t.toArray⟩, sl], .string ⟨y.toArray⟩] w fun r w' => r = .returned (.bool (shpS y v)) ∧ Below w.heap.size w w' := by
  rcases h : tyOf y with _ | T
  · have hs : shpS y v = false := by unfold shpS; rw [h]
    have hk : kdOf y = 0 := by unfold kdOf; rw [h]
    rw [hs]
    by_cases hn : v.k ≠ kdOf y ∨ bareB v = false
    · exact hasShape_no hy hv hn
    · have hn1 : v.k = kdOf y := Decidable.not_not.1 fun h => hn (Or.inl h)
      have hn2 : bareB v = true := by
        rcases h : bareB v with _ | _
        · exact absurd (Or.inr h) hn
        · rfl
      exact hasShape_zero hy hv (hn1.trans hk) hk hn2
  · obtain ⟨h1, h2⟩ := (tyOf_iff _ _).1 h
    rw [← h1, shpS_ty h2]
    exact hs_ty B T h2 v sl w hv
set_option maxRecDepth 100000 in
set_option maxHeartbeats 1000000 in
theorem fits_any {B : Nat → Prop} {y : List UInt8} (hy : y.length ≤ 9223372036854775807) {v : V} {sl : Value} {w : World} (hv : IsW B w v sl) (hw : wt v ≤ 4611686018427387904) :
    Calls Try.prog 22 #[.agg #[.int .i64 v.k, .int .i64 v.n, .string ⟨v.t.toArray⟩, sl], .string ⟨y.toArray⟩] w fun r w' => r = .returned (.bool (fitS y v)) ∧ Below w.heap.size w w' := by
  obtain ⟨ao, cap, rfl, hc1, hc2⟩ := hv.vs.slice
  obtain ⟨w0, hW, hb0, hsz, d0, d1, d2, d3⟩ := boxed w v (.slice ao v.l.length cap)
  have hS := hasShape_any hy (hv.below hb0)
  have hWt : ∀ w2, Below w0.heap.size w0 w2 → Calls Try.prog 26 #[.agg #[.int .i64 v.k, .int .i64 v.n, .string ⟨v.t.toArray⟩, .slice ao v.l.length cap]] w2 fun r w' => r = .returned (.int .i64 (wt v)) ∧ Below w2.heap.size w2 w' := fun w2 hb2 => weight_any _ v _ B w2 (Nat.lt_succ_self _) hw ((hv.below hb0).below hb2)
  have hfin : Hid (fitS y v = (shpS y v && decide (wt v ≤ 16384))) := rfl
  have hgb : w.heap.size < w0.heap.size := by omega
  clear hv
  generalize shpS y v = s at *
  generalize wt v = n at *
  cases s
  · go_enter Try.func22, Try.ntmps22
    go_wp2_with fail
    refine hS.mono ?_
    rintro e w5 ⟨rfl, hb5⟩
    go_wp2
    go_ret
    exact ⟨ret_bool (by rw [hfin.out]; rfl), hb0.trans (hb5.mono hb0.size)⟩
  · go_enter Try.func22, Try.ntmps22
    go_wp2_with fail
    refine hS.mono ?_
    rintro e w5 ⟨rfl, hb5⟩
    obtain ⟨f3, -⟩ := bcell hb5
    have e0 : w5.cell? ⟨w.heap.size, 0, none⟩ = some (.int .i64 v.k) := by rw [f3 _ _ hgb]; exact d0
    have e1 : w5.cell? ⟨w.heap.size, 1, none⟩ = some (.int .i64 v.n) := by rw [f3 _ _ hgb]; exact d1
    have e2 : w5.cell? ⟨w.heap.size, 2, none⟩ = some (.string ⟨v.t.toArray⟩) := by rw [f3 _ _ hgb]; exact d2
    have e3 : w5.cell? ⟨w.heap.size, 3, none⟩ = some (.slice ao v.l.length cap) := by rw [f3 _ _ hgb]; exact d3
    clear f3 d0 d1 d2 d3 hW hS
    go_wp2_with fail
    refine (hWt _ hb5).mono ?_
    rintro e w6 ⟨rfl, hb6⟩
    clear hWt
    go_wp2
    go_ret
    exact ⟨ret_bool (by rw [hfin.out, Bool.true_and, decide_eq_decide]; omega), hb0.trans ((hb5.trans (hb6.mono hb5.size)).mono hb0.size)⟩
end Go.Proofs.Ytkbplffckkjbfaa
