/- Fits, the document's; a truth as a number. -/
import Derived.Test.YtkbplffckkjbfaaRo2
namespace Go.Proofs.Ytkbplffckkjbfaa
open Go.RowKit
set_option linter.unusedVariables false
set_option linter.unusedSimpArgs false
attribute [local go_sem ↓] Go.wp_at_zero Go.wp_at_succ

theorem ro_ty (B : Nat → Prop) : ∀ (T : Ty), T.dp ≤ 4 → RoOk B (tyT T) (shpB T)
  | T, hT => by
    have hkey : ∀ k : Bool, RoOk B (keyT k) (shpB (keyTy k)) := by
      intro k v sl w hv
      rw [← keyTy_T]
      have hd : (keyTy k).dp ≤ 4 := by rw [keyTy_dp]; omega
      by_cases hn : v.k = kd (keyTy k)
      · exact rof_then hd hv hn (fun t e => by cases k <;> cases e) (fun k' t e => by cases k <;> cases e)
      · have hf : shpB (keyTy k) v = false := shpB_false.2 (fun h => hn h.kind)
        rw [hf]
        exact rof_no hd hv hn
    intro v sl w hv
    by_cases hn : v.k = kd T
    · by_cases hm : ∃ k t, T = .map k t
      · obtain ⟨k, t, e⟩ := hm
        subst e
        exact rof_map hT hv hn (hkey k) (ro_ty B t (by simp [Ty.dp] at hT; omega))
      · refine rof_then hT hv hn (fun t e => ?_) (fun k t e => hm ⟨k, t, e⟩)
        subst e; exact ro_ty B t (by simp [Ty.dp] at hT; omega)
    · have hf : shpB T v = false := shpB_false.2 (fun h => hn h.kind)
      rw [hf]
      exact rof_no hT hv hn
termination_by T => T.dp
decreasing_by all_goals (subst e; simp [Ty.dp])
set_option maxRecDepth 100000 in
set_option maxHeartbeats 1000000 in
theorem rfits_any {B : Nat → Prop} {y : List UInt8} (hy : y.length ≤ 9223372036854775807) {v : V} {sl : Value} {w : World} (hv : IsW B w v sl) (hw : wt v ≤ 4611686018427387904) :
    Calls Try.prog 23 #[.agg #[.int .i64 v.k, .int .i64 v.n, .string ⟨v.t.toArray⟩, sl], .string ⟨y.toArray⟩] w fun r w' => r = .returned (.bool (fitS y v)) ∧ Below w.heap.size w w' := by
  obtain ⟨ao, cap, rfl, hc1, hc2⟩ := hv.vs.slice
  obtain ⟨w0, hW, hb0, hsz, d0, d1, d2, d3⟩ := boxed w v (.slice ao v.l.length cap)
  have hT := fun w => rtype_l y hy w
  unfold gType at hT
  rcases h : tyOf y with _ | T
  · have hfin : Hid (fitS y v = false) := by show _ = _; unfold fitS shpS; rw [h]; rfl
    rw [h] at hT
    clear hv h
    go_enter Try.func23, Try.ntmps23
    go_wp2_with fail
    refine (hT _).mono ?_
    rintro e w' ⟨rfl, rfl⟩
    go_wp2
    go_ret
    exact ⟨ret_bool hfin.out.symm, hb0⟩
  · obtain ⟨h1, h2⟩ := (tyOf_iff _ _).1 h
    have hS : ∀ w2, Below w0.heap.size w0 w2 → Calls Try.prog 52 #[.agg #[.int .i64 v.k, .int .i64 v.n, .string ⟨v.t.toArray⟩, .slice ao v.l.length cap], .string ⟨y.toArray⟩] w2 fun r w' => r = .returned (.bool (shpB T v)) ∧ Below w2.heap.size w2 w' := fun w2 hb2 => by
      rw [← h1]; exact ro_ty B T h2 v _ w2 ((hv.below hb0).below hb2)
    have hWt := rweight_any _ v _ B w0 (Nat.lt_succ_self _) hw (hv.below hb0)
    have hfin : Hid (fitS y v = (shpB T v && decide (wt v ≤ 16384))) := by show _ = _; unfold fitS shpS; rw [h]
    rw [h] at hT
    have hgb : w.heap.size < w0.heap.size := by omega
    clear hv h h1 h2
    generalize shpB T v = s at *
    generalize wt v = n at *
    by_cases hn : n ≤ 16384
    · have hnI : (n : Int) ≤ 16384 := by omega
      go_enter Try.func23, Try.ntmps23
      go_wp2_with fail
      refine (hT _).mono ?_
      rintro e w' ⟨rfl, rfl⟩
      go_wp2_with fail
      refine hWt.mono ?_
      rintro e w5 ⟨rfl, hb5⟩
      obtain ⟨f3, -⟩ := bcell hb5
      have e0 : w5.cell? ⟨w.heap.size, 0, none⟩ = some (.int .i64 v.k) := by rw [f3 _ _ hgb]; exact d0
      have e1 : w5.cell? ⟨w.heap.size, 1, none⟩ = some (.int .i64 v.n) := by rw [f3 _ _ hgb]; exact d1
      have e2 : w5.cell? ⟨w.heap.size, 2, none⟩ = some (.string ⟨v.t.toArray⟩) := by rw [f3 _ _ hgb]; exact d2
      have e3 : w5.cell? ⟨w.heap.size, 3, none⟩ = some (.slice ao v.l.length cap) := by rw [f3 _ _ hgb]; exact d3
      clear f3 d0 d1 d2 d3 hW hWt hT
      go_wp2_with fail
      refine (hS _ hb5).mono ?_
      rintro e w6 ⟨rfl, hb6⟩
      clear hS
      go_wp2
      go_ret
      exact ⟨ret_bool (by rw [hfin.out, decide_eq_true hn, Bool.and_true]), hb0.trans ((hb5.trans (hb6.mono hb5.size)).mono hb0.size)⟩
    · have hnI : ¬ (n : Int) ≤ 16384 := by omega
      clear hS
      go_enter Try.func23, Try.ntmps23
      go_wp2_with fail
      refine (hT _).mono ?_
      rintro e w' ⟨rfl, rfl⟩
      go_wp2_with fail
      refine hWt.mono ?_
      rintro e w5 ⟨rfl, hb5⟩
      clear hWt hT
      go_wp2
      go_ret
      exact ⟨ret_bool (by rw [hfin.out, decide_eq_false hn, Bool.and_false]), hb0.trans (hb5.mono hb0.size)⟩
set_option maxRecDepth 100000 in
theorem flag_any (b : Bool) (w : World) : Calls Try.prog 13 #[.bool b] w fun r w' => r = .returned (.int .i64 (if b then 1 else 0)) ∧ w' = w := by
  cases b
  · go_enter Try.func13, Try.ntmps13
    go_wp2
    go_ret
    exact ⟨rfl, rfl⟩
  · go_enter Try.func13, Try.ntmps13
    go_wp2
    go_ret
    exact ⟨rfl, rfl⟩
end Go.Proofs.Ytkbplffckkjbfaa
