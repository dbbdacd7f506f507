/- Texts of ours, joined: Vw, Vq, Vf, Ro2, Kv. -/
import Derived.Test.YtnijcolomoobnaaGreatDoorK00
import Derived.Deep.LoopGhost
import Derived.Test.YtnijcolomoobnaaGreatDoorK06
import Derived.Test.YtnijcolomoobnaaGreatDoorK03
import Derived.Test.YtnijcolomoobnaaGreatDoorK02
import Derived.Test.YtnijcolomoobnaaGreatDoorK05
import Derived.Test.YtnijcolomoobnaaGreatDoorK04
namespace Go.Proofs.YtnijcolomoobnaaGreatDoor
open Go.RowKit
set_option linter.unusedVariables false
set_option linter.unusedSimpArgs false

set_option maxRecDepth 100000 in
set_option maxHeartbeats 1000000 in
theorem weight_any : ∀ (N : Nat) (v : V) (sl : Value) (B : Nat → Prop) (w : World), wt v < N → wt v ≤ 4611686018427387904 → IsW B w v sl →
    Calls Tryz.prog 130 #[.agg #[.int .i64 v.k, .int .i64 v.n, .string ⟨v.t.toArray⟩, sl]] w fun r w' => r = .returned (.int .i64 (wt v)) ∧ Below w.heap.size w w' := by
  intro N
  induction N with
  | zero => intro v sl B w h; omega
  | succ N ih =>
    intro v sl B w hN hbig hv
    obtain ⟨ao, cap, rfl, hc1, hc2⟩ := hv.vs.slice
    have hwt := wt_eq v
    have hlen := wts_len v.l
    obtain ⟨w0, hW, hb0, hsz, d0, d1, d2, d3⟩ := boxed w v (.slice ao v.l.length cap)
    have hround : ∀ (q : Nat) (wr : World), q < v.l.length → Below (w.heap.size + 1) w0 wr →
        ∃ x g o ax cx, v.l[q]? = some x ∧ ao = some ⟨g, o, none⟩ ∧ g < wr.heap.size ∧ wr.cell? ⟨g, o + q * 4, none⟩ = some (.int .i64 x.k) ∧ wr.cell? ⟨g, o + q * 4 + 1, none⟩ = some (.int .i64 x.n) ∧ wr.cell? ⟨g, o + q * 4 + 2, none⟩ = some (.string ⟨x.t.toArray⟩) ∧ wr.cell? ⟨g, o + q * 4 + 3, none⟩ = some (.slice ax x.l.length cx) ∧
          ∀ w2, Below wr.heap.size wr w2 → Calls Tryz.prog 130 #[.agg #[.int .i64 x.k, .int .i64 x.n, .string ⟨x.t.toArray⟩, .slice ax x.l.length cx]] w2 fun r w' => r = .returned (.int .i64 (wt x)) ∧ Below w2.heap.size w2 w' := by
      intro q wr hq hB
      have hx : v.l[q]? = some v.l[q] := List.getElem?_eq_getElem hq
      have hBw : Below w.heap.size w wr := hb0.trans (hB.mono (by omega))
      obtain ⟨g, o, ax, cx, e, _, hg, c0, c1, c2, c3, hw⟩ := (hv.vs.below hBw).get hx
      refine ⟨v.l[q], g, o, ax, cx, hx, e, hg, c0, c1, c2, c3, fun w2 hb2 => ?_⟩
      have := wts_get hx
      exact ih _ _ B w2 (by omega) (by omega) (hw.below hb2)
    clear ih hv
    go_enter Tryz.func130, Tryz.ntmps130
    go_wp2_with fail
    go_loopg [3, 13] v.l.length (fun g nv i wr => ∃ q : Nat, q ≤ v.l.length ∧ g = v.l.length - q ∧ i = .int .i64 q ∧ nv = .int .i64 (1 + v.t.length + wts (v.l.take q) : Nat) ∧ Below (w.heap.size + 1) w0 wr)
    case atStart => exact ⟨0, Nat.zero_le _, rfl, rfl, by simp [wts], by rw [← hsz]; exact Below.refl _ _⟩
    case round =>
      obtain ⟨q, hq, rfl, rfl, rfl, hB⟩ := hrel
      by_cases hlt : q < v.l.length
      · obtain ⟨x, g, o, ax, cx, hx, rfl, hg, c0, c1, c2, c3, hcall⟩ := hround q wr hlt hB
        have hltI : (q : Int) < (v.l.length : Int) := by omega
        have hs := wts_take_succ hx
        have hs2 := wts_take_le v.l (q + 1)
        have HS : Hid (wts (v.l.take (q + 1)) = wts (v.l.take q) + wt x) := hs
        have hsum : (1 + v.t.length + wts (v.l.take q) : Nat) + wt x ≤ 4611686018427387904 := by omega
        clear hs hs2 hround hx
        generalize wts (v.l.take q) = z at *
        go_wp2_with fail
        have hba : Below wr.heap.size wr (wr.alloc (.cells #[.int .i64 x.k, .int .i64 x.n, .string ⟨x.t.toArray⟩, .slice ax x.l.length cx] 31)) := (Below.refl _ _).alloc (Nat.le_refl _) _
        refine (hcall _ hba).mono ?_
        rintro e w3 ⟨rfl, hb3⟩
        clear hcall
        go_wp2_with fail
        go_roundg (v.l.length - (q + 1))
        case measure => omega
        case rel => exact ⟨q + 1, by omega, rfl, by go_num, by rw [HS.out]; go_num, hB.trans ((hba.trans (hb3.mono hba.size)).mono (by have := hB.size; omega))⟩
      · have hltI : ¬ (q : Int) < (v.l.length : Int) := by omega
        have hqe : q = v.l.length := by omega
        clear hround
        subst hqe
        go_wp2
        go_ret
        refine ⟨ret_int ?_, hb0.trans (hB.mono (by omega))⟩
        omega
end Go.Proofs.YtnijcolomoobnaaGreatDoor
namespace Go.Proofs.YtnijcolomoobnaaGreatDoor
open Go.RowKit
set_option linter.unusedVariables false
set_option linter.unusedSimpArgs false
attribute [local go_sem ↓] Go.wp_at_zero Go.wp_at_succ

set_option maxRecDepth 100000 in
set_option maxHeartbeats 2000000 in
theorem hasShape_no {B : Nat → Prop} {y : List UInt8} (hy : y.length ≤ 9223372036854775807) {v : V} {sl : Value} {w : World} (hv : IsW B w v sl) (h : v.k ≠ kdOf y ∨ bareB v = false) :
    Calls Tryz.prog 159 #[.agg #[.int .i64 v.k, .int .i64 v.n, .string ⟨v.t.toArray⟩, sl], .string ⟨y.toArray⟩] w fun r w' => r = .returned (.bool false) ∧ Below w.heap.size w w' := by
  obtain ⟨ao, cap, rfl, hc1, hc2⟩ := hv.vs.slice
  obtain ⟨w0, hW, hb0, hsz, d0, d1, d2, d3⟩ := boxed w v (.slice ao v.l.length cap)
  have hK := fun w => kindOf_any y hy w
  have hBr : ∀ w2, Below w0.heap.size w0 w2 → Calls Tryz.prog 165 #[.agg #[.int .i64 v.k, .int .i64 v.n, .string ⟨v.t.toArray⟩, .slice ao v.l.length cap]] w2 fun r w' => r = .returned (.bool (bareB v)) ∧ Below w2.heap.size w2 w' := fun w2 hb2 => isBare_any ((hv.below hb0).below hb2)
  clear hv
  generalize kdOf y = z at *
  by_cases hk : v.k = z
  · have hbf : bareB v = false := by
      rcases h with h | h
      · exact absurd hk h
      · exact h
    rw [hbf] at hBr
    have hk' : (v.k != z) = false := by simp [hk]
    have hgb : w.heap.size < w0.heap.size := by omega
    clear h hk hbf
    go_enter Tryz.func159, Tryz.ntmps159
    go_wp2_with fail
    go_region_held3 (fun w' => w'.cell? ⟨w.heap.size, 0, none⟩ = some (.int .i64 v.k) ∧ w'.cell? ⟨w.heap.size, 1, none⟩ = some (.int .i64 v.n) ∧ w'.cell? ⟨w.heap.size, 2, none⟩ = some (.string ⟨v.t.toArray⟩) ∧ w'.cell? ⟨w.heap.size, 3, none⟩ = some (.slice ao v.l.length cap)) (go_keep)
      (first | (go_at_call 164; refine (hK _).mono ?_; rintro e w' ⟨rfl, rfl⟩) | (go_at_call 165; refine (hBr _ (Below.refl _ _).drew).mono ?_; rintro e w5 ⟨rfl, hb5⟩; replace hb5 := below_undrew hb5; obtain ⟨f3, -⟩ := bcell hb5))
    all_goals
      go_wp2
      go_ret
      exact ⟨rfl, hb0.trans (hb5.mono hb0.size)⟩
  · have hk' : (v.k != z) = true := by simp [hk]
    clear h hBr
    go_enter Tryz.func159, Tryz.ntmps159
    go_wp2_with fail
    go_quiet ((go_at_call 164; exact Calls.quiet_of_same (hK _)))
    go_wp2
    go_ret
    exact ⟨rfl, hb0.trans ((below_drewN _ _).mono hb0.size)⟩
set_option maxRecDepth 100000 in
set_option maxHeartbeats 2000000 in
theorem hasShape_then {B : Nat → Prop} {T : Ty} (hT : T.dp ≤ 4) {v : V} {sl : Value} {w : World} (hv : IsW B w v sl) (hk : v.k = kd T) (hbare : bareB v = true)
    (hlist : ∀ t, T = .list t → HsOk B (tyT t) (shpB t)) (hmap : ∀ k t, T = .map k t → HsOk B (keyT k) (shpB (keyTy k)) ∧ HsOk B (tyT t) (shpB t)) :
    Calls Tryz.prog 159 #[.agg #[.int .i64 v.k, .int .i64 v.n, .string ⟨v.t.toArray⟩, sl], .string ⟨(tyT T).toArray⟩] w fun r w' => r = .returned (.bool (shpB T v)) ∧ Below w.heap.size w w' := by
  have hlen := tyT_len T
  obtain ⟨ao, cap, rfl, hc1, hc2⟩ := hv.vs.slice
  obtain ⟨w0, hW, hb0, hsz, d0, d1, d2, d3⟩ := boxed w v (.slice ao v.l.length cap)
  have hK := fun w => kindOf_any (tyT T) (by omega) w
  have hkd : kdOf (tyT T) = kd T := by unfold kdOf; rw [tyOf_ty hT]
  rw [hkd] at hK
  have hBr : ∀ w2, Below w0.heap.size w0 w2 → Calls Tryz.prog 165 #[.agg #[.int .i64 v.k, .int .i64 v.n, .string ⟨v.t.toArray⟩, .slice ao v.l.length cap]] w2 fun r w' => r = .returned (.bool true) ∧ Below w2.heap.size w2 w' := fun w2 hb2 => by
    have := isBare_any ((hv.below hb0).below hb2)
    rw [hbare] at this
    exact this
  have hk' : (v.k != kd T) = false := by simp [hk]
  have hgb : w.heap.size < w0.heap.size := by omega
  have hL : ∀ w5 t, Below w0.heap.size w0 w5 → T = .list t → Calls Tryz.prog 166 #[.slice ao v.l.length cap, .string ⟨(tyT T).toArray⟩] w5 fun r w' => r = .returned (.bool (decide (v.l.length ≤ 64) && v.l.all (shpB t))) ∧ Below w5.heap.size w5 w' := by
    intro w5 t hb5 e
    have he : (elT (tyT T)).1 = tyT t := by unfold elT; rw [tyOf_ty hT, e]
    exact isListOf_any (by rw [he]; exact hlist t e) (by omega) ((hv.vs.below hb0).below hb5)
  have hM : ∀ w5 k t, Below w0.heap.size w0 w5 → T = .map k t → Calls Tryz.prog 167 #[.slice ao v.l.length cap, .string ⟨(tyT T).toArray⟩] w5 fun r w' => BoolIs (MapR (shpB (keyTy k)) (shpB t) v.l) r ∧ Below w5.heap.size w5 w' := by
    intro w5 k t hb5 e
    have he : mpT (tyT T) = (keyT k, tyT t, true) := by unfold mpT; rw [tyOf_ty hT, e]
    exact isMapOf_any (by rw [he]; exact (hmap k t e).1) (by rw [he]; exact (hmap k t e).2) (by omega) ((hv.vs.below hb0).below hb5)
  have HK : Hid (v.k = kd T) := hk
  clear hv hlist hmap hkd hlen hk
  go_enter Tryz.func159, Tryz.ntmps159
  go_wp2_with fail
  go_region_held3 (fun w' => w'.cell? ⟨w.heap.size, 0, none⟩ = some (.int .i64 v.k) ∧ w'.cell? ⟨w.heap.size, 1, none⟩ = some (.int .i64 v.n) ∧ w'.cell? ⟨w.heap.size, 2, none⟩ = some (.string ⟨v.t.toArray⟩) ∧ w'.cell? ⟨w.heap.size, 3, none⟩ = some (.slice ao v.l.length cap)) (go_keep)
    (first | (go_at_call 164; refine (hK _).mono ?_; rintro e w' ⟨rfl, rfl⟩) | (go_at_call 165; refine (hBr _ (Below.refl _ _).drew).mono ?_; rintro e w5 ⟨rfl, hb5⟩; replace hb5 := below_undrew hb5; obtain ⟨f3, -⟩ := bcell hb5))
  have hB5 : Below w.heap.size w w5 := hb0.trans (hb5.mono hb0.size)
  have e0 : w5.cell? ⟨w.heap.size, 0, none⟩ = some (.int .i64 v.k) := by rw [f3 _ _ hgb]; exact d0
  have e1 : w5.cell? ⟨w.heap.size, 1, none⟩ = some (.int .i64 v.n) := by rw [f3 _ _ hgb]; exact d1
  have e2 : w5.cell? ⟨w.heap.size, 2, none⟩ = some (.string ⟨v.t.toArray⟩) := by rw [f3 _ _ hgb]; exact d2
  have e3 : w5.cell? ⟨w.heap.size, 3, none⟩ = some (.slice ao v.l.length cap) := by rw [f3 _ _ hgb]; exact d3
  clear f3 d0 d1 d2 d3 hW hBr hK hk'
  have hk : v.k = kd T := HK.out
  clear HK
  rcases T with _ | _ | _ | t | ⟨k, t⟩
  · have hfin : Hid (shpB .int v = true) := shpB_iff.2 (shp_int hk hbare)
    replace hk : v.k = 1 := hk
    clear hL hM
    go_wp2
    go_ret
    exact ⟨ret_bool hfin.out.symm, hB5⟩
  · have hfin : Hid (shpB .bool v = true ↔ (v.n = 0 ∨ v.n = 1)) := shpB_iff.trans (shp_bool hk hbare)
    replace hk : v.k = 2 := hk
    clear hL hM
    by_cases n0 : v.n = 0
    · have n0' : (v.n == 0) = true := by simp [n0]
      go_wp2
      go_ret
      exact ⟨ret_bool (hfin.out.2 (Or.inl n0)).symm, hB5⟩
    · have n0' : (v.n == 0) = false := by simp [n0]
      have hfin2 : Hid (shpB .bool v = (v.n == 1)) := by
        show _ = _
        rw [Bool.eq_iff_iff, hfin.out]; simp [n0]
      go_wp2
      go_ret
      exact ⟨ret_bool hfin2.out.symm, hB5⟩
  · have hfin : Hid (shpB .text v = decide (v.t.length ≤ 256)) := by
      show _ = _
      rw [Bool.eq_iff_iff, shpB_iff, shp_text hk hbare]; simp
    replace hk : v.k = 3 := hk
    clear hL hM
    go_wp2
    go_ret
    exact ⟨ret_bool (by rw [hfin.out, decide_eq_decide]; omega), hB5⟩
  · have hfin : Hid (shpB (.list t) v = (decide (v.l.length ≤ 64) && v.l.all (shpB t))) := by
      show _ = _
      rw [Bool.eq_iff_iff, shpB_iff, shp_list hk hbare]
      simp [shpB_iff]
    replace hk : v.k = 4 := hk
    replace hL := hL w5 t hb5 rfl
    clear hM
    generalize tyT (.list t) = y at *
    go_wp2_with fail
    refine hL.mono ?_
    rintro e w6 ⟨rfl, hb6⟩
    clear hL
    go_wp2
    go_ret
    exact ⟨ret_bool hfin.out.symm, hB5.trans (hb6.mono hB5.size)⟩
  · have hfin : Hid (∀ b : Bool, (b = true ↔ MapR (shpB (keyTy k)) (shpB t) v.l) → shpB (.map k t) v = b) := by
      intro b hb
      rw [Bool.eq_iff_iff, hb, shpB_iff, shp_map hk hbare]
      unfold MapR
      simp only [shpB_iff, keyS_shp]
    replace hk : v.k = 5 := hk
    replace hM := hM w5 k t hb5 rfl
    clear hL
    generalize tyT (.map k t) = y at *
    go_wp2_with fail
    refine hM.mono ?_
    rintro e w6 ⟨⟨b, rfl, hb⟩, hb6⟩
    clear hM
    have hfin2 : Hid (shpB (.map k t) v = b) := hfin.out b hb
    clear hb hfin
    go_wp2
    go_ret
    exact ⟨ret_bool hfin2.out.symm, hB5.trans (hb6.mono hB5.size)⟩
theorem hs_ty (B : Nat → Prop) : ∀ (T : Ty), T.dp ≤ 4 → HsOk B (tyT T) (shpB T)
  | T, hT => by
    have hkey : ∀ k : Bool, HsOk B (keyT k) (shpB (keyTy k)) := by
      intro k v sl w hv
      rw [← keyTy_T]
      have hd : (keyTy k).dp ≤ 4 := by rw [keyTy_dp]; omega
      have hlen := tyT_len (keyTy k)
      by_cases hn : v.k ≠ kd (keyTy k) ∨ bareB v = false
      · have hf : shpB (keyTy k) v = false := shpB_false.2 (fun h => by
          rcases hn with hn | hn
          · exact hn h.kind
          · rw [h.bare] at hn; cases hn)
        rw [hf]
        exact hasShape_no (by omega) hv (by unfold kdOf; rw [tyOf_ty hd]; exact hn)
      · have hn1 : v.k = kd (keyTy k) := Decidable.not_not.1 fun h => hn (Or.inl h)
        have hn2 : bareB v = true := by
          rcases h : bareB v with _ | _
          · exact absurd (Or.inr h) hn
          · rfl
        exact hasShape_then hd hv hn1 hn2 (fun t e => by cases k <;> cases e) (fun k' t e => by cases k <;> cases e)
    intro v sl w hv
    have hlen := tyT_len T
    by_cases hn : v.k ≠ kd T ∨ bareB v = false
    · have hf : shpB T v = false := shpB_false.2 (fun h => by
        rcases hn with hn | hn
        · exact hn h.kind
        · rw [h.bare] at hn; cases hn)
      rw [hf]
      exact hasShape_no (by omega) hv (by unfold kdOf; rw [tyOf_ty hT]; exact hn)
    · have hn1 : v.k = kd T := Decidable.not_not.1 fun h => hn (Or.inl h)
      have hn2 : bareB v = true := by
        rcases h : bareB v with _ | _
        · exact absurd (Or.inr h) hn
        · rfl
      refine hasShape_then hT hv hn1 hn2 (fun t e => ?_) (fun k t e => ⟨hkey k, ?_⟩)
      · subst e; exact hs_ty B t (by simp [Ty.dp] at hT; omega)
      · subst e; exact hs_ty B t (by simp [Ty.dp] at hT; omega)
termination_by T => T.dp
decreasing_by all_goals (subst e; simp [Ty.dp])
end Go.Proofs.YtnijcolomoobnaaGreatDoor
namespace Go.Proofs.YtnijcolomoobnaaGreatDoor
open Go.RowKit
set_option linter.unusedVariables false
set_option linter.unusedSimpArgs false
attribute [local go_sem ↓] Go.wp_at_zero Go.wp_at_succ

set_option maxRecDepth 100000 in
set_option maxHeartbeats 2000000 in
theorem hasShape_zero {B : Nat → Prop} {y : List UInt8} (hy : y.length ≤ 9223372036854775807) {v : V} {sl : Value} {w : World} (hv : IsW B w v sl) (hk : v.k = 0) (hky : kdOf y = 0) (hbare : bareB v = true) :
    Calls Tryz.prog 159 #[.agg #[.int .i64 v.k, .int .i64 v.n, .string ⟨v.t.toArray⟩, sl], .string ⟨y.toArray⟩] w fun r w' => r = .returned (.bool false) ∧ Below w.heap.size w w' := by
  obtain ⟨ao, cap, rfl, hc1, hc2⟩ := hv.vs.slice
  obtain ⟨w0, hW, hb0, hsz, d0, d1, d2, d3⟩ := boxed w v (.slice ao v.l.length cap)
  have hK := fun w => kindOf_any y hy w
  have hBr : ∀ w2, Below w0.heap.size w0 w2 → Calls Tryz.prog 165 #[.agg #[.int .i64 v.k, .int .i64 v.n, .string ⟨v.t.toArray⟩, .slice ao v.l.length cap]] w2 fun r w' => r = .returned (.bool true) ∧ Below w2.heap.size w2 w' := fun w2 hb2 => by
    have := isBare_any ((hv.below hb0).below hb2)
    rw [hbare] at this
    exact this
  clear hv
  rw [hky] at hK
  have hk' : (v.k != 0) = false := by simp [hk]
  have HK : Hid (v.k = 0) := hk
  have hgb : w.heap.size < w0.heap.size := by omega
  clear hky hk
  go_enter Tryz.func159, Tryz.ntmps159
  go_wp2_with fail
  go_region_held3 (fun w' => w'.cell? ⟨w.heap.size, 0, none⟩ = some (.int .i64 v.k) ∧ w'.cell? ⟨w.heap.size, 1, none⟩ = some (.int .i64 v.n) ∧ w'.cell? ⟨w.heap.size, 2, none⟩ = some (.string ⟨v.t.toArray⟩) ∧ w'.cell? ⟨w.heap.size, 3, none⟩ = some (.slice ao v.l.length cap)) (go_keep)
    (first | (go_at_call 164; refine (hK _).mono ?_; rintro e w' ⟨rfl, rfl⟩) | (go_at_call 165; refine (hBr _ (Below.refl _ _).drew).mono ?_; rintro e w5 ⟨rfl, hb5⟩; replace hb5 := below_undrew hb5; obtain ⟨f3, -⟩ := bcell hb5))
  have e0 : w5.cell? ⟨w.heap.size, 0, none⟩ = some (.int .i64 v.k) := by rw [f3 _ _ hgb]; exact d0
  clear f3 d0 d1 d2 d3 hW hBr hK hk'
  have hk : v.k = 0 := HK.out
  go_wp2
  go_ret
  exact ⟨rfl, hb0.trans (hb5.mono hb0.size)⟩
theorem hasShape_any {B : Nat → Prop} {y : List UInt8} (hy : y.length ≤ 9223372036854775807) {v : V} {sl : Value} {w : World} (hv : IsW B w v sl) :
    Calls Tryz.prog 159 #[.agg #[.int .i64 v.k, .int .i64 v.n, .string ⟨v.t.toArray⟩, sl], .string ⟨y.toArray⟩] w fun r w' => r = .returned (.bool (shpS y v)) ∧ Below w.heap.size w w' := by
  rcases h : tyOf y with _ | T
  · have hs : shpS y v = false := by unfold shpS; rw [h]
    have hk : kdOf y = 0 := by unfold kdOf; rw [h]
    rw [hs]
    by_cases hn : v.k ≠ kdOf y ∨ bareB v = false
    · exact hasShape_no hy hv hn
    · have hn1 : v.k = kdOf y := Decidable.not_not.1 fun h => hn (Or.inl h)
      have hn2 : bareB v = true := by
        rcases h : bareB v with _ | _
        · exact absurd (Or.inr h) hn
        · rfl
      exact hasShape_zero hy hv (hn1.trans hk) hk hn2
  · obtain ⟨h1, h2⟩ := (tyOf_iff _ _).1 h
    rw [← h1, shpS_ty h2]
    exact hs_ty B T h2 v sl w hv
set_option maxRecDepth 100000 in
set_option maxHeartbeats 1000000 in
theorem fits_any {B : Nat → Prop} {y : List UInt8} (hy : y.length ≤ 9223372036854775807) {v : V} {sl : Value} {w : World} (hv : IsW B w v sl) (hw : wt v ≤ 4611686018427387904) :
    Calls Tryz.prog 144 #[.agg #[.int .i64 v.k, .int .i64 v.n, .string ⟨v.t.toArray⟩, sl], .string ⟨y.toArray⟩] w fun r w' => r = .returned (.bool (fitS y v)) ∧ Below w.heap.size w w' := by
  obtain ⟨ao, cap, rfl, hc1, hc2⟩ := hv.vs.slice
  obtain ⟨w0, hW, hb0, hsz, d0, d1, d2, d3⟩ := boxed w v (.slice ao v.l.length cap)
  have hS := hasShape_any hy (hv.below hb0)
  have hWt : ∀ w2, Below w0.heap.size w0 w2 → Calls Tryz.prog 130 #[.agg #[.int .i64 v.k, .int .i64 v.n, .string ⟨v.t.toArray⟩, .slice ao v.l.length cap]] w2 fun r w' => r = .returned (.int .i64 (wt v)) ∧ Below w2.heap.size w2 w' := fun w2 hb2 => weight_any _ v _ B w2 (Nat.lt_succ_self _) hw ((hv.below hb0).below hb2)
  have hfin : Hid (fitS y v = (shpS y v && decide (wt v ≤ 16384))) := rfl
  have hgb : w.heap.size < w0.heap.size := by omega
  clear hv
  generalize shpS y v = s at *
  generalize wt v = n at *
  cases s
  · go_enter Tryz.func144, Tryz.ntmps144
    go_wp2_with fail
    refine hS.mono ?_
    rintro e w5 ⟨rfl, hb5⟩
    go_wp2
    go_ret
    exact ⟨ret_bool (by rw [hfin.out]; rfl), hb0.trans (hb5.mono hb0.size)⟩
  · go_enter Tryz.func144, Tryz.ntmps144
    go_wp2_with fail
    refine hS.mono ?_
    rintro e w5 ⟨rfl, hb5⟩
    obtain ⟨f3, -⟩ := bcell hb5
    have e0 : w5.cell? ⟨w.heap.size, 0, none⟩ = some (.int .i64 v.k) := by rw [f3 _ _ hgb]; exact d0
    have e1 : w5.cell? ⟨w.heap.size, 1, none⟩ = some (.int .i64 v.n) := by rw [f3 _ _ hgb]; exact d1
    have e2 : w5.cell? ⟨w.heap.size, 2, none⟩ = some (.string ⟨v.t.toArray⟩) := by rw [f3 _ _ hgb]; exact d2
    have e3 : w5.cell? ⟨w.heap.size, 3, none⟩ = some (.slice ao v.l.length cap) := by rw [f3 _ _ hgb]; exact d3
    clear f3 d0 d1 d2 d3 hW hS
    go_wp2_with fail
    refine (hWt _ hb5).mono ?_
    rintro e w6 ⟨rfl, hb6⟩
    clear hWt
    go_wp2
    go_ret
    exact ⟨ret_bool (by rw [hfin.out, Bool.true_and, decide_eq_decide]; omega), hb0.trans ((hb5.trans (hb6.mono hb5.size)).mono hb0.size)⟩
end Go.Proofs.YtnijcolomoobnaaGreatDoor
namespace Go.Proofs.YtnijcolomoobnaaGreatDoor
open Go.RowKit
set_option linter.unusedVariables false
set_option linter.unusedSimpArgs false
attribute [local go_sem ↓] Go.wp_at_zero Go.wp_at_succ

structure MapI (pk pv : V → Bool) (l : List V) (q : Nat) : Prop where
  each : ∀ j x, j < q → l[j]? = some x → (if j % 2 = 0 then pk x else pv x) = true
  rise : ∀ j x y, j + 2 < q → j % 2 = 0 → l[j]? = some x → l[j + 2]? = some y → cmpV x y < 0
theorem MapI.step {pk pv : V → Bool} {l : List V} {q : Nat} (h : MapI pk pv l q) {x : V} (hx : l[q]? = some x) (h1 : (if q % 2 = 0 then pk x else pv x) = true) (h2 : ∀ m z, m + 2 = q → m % 2 = 0 → l[m]? = some z → cmpV z x < 0) : MapI pk pv l (q + 1) := by
  refine ⟨fun j z hj hz => ?_, fun j a b hj h0 ha hb => ?_⟩
  · by_cases e : j = q
    · subst e; rw [hx] at hz; cases hz; exact h1
    · exact h.each j z (by omega) hz
  · by_cases e : j + 2 = q
    · rw [e, hx] at hb; cases hb; exact h2 j a e h0 ha
    · exact h.rise j a b (by omega) h0 ha hb
theorem MapI.all {pk pv : V → Bool} {l : List V} {q : Nat} (h : MapI pk pv l q) (h1 : l.length % 2 = 0) (h2 : l.length ≤ 128) (hq : l.length ≤ q) : MapR pk pv l := by
  refine ⟨h1, h2, fun i x hx => ?_, fun i x hx => ?_, fun i a b ha hb => ?_⟩
  · have := (List.getElem?_eq_some_iff.1 hx).1
    have := h.each (2 * i) x (by omega) hx
    rwa [if_pos (by omega)] at this
  · have := (List.getElem?_eq_some_iff.1 hx).1
    have := h.each (2 * i + 1) x (by omega) hx
    rwa [if_neg (by omega)] at this
  · have := (List.getElem?_eq_some_iff.1 hb).1
    exact h.rise (2 * i) a b (by omega) (by omega) ha hb

end Go.Proofs.YtnijcolomoobnaaGreatDoor
namespace Go.Proofs.YtnijcolomoobnaaGreatDoor
open Go.RowKit
set_option linter.unusedVariables false
set_option linter.unusedSimpArgs false
attribute [local go_sem ↓] Go.wp_at_zero Go.wp_at_succ

theorem insOk_of {nc : Nat} {states : Int} {fs : List Fu} {n : Nat} {f : Fu} (hn : n ≤ fs.length) (hnum : NumOk nc f) (hins : ∀ i ∈ f.code, InOk nc states n f i) (hpre : ∀ k g, k < n → fs[k]? = some g → 0 ≤ g.params ∧ g.params ≤ 8) : InsOk fs f := by
  unfold NumOk at hnum
  refine ⟨by omega, by omega, by omega, fun i hi h9 => ?_, fun i hi => ?_, fun i hi h => ?_⟩
  · have := (hins i hi).call h9
    exact ⟨i.a.toNat, fs[i.a.toNat]'(by omega), by omega, List.getElem?_eq_getElem _⟩
  · unfold popN
    split
    · omega
    split
    · omega
    split
    · omega
    split
    · rename_i h9
      have h := (hins i hi).call (by simpa using h9)
      have hg : fs[i.a.toNat]? = some (fs[i.a.toNat]'(by omega)) := List.getElem?_eq_getElem _
      rw [hg]
      exact hpre _ _ (by omega) hg
    · omega
  · obtain ⟨_, _, h3, _⟩ := inOk_iff.1 (hins i hi)
    unfold inLow at h3
    split at h3
    · rename_i h12
      simp at h12
      omega
    · exact h3
end Go.Proofs.YtnijcolomoobnaaGreatDoor
