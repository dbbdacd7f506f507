/- Texts of ours, joined: Ro. -/
import Derived.Test.YtndahpcjkcihlaaG09
import Derived.Test.YtndahpcjkcihlaaG06
import Derived.Test.YtndahpcjkcihlaaG11
/- Which values a type has: the document's. -/
namespace Go.Proofs.Ytndahpcjkcihlaa
open Go.RowKit
set_option linter.unusedVariables false
set_option linter.unusedSimpArgs false
attribute [local go_sem ↓] Go.wp_at_zero Go.wp_at_succ

/-- of does what it should, of this type's text. -/
def RoOk (B : Nat → Prop) (y : List UInt8) (p : V → Bool) : Prop := ∀ (v : V) (sl : Value) (w : World), IsW B w v sl →
    Calls Try.prog 35 #[.agg #[.int .i64 v.k, .int .i64 v.n, .string ⟨v.t.toArray⟩, sl], .string ⟨y.toArray⟩] w fun r w' => r = .returned (.bool (p v)) ∧ Below w.heap.size w w'
theorem kd_pos (T : Ty) : kd T ≠ 0 := by cases T <;> simp [kd]
theorem run_f24 (a b c d : Value) (w : World) : (Instr.field 29 (.agg #[a, b, c, d]) 0).run Try.prog w = Result.ok a w := by kernel_rfl

set_option maxRecDepth 100000 in
set_option maxHeartbeats 2000000 in
/-- Another kind. -/
theorem rof_no {B : Nat → Prop} {T : Ty} (hT : T.dp ≤ 4) {v : V} {sl : Value} {w : World} (hv : IsW B w v sl) (h : v.k ≠ kd T) :
    Calls Try.prog 35 #[.agg #[.int .i64 v.k, .int .i64 v.n, .string ⟨v.t.toArray⟩, sl], .string ⟨(tyT T).toArray⟩] w fun r w' => r = .returned (.bool false) ∧ Below w.heap.size w w' := by
  obtain ⟨ao, cap, rfl, hc1, hc2⟩ := hv.vs.slice
  obtain ⟨w0, hW, hb0, hsz, d0, d1, d2, d3⟩ := boxed w v (.slice ao v.l.length cap)
  have hlen := tyT_len T
  have hkd : kdOf (tyT T) = kd T := by unfold kdOf; rw [tyOf_ty hT]
  have hZ := fun w => rzero_any (tyT T) (by omega) w
  rw [hkd] at hZ
  clear hv hkd hlen
  generalize tyT T = y at *
  generalize kd T = z at *
  by_cases h0 : v.k = 0
  · have h0' : (v.k == 0) = true := by simp [h0]
    clear h h0 hZ
    go_enter Try.func35, Try.ntmps35
    go_wp2_with fail
    go_quiet (fail)
    go_wp2
    go_ret
    exact ⟨rfl, hb0.trans ((below_drewN _ _).mono hb0.size)⟩
  · have h0' : (v.k == 0) = false := by simp [h0]
    have hk' : (v.k != z) = true := by simp [h]
    have hgb : w.heap.size < w0.heap.size := by omega
    have hfd := fun a b c d w => run_f24 a b c d w
    clear h h0
    go_enter Try.func35, Try.ntmps35
    go_wp2_with fail
    go_region_held3 (fun w' => w'.cell? ⟨w.heap.size, 0, none⟩ = some (.int .i64 v.k) ∧ w'.cell? ⟨w.heap.size, 1, none⟩ = some (.int .i64 v.n) ∧ w'.cell? ⟨w.heap.size, 2, none⟩ = some (.string ⟨v.t.toArray⟩) ∧ w'.cell? ⟨w.heap.size, 3, none⟩ = some (.slice ao v.l.length cap)) (go_keep)
      ((go_at_call 61; refine (hZ _).mono ?_; rintro e w5 ⟨rfl, hb5⟩; replace hb5 := below_undrew hb5; obtain ⟨f3, -⟩ := bcell hb5))
    all_goals
      go_wp2
      go_ret
      exact ⟨rfl, hb0.trans (hb5.mono hb0.size)⟩
set_option maxRecDepth 100000 in
set_option maxHeartbeats 4000000 in
/-- The right kind: what is asked then. -/
theorem rof_then {B : Nat → Prop} {T : Ty} (hT : T.dp ≤ 4) {v : V} {sl : Value} {w : World} (hv : IsW B w v sl) (hk : v.k = kd T)
    (hlist : ∀ t, T = .list t → RoOk B (tyT t) (shpB t)) (hmap : ∀ k t, T ≠ .map k t) :
    Calls Try.prog 35 #[.agg #[.int .i64 v.k, .int .i64 v.n, .string ⟨v.t.toArray⟩, sl], .string ⟨(tyT T).toArray⟩] w fun r w' => r = .returned (.bool (shpB T v)) ∧ Below w.heap.size w w' := by
  have hlen := tyT_len T
  obtain ⟨ao, cap, rfl, hc1, hc2⟩ := hv.vs.slice
  obtain ⟨w0, hW, hb0, hsz, d0, d1, d2, d3⟩ := boxed w v (.slice ao v.l.length cap)
  have hkd : kdOf (tyT T) = kd T := by unfold kdOf; rw [tyOf_ty hT]
  have hZ := fun w => rzero_any (tyT T) (by omega) w
  rw [hkd] at hZ
  have h0' : (v.k == 0) = false := by rw [hk]; have := kd_pos T; simp [this]
  have hk' : (v.k != kd T) = false := by simp [hk]
  have hgb : w.heap.size < w0.heap.size := by omega
  have hfd := fun a b c d w => run_f24 a b c d w
  have HV : Hid (IsW B w v (.slice ao v.l.length cap)) := hv
  have HL : Hid (∀ t, T = .list t → RoOk B (tyT t) (shpB t)) := hlist
  have HM : Hid (∀ k t, T ≠ .map k t) := hmap
  have HK : Hid (v.k = kd T) := hk
  clear hv hlist hmap hkd hlen hk
  go_enter Try.func35, Try.ntmps35
  go_wp2_with fail
  go_region_held3 (fun w' => w'.cell? ⟨w.heap.size, 0, none⟩ = some (.int .i64 v.k) ∧ w'.cell? ⟨w.heap.size, 1, none⟩ = some (.int .i64 v.n) ∧ w'.cell? ⟨w.heap.size, 2, none⟩ = some (.string ⟨v.t.toArray⟩) ∧ w'.cell? ⟨w.heap.size, 3, none⟩ = some (.slice ao v.l.length cap)) (go_keep)
    ((go_at_call 61; refine (hZ _).mono ?_; rintro e w5 ⟨rfl, hb5⟩; replace hb5 := below_undrew hb5; obtain ⟨f3, -⟩ := bcell hb5))
  have hB5 : Below w.heap.size w w5 := hb0.trans (hb5.mono hb0.size)
  have hgb5 : w.heap.size < w5.heap.size := by have := hb5.size; omega
  have e0 : w5.cell? ⟨w.heap.size, 0, none⟩ = some (.int .i64 v.k) := by rw [f3 _ _ hgb]; exact d0
  have e1 : w5.cell? ⟨w.heap.size, 1, none⟩ = some (.int .i64 v.n) := by rw [f3 _ _ hgb]; exact d1
  have e2 : w5.cell? ⟨w.heap.size, 2, none⟩ = some (.string ⟨v.t.toArray⟩) := by rw [f3 _ _ hgb]; exact d2
  have e3 : w5.cell? ⟨w.heap.size, 3, none⟩ = some (.slice ao v.l.length cap) := by rw [f3 _ _ hgb]; exact d3
  clear f3 d0 d1 d2 d3 hW hZ hk' h0' hb5 hb0 hsz hgb
  have hk : v.k = kd T := HK.out
  clear HK
  rcases T with _ | _ | _ | t | ⟨k, t⟩
  · replace hk : v.k = 1 := hk
    clear HL HM HV
    by_cases ht : ¬ v.t = []
    · have hfin : Hid (shpB .int v = false) := shpB_false.2 (fun h => by rw [Shp] at h; have := h.2; simp_all)
      have qt : (v.t == []) = false := by simp [ht]
      have qt2 : (v.t != []) = true := by simp [ht]
      clear ht
      go_wp2_with fail
      all_goals
        go_ret
        exact ⟨ret_bool hfin.out.symm, hB5⟩
    replace ht : v.t = [] := Decidable.not_not.1 ht
    by_cases hl : ¬ v.l.length = 0
    · have hfin : Hid (shpB .int v = false) := shpB_false.2 (fun h => by rw [Shp] at h; have := h.2; simp_all)
      have ql : (0 : Int) < (v.l.length : Int) := by omega
      clear hl
      go_wp2_with fail
      all_goals
        go_ret
        exact ⟨ret_bool hfin.out.symm, hB5⟩
    replace hl : v.l.length = 0 := Decidable.not_not.1 hl
    have qt : v.t = [] := ht
    have ql : ¬ (0 : Int) < (v.l.length : Int) := by omega
    have hfin : Hid (shpB .int v = true) := shpB_iff.2 (by rw [Shp]; exact ⟨hk, ht, List.eq_nil_of_length_eq_zero hl⟩)
    go_wp2
    go_ret
    exact ⟨ret_bool hfin.out.symm, hB5⟩
  · replace hk : v.k = 2 := hk
    clear HL HM HV
    by_cases ht : ¬ v.t = []
    · have hfin : Hid (shpB .bool v = false) := shpB_false.2 (fun h => by rw [Shp] at h; have := h.2; simp_all)
      have qt : (v.t == []) = false := by simp [ht]
      have qt2 : (v.t != []) = true := by simp [ht]
      clear ht
      go_wp2_with fail
      all_goals
        go_ret
        exact ⟨ret_bool hfin.out.symm, hB5⟩
    replace ht : v.t = [] := Decidable.not_not.1 ht
    by_cases hl : ¬ v.l.length = 0
    · have hfin : Hid (shpB .bool v = false) := shpB_false.2 (fun h => by rw [Shp] at h; have := h.2; simp_all)
      have ql : (0 : Int) < (v.l.length : Int) := by omega
      clear hl
      go_wp2_with fail
      all_goals
        go_ret
        exact ⟨ret_bool hfin.out.symm, hB5⟩
    replace hl : v.l.length = 0 := Decidable.not_not.1 hl
    have qt : v.t = [] := ht
    have ql : ¬ (0 : Int) < (v.l.length : Int) := by omega
    have hfin : Hid (shpB .bool v = true ↔ (v.n = 0 ∨ v.n = 1)) := shpB_iff.trans (by rw [Shp]; exact ⟨fun h => h.2.2.2, fun h => ⟨hk, ht, List.eq_nil_of_length_eq_zero hl, h⟩⟩)
    by_cases n0 : v.n = 0
    · have n0' : (v.n == 0) = true := by simp [n0]
      go_wp2
      go_ret
      exact ⟨ret_bool (hfin.out.2 (Or.inl n0)).symm, hB5⟩
    · have n0' : (v.n == 0) = false := by simp [n0]
      have hfin2 : Hid (shpB .bool v = (v.n == 1)) := by
        show _ = _
        rw [Bool.eq_iff_iff, hfin.out]; simp [n0]
      go_wp2
      go_ret
      exact ⟨ret_bool hfin2.out.symm, hB5⟩
  · replace hk : v.k = 3 := hk
    clear HL HM HV
    by_cases hn : ¬ v.n = 0
    · have hfin : Hid (shpB .text v = false) := shpB_false.2 (fun h => by rw [Shp] at h; have := h.2; simp_all)
      have qn : (v.n == 0) = false := by simp [hn]
      have qn2 : (v.n != 0) = true := by simp [hn]
      clear hn
      go_wp2_with fail
      all_goals
        go_ret
        exact ⟨ret_bool hfin.out.symm, hB5⟩
    replace hn : v.n = 0 := Decidable.not_not.1 hn
    by_cases hl : ¬ v.l.length = 0
    · have hfin : Hid (shpB .text v = false) := shpB_false.2 (fun h => by rw [Shp] at h; have := h.2; simp_all)
      have ql : (0 : Int) < (v.l.length : Int) := by omega
      clear hl
      go_wp2_with fail
      all_goals
        go_ret
        exact ⟨ret_bool hfin.out.symm, hB5⟩
    replace hl : v.l.length = 0 := Decidable.not_not.1 hl
    have qn : v.n = 0 := hn
    have ql : ¬ (0 : Int) < (v.l.length : Int) := by omega
    have hfin : Hid (shpB .text v = decide (v.t.length ≤ 256)) := by
      show _ = _
      rw [Bool.eq_iff_iff, shpB_iff, Shp]; simp [hk, hn, List.eq_nil_of_length_eq_zero hl]
    go_wp2
    go_ret
    exact ⟨ret_bool (by rw [hfin.out, decide_eq_decide]; omega), hB5⟩
  · replace hk : v.k = 4 := hk
    have hR : RoOk B (tyT t) (shpB t) := HL.out t rfl
    clear HL HM
    by_cases hn : ¬ v.n = 0
    · have hfin : Hid (shpB (.list t) v = false) := shpB_false.2 (fun h => by rw [Shp] at h; exact hn h.2.1)
      have qn : (v.n == 0) = false := by simp [hn]
      have qn2 : (v.n != 0) = true := by simp [hn]
      clear hn HV hR
      go_wp2_with fail
      all_goals
        go_ret
        exact ⟨ret_bool hfin.out.symm, hB5⟩
    replace hn : v.n = 0 := Decidable.not_not.1 hn
    by_cases ht : ¬ v.t = []
    · have hfin : Hid (shpB (.list t) v = false) := shpB_false.2 (fun h => by rw [Shp] at h; exact ht h.2.2.1)
      have qt : (v.t == []) = false := by simp [ht]
      have qt2 : (v.t != []) = true := by simp [ht]
      clear ht HV hR
      go_wp2_with fail
      all_goals
        go_ret
        exact ⟨ret_bool hfin.out.symm, hB5⟩
    replace ht : v.t = [] := Decidable.not_not.1 ht
    have hLi := fun w => rlist_any (tyT (.list t)) (by have := tyT_len (.list t); omega) w
    have hel : (elT (tyT (.list t))).1 = tyT t := by unfold elT; rw [tyOf_ty hT]
    rw [hel] at hLi
    have hfin : Hid (shpB (.list t) v = (decide (v.l.length ≤ 64) && v.l.all (shpB t))) := by
      show _ = _
      rw [Bool.eq_iff_iff, shpB_iff, Shp]
      simp [shpB_iff, hk, hn, ht]
    have hround : ∀ (q : Nat) (wr : World), q < v.l.length → Below w5.heap.size w5 wr →
        ∃ x g o ax cx, v.l[q]? = some x ∧ ao = some ⟨g, o, none⟩ ∧ g < wr.heap.size ∧ wr.cell? ⟨g, o + q * 4, none⟩ = some (.int .i64 x.k) ∧ wr.cell? ⟨g, o + q * 4 + 1, none⟩ = some (.int .i64 x.n) ∧ wr.cell? ⟨g, o + q * 4 + 2, none⟩ = some (.string ⟨x.t.toArray⟩) ∧ wr.cell? ⟨g, o + q * 4 + 3, none⟩ = some (.slice ax x.l.length cx) ∧
          ∀ w2, Below wr.heap.size wr w2 → Calls Try.prog 35 #[.agg #[.int .i64 x.k, .int .i64 x.n, .string ⟨x.t.toArray⟩, .slice ax x.l.length cx], .string ⟨(tyT t).toArray⟩] w2 fun r w' => r = .returned (.bool (shpB t x)) ∧ Below w2.heap.size w2 w' := by
      intro q wr hq hB
      have hx : v.l[q]? = some v.l[q] := List.getElem?_eq_getElem hq
      obtain ⟨g, o, ax, cx, e, _, hg1, c0, c1, c2, c3, hw⟩ := (HV.out.vs.below (hB5.trans (hB.mono hB5.size))).get hx
      exact ⟨v.l[q], g, o, ax, cx, hx, e, hg1, c0, c1, c2, c3, fun w2 h2 => hR _ _ w2 (hw.below h2)⟩
    have hend : ∀ wr, Below w5.heap.size w5 wr → wr.cell? ⟨w.heap.size, 3, none⟩ = some (.slice ao v.l.length cap) ∧ w.heap.size < wr.heap.size := fun wr h => ⟨by rw [(bcell h).1 _ _ hgb5]; exact e3, by have := h.size; omega⟩
    clear HV hR hel
    generalize tyT (.list t) = y at *
    generalize tyT t = yt at *
    generalize shpB t = p at *
    go_wp2_with fail
    go_loopg [75] v.l.length (fun g i wr => ∃ q : Nat, q ≤ v.l.length ∧ g = v.l.length - q ∧ i = .int .i64 q ∧ Hid (∀ j x, j < q → v.l[j]? = some x → p x = true) ∧ Below w5.heap.size w5 wr)
    case atStart => exact ⟨0, Nat.zero_le _, rfl, rfl, fun j x h => by omega, Below.refl _ _⟩
    case round =>
      obtain ⟨q, hq, rfl, rfl, HA, hB⟩ := hrel
      have hBw : Below w.heap.size w wr := hB5.trans (hB.mono hB5.size)
      clear e0 e1 e2 e3 hk hn ht
      by_cases hlt : q < v.l.length
      · obtain ⟨x, g, o, ax, cx, hx, rfl, hg, c0, c1, c2, c3, hcall⟩ := hround q wr hlt hB
        have hltI : (q : Int) < (v.l.length : Int) := by omega
        have hx' : Hid (v.l[q]? = some x) := hx
        obtain ⟨wx, hWx, hbx, hsx, x0, x1, x2, x3⟩ := boxed wr x (.slice ax x.l.length cx)
        replace hcall := fun w2 (h : Below wx.heap.size wx w2) => hcall w2 (hbx.trans (h.mono hbx.size))
        have hgx : wr.heap.size < wx.heap.size := by omega
        clear hround hend hx
        go_wp2_with fail
        go_region_held3 (fun w' => w'.cell? ⟨wr.heap.size, 0, none⟩ = some (.int .i64 x.k) ∧ w'.cell? ⟨wr.heap.size, 1, none⟩ = some (.int .i64 x.n) ∧ w'.cell? ⟨wr.heap.size, 2, none⟩ = some (.string ⟨x.t.toArray⟩) ∧ w'.cell? ⟨wr.heap.size, 3, none⟩ = some (.slice ax x.l.length cx)) (go_keep)
          (first | (go_at_call 62; refine (hLi _).mono ?_; rintro e w' ⟨rfl, rfl⟩) | (go_at_call 35; refine (hcall _ (Below.refl _ _).drew).mono ?_; rintro e w3 ⟨rfl, hb3⟩; replace hb3 := below_undrew hb3; obtain ⟨f3, -⟩ := bcell hb3))
        have hB3 : Below w5.heap.size w5 w3 := hB.trans ((hbx.trans (hb3.mono hbx.size)).mono hB.size)
        have hBw3 : Below w.heap.size w w3 := hB5.trans (hB3.mono hB5.size)
        clear hcall f3 x0 x1 x2 x3 c0 c1 c2 c3 hWx
        rcases hp : p x with _ | _
        · have hf2 : Hid (shpB (.list t) v = false) := by
            show _ = _
            rw [hfin.out, Bool.and_eq_false_iff]
            refine Or.inr (List.all_eq_false.2 ⟨x, List.mem_of_getElem? hx'.out, by simp [hp]⟩)
          go_wp2
          go_ret
          exact ⟨ret_bool hf2.out.symm, hBw3⟩
        · have HA2 : Hid (∀ j x, j < q + 1 → v.l[j]? = some x → p x = true) := by
            intro j z hj hz
            by_cases e : j = q
            · subst e; rw [hx'.out] at hz; cases hz; exact hp
            · exact HA.out j z (by omega) hz
          go_wp2_with fail
          go_roundg (v.l.length - (q + 1))
          case measure => omega
          case rel => exact ⟨q + 1, by omega, rfl, by go_num, HA2, hB3⟩
      · have hltI : ¬ (q : Int) < (v.l.length : Int) := by omega
        obtain ⟨r3, hgr⟩ := hend wr hB
        have hf2 : Hid (shpB (.list t) v = decide (v.l.length ≤ 64)) := by
          show _ = _
          have ha : v.l.all p = true := by
            rw [List.all_eq_true]
            intro x hx
            obtain ⟨j, hj⟩ := List.mem_iff_getElem?.1 hx
            have := (List.getElem?_eq_some_iff.1 hj).1
            exact HA.out j x (by omega) hj
          rw [hfin.out, ha, Bool.and_true]
        clear hround hend HA
        go_wp2
        go_ret
        exact ⟨ret_bool (by rw [hf2.out, decide_eq_decide]; omega), hBw⟩
  · exact absurd rfl (HM.out k t)
end Go.Proofs.Ytndahpcjkcihlaa
