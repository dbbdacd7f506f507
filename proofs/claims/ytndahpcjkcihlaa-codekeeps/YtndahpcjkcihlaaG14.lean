/- Texts of ours, joined: Ro3, Kt, Ja, Kg. -/
import Derived.Test.YtndahpcjkcihlaaG13
import Derived.Test.YtndahpcjkcihlaaG06
import Derived.Test.YtndahpcjkcihlaaG11
import Derived.Laws.MakeOwn
import Derived.Laws.AppendOwn
import Derived.Laws.OwnMore
import Derived.Deep.AppendLies
/- Fits, the document's; a truth as a number. -/
namespace Go.Proofs.Ytndahpcjkcihlaa
open Go.RowKit
set_option linter.unusedVariables false
set_option linter.unusedSimpArgs false
attribute [local go_sem ↓] Go.wp_at_zero Go.wp_at_succ

theorem ro_ty (B : Nat → Prop) : ∀ (T : Ty), T.dp ≤ 4 → RoOk B (tyT T) (shpB T)
  | T, hT => by
    have hkey : ∀ k : Bool, RoOk B (keyT k) (shpB (keyTy k)) := by
      intro k v sl w hv
      rw [← keyTy_T]
      have hd : (keyTy k).dp ≤ 4 := by rw [keyTy_dp]; omega
      by_cases hn : v.k = kd (keyTy k)
      · exact rof_then hd hv hn (fun t e => by cases k <;> cases e) (fun k' t e => by cases k <;> cases e)
      · have hf : shpB (keyTy k) v = false := shpB_false.2 (fun h => hn h.kind)
        rw [hf]
        exact rof_no hd hv hn
    intro v sl w hv
    by_cases hn : v.k = kd T
    · by_cases hm : ∃ k t, T = .map k t
      · obtain ⟨k, t, e⟩ := hm
        subst e
        exact rof_map hT hv hn (hkey k) (ro_ty B t (by simp [Ty.dp] at hT; omega))
      · refine rof_then hT hv hn (fun t e => ?_) (fun k t e => hm ⟨k, t, e⟩)
        subst e; exact ro_ty B t (by simp [Ty.dp] at hT; omega)
    · have hf : shpB T v = false := shpB_false.2 (fun h => hn h.kind)
      rw [hf]
      exact rof_no hT hv hn
termination_by T => T.dp
decreasing_by all_goals (subst e; simp [Ty.dp])
set_option maxRecDepth 100000 in
set_option maxHeartbeats 1000000 in
theorem rfits_any {B : Nat → Prop} {y : List UInt8} (hy : y.length ≤ 9223372036854775807) {v : V} {sl : Value} {w : World} (hv : IsW B w v sl) (hw : wt v ≤ 4611686018427387904) :
    Calls Try.prog 20 #[.agg #[.int .i64 v.k, .int .i64 v.n, .string ⟨v.t.toArray⟩, sl], .string ⟨y.toArray⟩] w fun r w' => r = .returned (.bool (fitS y v)) ∧ Below w.heap.size w w' := by
  obtain ⟨ao, cap, rfl, hc1, hc2⟩ := hv.vs.slice
  obtain ⟨w0, hW, hb0, hsz, d0, d1, d2, d3⟩ := boxed w v (.slice ao v.l.length cap)
  have hT := fun w => rtype_l y hy w
  unfold gType at hT
  rcases h : tyOf y with _ | T
  · have hfin : Hid (fitS y v = false) := by show _ = _; unfold fitS shpS; rw [h]; rfl
    rw [h] at hT
    clear hv h
    go_enter Try.func20, Try.ntmps20
    go_wp2_with fail
    refine (hT _).mono ?_
    rintro e w' ⟨rfl, rfl⟩
    go_wp2
    go_ret
    exact ⟨ret_bool hfin.out.symm, hb0⟩
  · obtain ⟨h1, h2⟩ := (tyOf_iff _ _).1 h
    have hS : ∀ w2, Below w0.heap.size w0 w2 → Calls Try.prog 35 #[.agg #[.int .i64 v.k, .int .i64 v.n, .string ⟨v.t.toArray⟩, .slice ao v.l.length cap], .string ⟨y.toArray⟩] w2 fun r w' => r = .returned (.bool (shpB T v)) ∧ Below w2.heap.size w2 w' := fun w2 hb2 => by
      rw [← h1]; exact ro_ty B T h2 v _ w2 ((hv.below hb0).below hb2)
    have hWt := rweight_any _ v _ B w0 (Nat.lt_succ_self _) hw (hv.below hb0)
    have hfin : Hid (fitS y v = (shpB T v && decide (wt v ≤ 16384))) := by show _ = _; unfold fitS shpS; rw [h]
    rw [h] at hT
    have hgb : w.heap.size < w0.heap.size := by omega
    clear hv h h1 h2
    generalize shpB T v = s at *
    generalize wt v = n at *
    by_cases hn : n ≤ 16384
    · have hnI : (n : Int) ≤ 16384 := by omega
      go_enter Try.func20, Try.ntmps20
      go_wp2_with fail
      refine (hT _).mono ?_
      rintro e w' ⟨rfl, rfl⟩
      go_wp2_with fail
      refine hWt.mono ?_
      rintro e w5 ⟨rfl, hb5⟩
      obtain ⟨f3, -⟩ := bcell hb5
      have e0 : w5.cell? ⟨w.heap.size, 0, none⟩ = some (.int .i64 v.k) := by rw [f3 _ _ hgb]; exact d0
      have e1 : w5.cell? ⟨w.heap.size, 1, none⟩ = some (.int .i64 v.n) := by rw [f3 _ _ hgb]; exact d1
      have e2 : w5.cell? ⟨w.heap.size, 2, none⟩ = some (.string ⟨v.t.toArray⟩) := by rw [f3 _ _ hgb]; exact d2
      have e3 : w5.cell? ⟨w.heap.size, 3, none⟩ = some (.slice ao v.l.length cap) := by rw [f3 _ _ hgb]; exact d3
      clear f3 d0 d1 d2 d3 hW hWt hT
      go_wp2_with fail
      refine (hS _ hb5).mono ?_
      rintro e w6 ⟨rfl, hb6⟩
      clear hS
      go_wp2
      go_ret
      exact ⟨ret_bool (by rw [hfin.out, decide_eq_true hn, Bool.and_true]), hb0.trans ((hb5.trans (hb6.mono hb5.size)).mono hb0.size)⟩
    · have hnI : ¬ (n : Int) ≤ 16384 := by omega
      clear hS
      go_enter Try.func20, Try.ntmps20
      go_wp2_with fail
      refine (hT _).mono ?_
      rintro e w' ⟨rfl, rfl⟩
      go_wp2_with fail
      refine hWt.mono ?_
      rintro e w5 ⟨rfl, hb5⟩
      clear hWt hT
      go_wp2
      go_ret
      exact ⟨ret_bool (by rw [hfin.out, decide_eq_false hn, Bool.and_false]), hb0.trans (hb5.mono hb0.size)⟩
end Go.Proofs.Ytndahpcjkcihlaa
/- A constant's type: the document's. -/
namespace Go.Proofs.Ytndahpcjkcihlaa
open Go.RowKit
set_option linter.unusedVariables false
set_option linter.unusedSimpArgs false
attribute [local go_sem ↓] Go.wp_at_zero Go.wp_at_succ

abbrev tyA : Array Value := #[.string ⟨#[105, 110, 116]⟩, .string ⟨#[98, 111, 111, 108]⟩, .string ⟨#[116, 101, 120, 116]⟩, .string ⟨#[91, 105, 110, 116, 93]⟩, .string ⟨#[123, 105, 110, 116, 58, 105, 110, 116, 125]⟩]
theorem tys_index (q : Nat) (hq : q < 5) : ∃ t, tys[q]? = some t ∧ t.length ≤ 9 ∧ ∀ w, (Instr.index 51 (.agg tyA) (.int .i64 q)).run Try.prog w = .ok (.string ⟨t.toArray⟩) w := by
  have h : q = 0 ∨ q = 1 ∨ q = 2 ∨ q = 3 ∨ q = 4 := by omega
  rcases h with rfl | rfl | rfl | rfl | rfl
  · exact ⟨_, rfl, by decide, fun w => by kernel_rfl⟩
  · exact ⟨_, rfl, by decide, fun w => by kernel_rfl⟩
  · exact ⟨_, rfl, by decide, fun w => by kernel_rfl⟩
  · exact ⟨_, rfl, by decide, fun w => by kernel_rfl⟩
  · exact ⟨_, rfl, by decide, fun w => by kernel_rfl⟩
theorem box5s (w : World) : ∃ wz w4, w.alloc (.cells #[.string ⟨#[]⟩, .string ⟨#[]⟩, .string ⟨#[]⟩, .string ⟨#[]⟩, .string ⟨#[]⟩] 51) = wz ∧ ((((wz.setCell ⟨w.heap.size, 0, none⟩ (.string ⟨#[105, 110, 116]⟩)).setCell ⟨w.heap.size, 1, none⟩ (.string ⟨#[98, 111, 111, 108]⟩)).setCell ⟨w.heap.size, 2, none⟩ (.string ⟨#[116, 101, 120, 116]⟩)).setCell ⟨w.heap.size, 3, none⟩ (.string ⟨#[91, 105, 110, 116, 93]⟩)).setCell ⟨w.heap.size, 4, none⟩ (.string ⟨#[123, 105, 110, 116, 58, 105, 110, 116, 125]⟩) = w4 ∧ Below w.heap.size w wz ∧ Below w.heap.size w w4 ∧ w4.heap[w.heap.size]? = some (.cells tyA 51 (0, 0)) ∧ wz.heap[w.heap.size]? = some (.cells #[.string ⟨#[]⟩, .string ⟨#[]⟩, .string ⟨#[]⟩, .string ⟨#[]⟩, .string ⟨#[]⟩] 51 (0, 0)) := by
  have hb : Below w.heap.size w (w.alloc (.cells #[.string ⟨#[]⟩, .string ⟨#[]⟩, .string ⟨#[]⟩, .string ⟨#[]⟩, .string ⟨#[]⟩] 51)) := (Below.refl _ _).alloc (Nat.le_refl _) _
  have hz : (w.alloc (.cells #[.string ⟨#[]⟩, .string ⟨#[]⟩, .string ⟨#[]⟩, .string ⟨#[]⟩, .string ⟨#[]⟩] 51)).heap[w.heap.size]? = some (.cells #[.string ⟨#[]⟩, .string ⟨#[]⟩, .string ⟨#[]⟩, .string ⟨#[]⟩, .string ⟨#[]⟩] 51 (0, 0)) := heap_new _ _
  refine ⟨_, _, rfl, rfl, hb, ((((hb.setCell (p := ⟨w.heap.size, 0, none⟩) (Nat.le_refl _) _).setCell (p := ⟨w.heap.size, 1, none⟩) (Nat.le_refl _) _).setCell (p := ⟨w.heap.size, 2, none⟩) (Nat.le_refl _) _).setCell (p := ⟨w.heap.size, 3, none⟩) (Nat.le_refl _) _).setCell (p := ⟨w.heap.size, 4, none⟩) (Nat.le_refl _) _, ?_, hz⟩
  generalize w.alloc (.cells #[.string ⟨#[]⟩, .string ⟨#[]⟩, .string ⟨#[]⟩, .string ⟨#[]⟩, .string ⟨#[]⟩] 51) = wz at *
  simp [World.setCell, Array.getElem?_modify, hz]
set_option maxRecDepth 100000 in
set_option maxHeartbeats 4000000 in
theorem type13_any {B : Nat → Prop} {v : V} {ao : Option Addr} {cap : Nat} {w : World} (hv : IsW B w v (.slice ao v.l.length cap)) (hw : wt v ≤ 4611686018427387904) :
    Calls Try.prog 10 #[.agg #[.int .i64 v.k, .int .i64 v.n, .string ⟨v.t.toArray⟩, .slice ao v.l.length cap]] w fun e w' => e = .returned (.string ⟨(ctype v).toArray⟩) ∧ Below w.heap.size w w' := by
  obtain ⟨w0, hW, hb0, hsz, d0, d1, d2, d3⟩ := boxed w v (.slice ao v.l.length cap)
  have hgb : w.heap.size < w0.heap.size := by omega
  clear hsz
  by_cases hl : v.l.length = 0
  rotate_left
  · have hlI : 0 < (v.l.length : Int) := by omega
    have hfin : ctype v = [] := by unfold ctype; rw [if_neg (by intro e; rw [e] at hl; exact hl rfl)]
    rw [hfin]
    clear hv hl hfin hw
    go_enter Try.func10, Try.ntmps10
    go_wp2
    go_ret
    exact ⟨rfl, hb0⟩
  have hlI : ¬ 0 < (v.l.length : Int) := by omega
  have hfin : Hid (ctype v = (tys.find? fun t => fitS t v).getD []) := by show _ = _; unfold ctype; rw [if_pos (List.length_eq_zero_iff.1 hl)]
  obtain ⟨wz, w1, hWz, hW1, hbz, hb1, hx1, hz⟩ := box5s w0
  obtain ⟨z0, z1, z2, z3, z4, y0, y1, y2, y3, y4, hlz⟩ := cells_k5 hz
  obtain ⟨c0, c1, c2, c3, c4, -, -, -, -, -, hlc⟩ := cells_k5 hx1
  have hB1 : Below w.heap.size w w1 := hb0.trans (hb1.mono (by omega))
  obtain ⟨f1, -⟩ := bcell hb1
  rw [← f1 w.heap.size _ hgb] at d0 d1 d2
  have d3' := d3
  rw [← f1 w.heap.size _ hgb] at d3'
  have hcall : ∀ (t : List UInt8) (wr : World), t.length ≤ 9 → Below w.heap.size w wr → Calls Try.prog 20 #[.agg #[.int .i64 v.k, .int .i64 v.n, .string ⟨v.t.toArray⟩, .slice ao v.l.length cap], .string ⟨t.toArray⟩] wr fun r w' => r = .returned (.bool (fitS t v)) ∧ Below wr.heap.size wr w' := fun t wr ht hb => rfits_any (by omega) (hv.below hb) hw
  have hcell : ∀ wr, Below w1.heap.size w1 wr → wr.cell? ⟨w.heap.size, 0, none⟩ = some (.int .i64 v.k) ∧ wr.cell? ⟨w.heap.size, 1, none⟩ = some (.int .i64 v.n) ∧ wr.cell? ⟨w.heap.size, 2, none⟩ = some (.string ⟨v.t.toArray⟩) ∧ wr.cell? ⟨w.heap.size, 3, none⟩ = some (.slice ao v.l.length cap) ∧ w.heap.size < wr.heap.size := fun wr hb => by
    obtain ⟨f2, -⟩ := bcell hb
    have hlt : w.heap.size < w1.heap.size := by omega
    exact ⟨(f2 _ _ hlt).trans d0, (f2 _ _ hlt).trans d1, (f2 _ _ hlt).trans d2, (f2 _ _ hlt).trans d3', by have := hb.size; omega⟩
  clear hv hl hx1 hz f1 d0 d1 d2 d3' hw
  go_enter Try.func10, Try.ntmps10
  go_wp2_with fail
  clear hW hWz hW1 z0 z1 z2 z3 z4 y0 y1 y2 y3 y4 c0 c1 c2 c3 c4 d3 hlI
  go_loopg [12] 5 (fun gk i wr => ∃ q : Nat, q ≤ 5 ∧ gk = 5 - q ∧ i = .int .i64 q ∧ Hid (Below w1.heap.size w1 wr ∧ ctype v = ((tys.drop q).find? fun t => fitS t v).getD []))
  case atStart => exact ⟨0, by omega, rfl, rfl, Below.refl _ _, hfin.out⟩
  case round =>
    obtain ⟨q, hq, rfl, rfl, HI⟩ := hrel
    obtain ⟨hBr, hct⟩ := HI.out
    clear HI hfin
    have hBw : Below w.heap.size w wr := hB1.trans (hBr.mono hB1.size)
    by_cases hlt : q < 5
    · have hltI : (q : Int) < 5 := by omega
      have hq0 : (0 : Int) ≤ (q : Int) := by omega
      obtain ⟨t, ht, htl, hix⟩ := tys_index q hlt
      obtain ⟨k0, k1, k2, k3, k4⟩ := hcell wr hBr
      have hC := hcall t wr htl hBw
      have hdr : tys.drop q = t :: tys.drop (q + 1) := by
        obtain ⟨h1, h2⟩ := List.getElem?_eq_some_iff.1 ht
        rw [← h2]; exact List.drop_eq_getElem_cons h1
      rw [hdr, List.find?_cons] at hct
      have Hct : Hid (ctype v = (match fitS t v with | true => some t | false => (tys.drop (q + 1)).find? fun t => fitS t v).getD []) := hct
      clear hct hdr ht
      go_wp2_with fail
      refine hC.mono ?_
      rintro e w2 ⟨rfl, hb2⟩
      have hB2 : Below w1.heap.size w1 w2 := hBr.trans (hb2.mono hBr.size)
      have hBw2 : Below w.heap.size w w2 := hBw.trans (hb2.mono hBw.size)
      clear hC hcell hcall k0 k1 k2 k3 hix
      cases hft : fitS t v with
      | true =>
        have hfin : Hid (ctype v = t) := by show _ = _; rw [Hct.out, hft]; rfl
        clear Hct
        go_wp2
        go_ret
        exact ⟨by rw [hfin.out]; rfl, hBw2⟩
      | false =>
        have hnew : Hid (Below w1.heap.size w1 w2 ∧ ctype v = ((tys.drop (q + 1)).find? fun t => fitS t v).getD []) := ⟨hB2, by rw [Hct.out, hft]⟩
        clear Hct
        go_wp2_with fail
        go_roundg (5 - (q + 1))
        case measure => omega
        case rel => exact ⟨q + 1, by omega, rfl, by go_num, hnew⟩
    · have hltI : ¬ (q : Int) < 5 := by omega
      have hfin : Hid (ctype v = []) := by
        show _ = _
        rw [hct, List.drop_of_length_le (by show tys.length ≤ q; have : tys.length = 5 := rfl; omega)]
        rfl
      clear hct hcell hcall
      go_wp2
      go_ret
      exact ⟨by rw [hfin.out]; rfl, hBw⟩
end Go.Proofs.Ytndahpcjkcihlaa
/- A constant's type: the program's. -/
namespace Go.Proofs.Ytndahpcjkcihlaa
open Go.RowKit
set_option linter.unusedVariables false
set_option linter.unusedSimpArgs false
attribute [local go_sem ↓] Go.wp_at_zero Go.wp_at_succ

def tyK (k : Int) : List UInt8 := if k == 1 then [105, 110, 116] else if k == 2 then [98, 111, 111, 108] else if k == 3 then [116, 101, 120, 116] else if k == 4 then [91, 105, 110, 116, 93] else if k == 5 then [123, 105, 110, 116, 58, 105, 110, 116, 125] else []
theorem tyK_len (k : Int) : (tyK k).length ≤ 9 := by unfold tyK; repeat' split
                                                     all_goals decide
theorem tys_ty {t : List UInt8} (h : t ∈ tys) : ∃ T : Ty, t = tyT T ∧ T.dp ≤ 4 ∧ tyK (kd T) = t := by
  simp only [tys, List.mem_cons, List.not_mem_nil, or_false] at h
  rcases h with rfl | rfl | rfl | rfl | rfl
  · exact ⟨.int, by decide, by decide, by decide⟩
  · exact ⟨.bool, by decide, by decide, by decide⟩
  · exact ⟨.text, by decide, by decide, by decide⟩
  · exact ⟨.list .int, by decide, by decide, by decide⟩
  · exact ⟨.map true .int, by decide, by decide, by decide⟩
theorem tys_kind {t : List UInt8} {v : V} (h : t ∈ tys) (hf : fitS t v = true) : tyK v.k = t := by
  obtain ⟨T, rfl, h2, h3⟩ := tys_ty h
  unfold fitS at hf
  rw [shpS_ty h2] at hf
  simp only [Bool.and_eq_true] at hf
  rw [(shpB_iff.1 hf.1).kind]
  exact h3
theorem tyK_mem {k : Int} (h : tyK k ≠ []) : tyK k ∈ tys := by
  unfold tyK at *
  repeat' split
  all_goals simp_all [tys]
theorem ctype_k (v : V) : ctype v = if tyK v.k ≠ [] ∧ v.l.length = 0 ∧ fitS (tyK v.k) v = true then tyK v.k else [] := by
  unfold ctype
  by_cases hl : v.l = []
  · rw [if_pos hl]
    rcases h : tys.find? (fun t => fitS t v) with _ | t
    · rw [if_neg]
      · rfl
      · rintro ⟨h1, -, h2⟩
        have := List.find?_eq_none.1 h _ (tyK_mem h1)
        exact absurd h2 this
    · have h1 := List.find?_some h
      have h1' : fitS t v = true := h1
      have h2 := List.mem_of_find?_eq_some h
      have h3 := tys_kind h2 h1'
      have h4 : t ≠ [] := by
        intro e; subst e; simp [tys] at h2
      rw [h3, if_pos ⟨h4, by rw [hl]; rfl, h1'⟩]
      rfl
  · rw [if_neg hl, if_neg]
    exact fun h => hl (List.length_eq_zero_iff.1 h.2.1)
set_option maxRecDepth 100000 in
set_option maxHeartbeats 4000000 in
theorem typeOfKind_any (k : Int) (w : World) : Calls Try.prog 18 #[.int .i64 k] w fun e w' => e = .returned (.string ⟨(tyK k).toArray⟩) ∧ Below w.heap.size w w' := by
  obtain ⟨r, hr⟩ : ∃ r, Hid (tyK k = r) := ⟨_, rfl⟩
  rw [hr.out]
  have hb : Below w.heap.size w w := Below.refl _ _
  go_enter Try.func18, Try.ntmps18
  go_wp2
  all_goals (try go_ret)
  all_goals (refine ⟨?_, hb⟩; rw [← hr.out]; unfold tyK; simp_all)
set_option maxRecDepth 100000 in
set_option maxHeartbeats 4000000 in
theorem ctype_any {B : Nat → Prop} {v : V} {ao : Option Addr} {cap : Nat} {w : World} (hv : IsW B w v (.slice ao v.l.length cap)) (hw : wt v ≤ 4611686018427387904) :
    Calls Try.prog 9 #[.agg #[.int .i64 v.k, .int .i64 v.n, .string ⟨v.t.toArray⟩, .slice ao v.l.length cap]] w fun e w' => e = .returned (.string ⟨(ctype v).toArray⟩) ∧ Below w.heap.size w w' := by
  obtain ⟨w0, hW, hb0, hsz, d0, d1, d2, d3⟩ := boxed w v (.slice ao v.l.length cap)
  have hgb : w.heap.size < w0.heap.size := by omega
  have hlen : v.l.length ≤ 9223372036854775807 := by obtain ⟨_, _, e, h1, h2⟩ := hv.vs.slice; cases e; omega
  have hK := typeOfKind_any v.k w0
  have htl := tyK_len v.k
  have hct := ctype_k v
  have hF : ∀ w1, Below w0.heap.size w0 w1 → Calls Try.prog 19 #[.agg #[.int .i64 v.k, .int .i64 v.n, .string ⟨v.t.toArray⟩, .slice ao v.l.length cap], .string ⟨(tyK v.k).toArray⟩] w1 fun r w' => r = .returned (.bool (fitS (tyK v.k) v)) ∧ Below w1.heap.size w1 w' := fun w1 hb => fits_any (by omega) ((hv.below hb0).below hb) hw
  generalize hT : tyK v.k = T at *
  generalize hct2 : ctype v = C at *
  clear hv hsz
  go_enter Try.func9, Try.ntmps9
  go_wp2_with fail
  refine hK.mono ?_
  rintro e w1 ⟨rfl, hb1⟩
  have hB1 : Below w.heap.size w w1 := hb0.trans (hb1.mono hb0.size)
  have e0 := ((bcell hb1).1 _ 0 hgb).trans d0
  have e1 := ((bcell hb1).1 _ 1 hgb).trans d1
  have e2 := ((bcell hb1).1 _ 2 hgb).trans d2
  have e3 := ((bcell hb1).1 _ 3 hgb).trans d3
  have hg1 : w.heap.size < w1.heap.size := by have := hb1.size; omega
  have hF1 := hF w1 hb1
  clear hK hF hW d0 d1 d2 d3 hT hct2
  rcases T with _ | ⟨c, r⟩
  · rw [if_neg (by simp)] at hct
    subst hct
    clear hF1
    go_wp2
    go_ret
    exact ⟨rfl, hB1⟩
  generalize v.l.length = L at *
  rcases L with _ | k
  rotate_left
  · rw [if_neg (by rintro ⟨-, h, -⟩; cases h)] at hct
    subst hct
    clear hF1
    go_wp2
    go_ret
    exact ⟨rfl, hB1⟩
  cases hf : fitS (c :: r) v with
  | false =>
    rw [if_neg (by rw [hf]; rintro ⟨-, -, h⟩; cases h)] at hct
    subst hct
    rw [hf] at hF1
    clear hf
    go_wp2_with fail
    refine hF1.mono ?_
    rintro e w2 ⟨rfl, hb2⟩
    clear hF1 e0 e1 e2 e3
    go_wp2
    go_ret
    exact ⟨rfl, hB1.trans (hb2.mono hB1.size)⟩
  | true =>
    rw [if_pos ⟨by simp, rfl, hf⟩] at hct
    subst hct
    rw [hf] at hF1
    clear hf
    go_wp2_with fail
    refine hF1.mono ?_
    rintro e w2 ⟨rfl, hb2⟩
    clear hF1 e0 e1 e2 e3
    go_wp2
    go_ret
    exact ⟨rfl, hB1.trans (hb2.mono hB1.size)⟩
end Go.Proofs.Ytndahpcjkcihlaa
/- Rows of numbers and truths in blocks of their own. -/
namespace Go.Proofs.Ytndahpcjkcihlaa
open Go.RowKit
set_option linter.unusedVariables false
set_option linter.unusedSimpArgs false

abbrev iV (x : Int) : Value := .int .i64 x
abbrev bV (x : Bool) : Value := .bool x
/-- A block of numbers; of truths. -/
def Ints (w : World) (g : Nat) (hs : List Int) : Prop := w.heap[g]? = some (.cells (hs.map iV).toArray 3 (0, 0))
def Bools (w : World) (g : Nat) (bs : List Bool) : Prop := w.heap[g]? = some (.cells (bs.map bV).toArray 4 (0, 0))
theorem Ints.get {w : World} {g : Nat} {hs : List Int} (h : Ints w g hs) {p : Nat} {x : Int} (hp : hs[p]? = some x) : w.cell? ⟨g, p, none⟩ = some (.int .i64 x) ∧ w.frozen? ⟨g, p, none⟩ = false ∧ g < w.heap.size := by
  unfold Ints at h
  refine ⟨?_, by simp [World.frozen?, h], (Array.getElem?_eq_some_iff.1 h).1⟩
  simp only [World.cell?, h]
  simp [hp]
theorem Bools.get {w : World} {g : Nat} {hs : List Bool} (h : Bools w g hs) {p : Nat} {x : Bool} (hp : hs[p]? = some x) : w.cell? ⟨g, p, none⟩ = some (.bool x) ∧ w.frozen? ⟨g, p, none⟩ = false ∧ g < w.heap.size := by
  unfold Bools at h
  refine ⟨?_, by simp [World.frozen?, h], (Array.getElem?_eq_some_iff.1 h).1⟩
  simp only [World.cell?, h]
  simp [hp]
theorem Ints.set {w : World} {g : Nat} {hs : List Int} (h : Ints w g hs) (p : Nat) (x : Int) : Ints (w.setCell ⟨g, p, none⟩ (.int .i64 x)) g (hs.set p x) := by
  unfold Ints at *
  simp [World.setCell, Array.getElem?_modify, h, List.map_set, Array.setIfInBounds]
  intro hle
  rw [List.set_eq_of_length_le (by simp; omega)]
theorem Bools.set {w : World} {g : Nat} {hs : List Bool} (h : Bools w g hs) (p : Nat) (x : Bool) : Bools (w.setCell ⟨g, p, none⟩ (.bool x)) g (hs.set p x) := by
  unfold Bools at *
  simp [World.setCell, Array.getElem?_modify, h, List.map_set, Array.setIfInBounds]
  intro hle
  rw [List.set_eq_of_length_le (by simp; omega)]
theorem Ints.keep {w w' : World} {g : Nat} {hs : List Int} (h : Ints w g hs) (e : w'.heap[g]? = w.heap[g]?) : Ints w' g hs := e.trans h
theorem Bools.keep {w w' : World} {g : Nat} {hs : List Bool} (h : Bools w g hs) (e : w'.heap[g]? = w.heap[g]?) : Bools w' g hs := e.trans h
theorem infoParts {T : TypeId} {z : Value} {size bytes : Nat} (h : (Try.prog.info? T).map (fun i => (i.zero, i.size, i.bytes)) = some (some z, size, bytes)) : ∃ i, Try.prog.info? T = some i ∧ i.zero = some z ∧ i.size = size ∧ i.bytes = bytes := by
  rcases hi : Try.prog.info? T with _ | i
  · rw [hi] at h; cases h
  · rw [hi] at h
    simp only [Option.map_some, Option.some.injEq, Prod.mk.injEq] at h
    exact ⟨i, rfl, h.1, h.2.1, h.2.2⟩
theorem intInfo : (Try.prog.info? 3).map (fun i => (i.zero, i.size, i.bytes)) = some (some (.int .i64 0), 1, 8) := by kernel_rfl
theorem boolInfo : (Try.prog.info? 4).map (fun i => (i.zero, i.size, i.bytes)) = some (some (.bool false), 1, 1) := by kernel_rfl
theorem made1 (z : Value) (n : Nat) : madeCells #[z] n = (List.replicate n z).toArray := by
  apply Array.ext
  · simp [madeCells]
  · intro i h1 h2
    simp [madeCells, Nat.mod_one]
theorem make_ints (n : Nat) (hn : n ≤ 1000000) (w : World) : ∃ w', (Instr.makeSlice 55 (.int .i64 n) (.int .i64 n)).run Try.prog w = .ok (.slice (some ⟨w.heap.size, 0, none⟩) n n) w' ∧ Ints w' w.heap.size (List.replicate n 0) ∧ Below w.heap.size w w' ∧ w.heap.size < w'.heap.size := by
  obtain ⟨i, hi, hz, hs, hb⟩ := infoParts intInfo
  have h := run_make (P := Try.prog) w 55 3 i _ Try.underlying55 hi hz .i64 .i64 n n (by omega) (by omega) (by rw [hb]; omega) (by omega)
  have e : (Value.int .i64 0).cells = #[.int .i64 0] := rfl
  rw [hs, e, made1] at h
  simp only [Int.toNat_natCast, Nat.mul_one] at h
  refine ⟨_, h, ?_, (Below.refl _ _).alloc (Nat.le_refl _) _, by simp⟩
  unfold Ints
  rw [List.map_replicate]
  exact heap_new _ _
theorem make_bools (n : Nat) (hn : n ≤ 1000000) (w : World) : ∃ w', (Instr.makeSlice 69 (.int .i64 n) (.int .i64 n)).run Try.prog w = .ok (.slice (some ⟨w.heap.size, 0, none⟩) n n) w' ∧ Bools w' w.heap.size (List.replicate n false) ∧ Below w.heap.size w w' ∧ w.heap.size < w'.heap.size := by
  obtain ⟨i, hi, hz, hs, hb⟩ := infoParts boolInfo
  have h := run_make (P := Try.prog) w 69 4 i _ Try.underlying69 hi hz .i64 .i64 n n (by omega) (by omega) (by rw [hb]; omega) (by omega)
  have e : (Value.bool false).cells = #[.bool false] := rfl
  rw [hs, e, made1] at h
  simp only [Int.toNat_natCast, Nat.mul_one] at h
  refine ⟨_, h, ?_, (Below.refl _ _).alloc (Nat.le_refl _) _, by simp⟩
  unfold Bools
  rw [List.map_replicate]
  exact heap_new _ _
/-- A row of numbers of one's own. -/
def IRow (n0 : Nat) (w : World) (v : Value) (l : List Int) : Prop := w.ownsRow n0 3 1 v l.length (l.map iV)
theorem IRow.nil (n0 : Nat) (w : World) : IRow n0 w (.slice none 0 0) [] := ⟨rfl, Or.inl ⟨rfl, rfl⟩⟩
theorem IRow.slice {n0 : Nat} {w : World} {v : Value} {l : List Int} (h : IRow n0 w v l) : ∃ ao cap, v = .slice ao l.length cap ∧ l.length ≤ cap ∧ cap ≤ 9223372036854775807 := by
  rcases h.2 with ⟨e, h0⟩ | ⟨g, cap, cur, e, h4, h5, h6, h7, _⟩
  · exact ⟨none, 0, by rw [e, h0], by omega, by omega⟩
  · exact ⟨_, cap, e, h6, by unfold maxLen at h7; omega⟩
theorem IRow.since {n0 : Nat} {w w' : World} {v : Value} {l : List Int} (h : IRow n0 w v l) (e : ∀ j, v.ownBlock = some j → w'.heap[j]? = w.heap[j]?) : IRow n0 w' v l := by
  refine ⟨h.1, ?_⟩
  rcases h.2 with h3 | ⟨g, cap, cur, h3, h4, h5, h6⟩
  · exact Or.inl h3
  · exact Or.inr ⟨g, cap, cur, h3, h4, by rw [e g (by rw [h3]; rfl)]; exact h5, h6⟩
theorem IRow.lt {n0 : Nat} {w : World} {v : Value} {l : List Int} (h : IRow n0 w v l) {j : Nat} (e : v.ownBlock = some j) : n0 ≤ j ∧ j < w.heap.size := World.ownsRow.lt h j e
theorem IRow.get {n0 : Nat} {w : World} {v : Value} {l : List Int} (h : IRow n0 w v l) {i : Nat} {x : Int} (hi : l[i]? = some x) : ∃ g cap, v = .slice (some ⟨g, 0, none⟩) l.length cap ∧ g < w.heap.size ∧ w.cell? ⟨g, i, none⟩ = some (.int .i64 x) := by
  have hlt := (List.getElem?_eq_some_iff.1 hi).1
  rcases h.2 with ⟨e, h0⟩ | ⟨g, cap, cur, h3, h4, h5, h6, h7, h8, h9⟩
  · omega
  · refine ⟨g, cap, h3, (Array.getElem?_eq_some_iff.1 h5).1, ?_⟩
    have hc : w.cell? ⟨g, i, none⟩ = cur[i]? := by simp [World.cell?, h5]
    rw [hc]
    have h10 : (l.map iV)[i]? = some (iV x) := by rw [List.getElem?_map, hi]; rfl
    rw [← h9, List.getElem?_take] at h10
    split at h10
    · simpa using h10
    · cases h10
theorem IRow.push {n0 : Nat} {w : World} {v : Value} {l : List Int} (h : IRow n0 w v l) {x : Int} {g0 : Nat} (hb : w.heap[g0]? = some (.cells #[iV x] 3 (0, 0))) (hn : n0 ≤ w.heap.size) (hl : l.length ≤ 100000) (c : Nat) (ty : TypeId) :
    ∃ g cap w', (Builtin.append_ #[55, 55] ty #[v, .slice (some ⟨g0, 0, none⟩) 1 c]).run Try.prog w = .ok (.slice (some ⟨g, 0, none⟩) (l.length + 1) cap) w' ∧ IRow n0 w' (.slice (some ⟨g, 0, none⟩) (l.length + 1) cap) (l ++ [x]) ∧ w.grownBy w' v.ownBlock ∧ (v.ownBlock = some g ∨ w.heap.size ≤ g) := by
  obtain ⟨i, hi, hz, hs, hby⟩ := infoParts intInfo
  obtain ⟨g, cap, w', hr, ho, hg, hat, hlt⟩ := run_append_lies (P := Try.prog) w 55 ty n0 3 i _ 1 8 Try.underlying55 hi hz hs hby rfl (by decide) v l.length (l.map iV) h ⟨g0, 0, none⟩ 1 c [iV x] rfl (fun j u hj => by
    have hj0 : j = 0 := by have := (List.getElem?_eq_some_iff.1 hj).1; simp at this; omega
    subst hj0
    simp only [List.getElem?_cons_zero, Option.some.injEq] at hj
    subst hj
    have : w.cell? ⟨g0, 0, none⟩ = some (iV x) := by simp [World.cell?, hb]
    simpa [Addr.add] using this) (fun u hu => by simp at hu; subst hu; rfl) (by omega) (by unfold maxLen; omega) (by omega) hn _ rfl
  refine ⟨g, cap, w', hr, ?_, hg, ?_⟩
  · have : (l ++ [x]).length = l.length + 1 := by simp
    unfold IRow
    rw [this, List.map_append]
    exact ho
  · rcases hat with h | h
    · exact Or.inl h
    · exact Or.inr (by omega)
theorem IRow.below {n0 : Nat} {w w' : World} {v : Value} {l : List Int} (h : IRow n0 w v l) (hg : w.grownBy w' v.ownBlock) {n : Nat} (hn : n ≤ n0) (hn2 : n ≤ w.heap.size) : Below n w w' :=
  (Below.refl _ _).grown hg hn2 (fun k hk => by have := (h.lt hk).1; omega)
end Go.Proofs.Ytndahpcjkcihlaa
