/- Texts of ours, joined: Jk, Kc. -/
import Derived.Test.YtndahpcjkcihlaaG30
import Derived.Test.YtndahpcjkcihlaaG23
import Derived.Test.YtndahpcjkcihlaaG17
/- Verify: the program's. -/
namespace Go.Proofs.Ytndahpcjkcihlaa
open Go.RowKit
set_option linter.unusedVariables false
set_option linter.unusedSimpArgs false
attribute [local go_sem ↓] Go.wp_at_zero Go.wp_at_succ

theorem walkOk_take {fs : List Fu} {f : Fu} {n : Nat} (hn : n ≤ fs.length) (hi : ∀ i ∈ f.code, i.op = 9 → 0 ≤ i.a ∧ i.a < n) : WalkOk (fs.take n) f ↔ WalkOk fs f := by
  constructor
  · exact fun h => h.funs (n := n) (by simp; omega) hi (fun k hk => (List.getElem?_take_of_lt hk).symm)
  · exact fun h => h.funs (n := n) hn hi (fun k hk => List.getElem?_take_of_lt hk)
/-- A scope's box, laid empty and then filled. -/
theorem zsbox (w : World) (x0 x1 x2 x3 x4 x5 x6 x7 : Value) : ∃ wz w4, w.alloc (.cells #[.int .i64 0, .int .i64 0, .int .i64 0, .int .i64 0, .slice none 0 0, .int .i64 0, .int .i64 0, .slice none 0 0] 68) = wz ∧ (((((((wz.setCell ⟨w.heap.size, 0, none⟩ x0).setCell ⟨w.heap.size, 1, none⟩ x1).setCell ⟨w.heap.size, 2, none⟩ x2).setCell ⟨w.heap.size, 3, none⟩ x3).setCell ⟨w.heap.size, 4, none⟩ x4).setCell ⟨w.heap.size, 5, none⟩ x5).setCell ⟨w.heap.size, 6, none⟩ x6).setCell ⟨w.heap.size, 7, none⟩ x7 = w4 ∧ Below w.heap.size w wz ∧ Below w.heap.size w w4 ∧ w4.heap[w.heap.size]? = some (.cells #[x0, x1, x2, x3, x4, x5, x6, x7] 68 (0, 0)) ∧ wz.heap[w.heap.size]? = some (.cells #[.int .i64 0, .int .i64 0, .int .i64 0, .int .i64 0, .slice none 0 0, .int .i64 0, .int .i64 0, .slice none 0 0] 68 (0, 0)) := by
  have hb : Below w.heap.size w (w.alloc (.cells #[.int .i64 0, .int .i64 0, .int .i64 0, .int .i64 0, .slice none 0 0, .int .i64 0, .int .i64 0, .slice none 0 0] 68)) := (Below.refl _ _).alloc (Nat.le_refl _) _
  have hz : (w.alloc (.cells #[.int .i64 0, .int .i64 0, .int .i64 0, .int .i64 0, .slice none 0 0, .int .i64 0, .int .i64 0, .slice none 0 0] 68)).heap[w.heap.size]? = some (.cells #[.int .i64 0, .int .i64 0, .int .i64 0, .int .i64 0, .slice none 0 0, .int .i64 0, .int .i64 0, .slice none 0 0] 68 (0, 0)) := heap_new _ _
  refine ⟨_, _, rfl, rfl, hb, (((((((hb.setCell (p := ⟨w.heap.size, 0, none⟩) (Nat.le_refl _) x0).setCell (p := ⟨w.heap.size, 1, none⟩) (Nat.le_refl _) x1).setCell (p := ⟨w.heap.size, 2, none⟩) (Nat.le_refl _) x2).setCell (p := ⟨w.heap.size, 3, none⟩) (Nat.le_refl _) x3).setCell (p := ⟨w.heap.size, 4, none⟩) (Nat.le_refl _) x4).setCell (p := ⟨w.heap.size, 5, none⟩) (Nat.le_refl _) x5).setCell (p := ⟨w.heap.size, 6, none⟩) (Nat.le_refl _) x6).setCell (p := ⟨w.heap.size, 7, none⟩) (Nat.le_refl _) x7, ?_, hz⟩
  generalize w.alloc (.cells #[.int .i64 0, .int .i64 0, .int .i64 0, .int .i64 0, .slice none 0 0, .int .i64 0, .int .i64 0, .slice none 0 0] 68) = wz at *
  simp [World.setCell, Array.getElem?_modify, hz]
theorem cells_f8 {w : World} {g : Nat} {y0 y1 y2 y3 y4 y5 y6 y7 : Value} {T : TypeId} (h : w.heap[g]? = some (.cells #[y0, y1, y2, y3, y4, y5, y6, y7] T (0, 0))) : w.frozen? ⟨g, 0, none⟩ = false ∧ w.frozen? ⟨g, 1, none⟩ = false ∧ w.frozen? ⟨g, 2, none⟩ = false ∧ w.frozen? ⟨g, 3, none⟩ = false ∧ w.frozen? ⟨g, 4, none⟩ = false ∧ w.frozen? ⟨g, 5, none⟩ = false ∧ w.frozen? ⟨g, 6, none⟩ = false ∧ w.frozen? ⟨g, 7, none⟩ = false := by
  refine ⟨?_, ?_, ?_, ?_, ?_, ?_, ?_, ?_⟩
  all_goals simp [World.frozen?, h]
/-- What is answered. -/
def RnPost (m : Md) (states : Int) (w : World) (e : Ending) (w' : World) : Prop := (∃ b, e = .returned (.bool b) ∧ (b = true ↔ Run m states)) ∧ Below w.heap.size w w'
set_option maxRecDepth 100000 in
set_option maxHeartbeats 8000000 in
theorem canRun_any {B : Nat → Prop} {m : Md} {ac af : Option Addr} {cc cf : Nat} {w : World} (hm : IsMd B w m (.slice ac m.consts.length cc) (.slice af m.funcs.length cf)) (hfit : Fit m) (states : Int) :
    Calls Try.prog 21 #[.agg #[.slice ac m.consts.length cc, .slice af m.funcs.length cf], .int .i64 states] w fun e w' => RnPost m states w e w' := by
  obtain ⟨w0, hW0, hb0, hl0, hx0⟩ := box2 w (.slice ac m.consts.length cc) (.slice af m.funcs.length cf) 25
  obtain ⟨d0, d1, -, -, hld⟩ := cells_k2 hx0
  have hcell : ∀ wr, Below w0.heap.size w0 wr → wr.cell? ⟨w.heap.size, 0, none⟩ = some (.slice ac m.consts.length cc) ∧ wr.cell? ⟨w.heap.size, 1, none⟩ = some (.slice af m.funcs.length cf) ∧ w.heap.size < wr.heap.size := fun wr hb => by
    obtain ⟨q0, q1, -, -, q2⟩ := cells_k2 ((hb.block _ hld).trans hx0)
    exact ⟨q0, q1, q2⟩
  have hBf : ∀ wr, Below w0.heap.size w0 wr → Below w.heap.size w wr := fun wr hb => hb0.trans (hb.mono hb0.size)
  have hno : ∀ wr, Below w0.heap.size w0 wr → ¬ Run m states → RnPost m states w (.returned (.bool false)) wr := fun wr hb hr => ⟨⟨false, rfl, by simp; exact hr⟩, hBf wr hb⟩
  have hfl := hfit.fl
  have hcl := hfit.cl
  have hWn := within_any states 0 32 w0
  clear hl0 hx0
  cases hs : wn states 0 32 with
  | false =>
    have hpost := hno w0 (Below.refl _ _) (fun h => by have := Bool.eq_false_iff.1 hs; rw [Ne, wn_iff] at this; exact this h.st)
    rw [hs] at hWn
    clear hm hfit hno hcell hBf hs
    go_enter Try.func21, Try.ntmps21
    go_wp2_with fail
    refine hWn.mono ?_
    rintro e w1 ⟨rfl, rfl⟩
    clear hWn
    go_wp2
    go_ret
    exact hpost
  | true =>
  rw [hs] at hWn
  have hst := wn_iff.1 hs
  by_cases h3 : 32 < m.funcs.length
  · have hpost := hno w0 (Below.refl _ _) (fun h => by have := h.few.1; omega)
    have i3 : 32 < (m.funcs.length : Int) := by omega
    clear hm hfit hno hcell hBf hs hst
    go_enter Try.func21, Try.ntmps21
    go_wp2_with fail
    refine hWn.mono ?_
    rintro e w1 ⟨rfl, rfl⟩
    clear hWn
    go_wp2
    go_ret
    exact hpost
  by_cases h4 : 16384 < m.consts.length
  · have hpost := hno w0 (Below.refl _ _) (fun h => by have := h.few.2; omega)
    have i4 : 16384 < (m.consts.length : Int) := by omega
    have j3 : ¬ 32 < (m.funcs.length : Int) := by omega
    clear hm hfit hno hcell hBf hs hst
    go_enter Try.func21, Try.ntmps21
    go_wp2_with fail
    refine hWn.mono ?_
    rintro e w1 ⟨rfl, rfl⟩
    clear hWn
    go_wp2
    go_ret
    exact hpost
  have s3 : ¬ 32 < (m.funcs.length : Int) := by omega
  have s4 : ¬ 16384 < (m.consts.length : Int) := by omega
  have hCt := hasno_any (hm.con.below hb0) hfit.wt
  go_enter Try.func21, Try.ntmps21
  go_wp2_with fail
  refine hWn.mono ?_
  rintro e w1 ⟨rfl, hw1⟩
  obtain rfl := hw1.symm
  clear hWn
  go_wp2_with fail
  refine hCt.mono ?_
  rintro e w1 ⟨rfl, hb1⟩
  clear hCt hW0 d0 d1
  cases hany : m.consts.any nocB with
  | true =>
    have hpost := hno w1 hb1 (fun h => by
      obtain ⟨v, hv, hn⟩ := List.any_eq_true.1 hany
      unfold nocB at hn
      exact h.con v hv (List.isEmpty_iff.1 hn))
    clear hm hfit hno hcell hBf hs hst hany
    go_wp2
    go_ret
    exact hpost
  | false =>
  have hcon : Hid (∀ v ∈ m.consts, ctype v ≠ []) := fun v hv he => by
    have := List.any_eq_false.1 hany v hv
    unfold nocB at this
    rw [he] at this
    exact this rfl
  clear hany
  obtain ⟨k0, k1, k2⟩ := hcell _ hb1
  have hBr0 : Hid (Below w0.heap.size w0 w1) := hb1
  clear hb1
  go_wp2_with fail
  clear k0 k1
  go_loopg [29] m.funcs.length (fun gk i wr' => ∃ n : Nat, n ≤ m.funcs.length ∧ gk = m.funcs.length - n ∧ i = .int .i64 n ∧ Hid (Below w0.heap.size w0 wr' ∧ ∀ (k : Nat) g, k < n → m.funcs[k]? = some g → FuOk m.consts.length states m.funcs k g))
  case atStart => exact ⟨0, Nat.zero_le _, rfl, rfl, hBr0.out, fun k g hk => by omega⟩
  case round =>
    obtain ⟨n, hn, rfl, rfl, HI⟩ := hrel
    have hBr := HI.out.1
    have Hok : Hid (∀ (k : Nat) g, k < n → m.funcs[k]? = some g → FuOk m.consts.length states m.funcs k g) := HI.out.2
    clear HI hBr0
    by_cases hnlt : n < m.funcs.length
    rotate_left
    · have hnI : ¬ (n : Int) < (m.funcs.length : Int) := by omega
      have hrun : Run m states := ⟨hst, ⟨by omega, by omega⟩, hcon.out, fun k g hk => Hok.out k g (by have := (List.getElem?_eq_some_iff.1 hk).1; omega) hk⟩
      have hpost : RnPost m states w (.returned (.bool true)) wr := ⟨⟨true, rfl, by simp; exact hrun⟩, hBf wr hBr⟩
      clear hm hfit hno hcell hBf hrun Hok hcon hBr hs hst
      go_wp2
      go_ret
      exact hpost
    have hnI : (n : Int) < (m.funcs.length : Int) := by omega
    have hn0 : (0 : Int) ≤ (n : Int) := by omega
    obtain ⟨f, hf⟩ : ∃ f, m.funcs[n]? = some f := ⟨_, List.getElem?_eq_getElem hnlt⟩
    obtain ⟨gf, of, ak, ck, haf, -, hgf, p0, p1, p2, p3, p4, hfn⟩ := (hm.fun_.since (Since.of_below (hBf wr hBr))).get hf
    subst haf
    obtain ⟨wz, wb, hWz, hWb, hbz, hbb, -, hxb, hz⟩ := fbox wr (.int .i64 f.params) (.int .i64 f.locals) (.int .i64 f.zero) (.int .i64 f.stack) (.slice ak f.code.length ck)
    obtain ⟨z0, z1, z2, z3, z4, y0, y1, y2, y3, y4, hlz⟩ := cells_k5 hz
    obtain ⟨c0, c1, c2, c3, c4, -, -, -, -, -, hlc⟩ := cells_k5 hxb
    have hBb : Below w0.heap.size w0 wb := hBr.trans (hbb.mono hBr.size)
    obtain ⟨k0, k1, k3⟩ := hcell wb hBb
    have hff : Hid (m.funcs[n]? = some f) := hf
    have hfnb := hfn.below hbb
    have hkl := hfit.kl f (List.mem_of_getElem? hf)
    obtain ⟨_, _, ec, hcf1, hcf2⟩ := hm.fun_.slice
    simp only [Value.slice.injEq] at ec
    obtain ⟨-, -, rfl⟩ := ec
    have hnc : (n : Int) ≤ (cf : Int) := by omega
    clear hf hxb hz hfn
    go_wp2_with fail
    clear hWz hWb z0 z1 z2 z3 z4 y0 y1 y2 y3 y4 p0 p1 p2 p3 p4
    have e0 := World.new_ne wb ⟨wr.heap.size, 0, none⟩ c0
    have e1 := World.new_ne wb ⟨w.heap.size, 0, none⟩ k0
    go_region_held3 (fun w' => w'.cell? ⟨wr.heap.size, 0, none⟩ = some (.int .i64 f.params) ∧ w'.cell? ⟨wr.heap.size, 1, none⟩ = some (.int .i64 f.locals) ∧ w'.cell? ⟨wr.heap.size, 2, none⟩ = some (.int .i64 f.zero) ∧ w'.cell? ⟨wr.heap.size, 3, none⟩ = some (.int .i64 f.stack) ∧ w'.cell? ⟨wr.heap.size, 4, none⟩ = some (.slice ak f.code.length ck) ∧ w'.cell? ⟨w.heap.size, 0, none⟩ = some (.slice ac m.consts.length cc) ∧ w'.cell? ⟨w.heap.size, 1, none⟩ = some (.slice (some ⟨gf, of, none⟩) m.funcs.length cf)) (go_keep) (fail)
    rename_i hHeld
    clear hHeld e0 e1 c0 c1 c2 c3 c4 k0 k1
    obtain ⟨ws, hWs, hbs, -, hxs⟩ := box8 wb (.int .i64 f.params) (.int .i64 f.locals) (.int .i64 f.zero) (.int .i64 f.stack) (.slice ak f.code.length ck) (.int .i64 m.consts.length) (.int .i64 states) (.slice (some ⟨gf, of, none⟩) n cf) 68
    rw [hWs]
    have hbt : Below wb.heap.size wb ws.drew := hbs.drew
    have hxt : ws.drew.heap[wb.heap.size]? = some (.cells #[.int .i64 f.params, .int .i64 f.locals, .int .i64 f.zero, .int .i64 f.stack, .slice ak f.code.length ck, .int .i64 m.consts.length, .int .i64 states, .slice (some ⟨gf, of, none⟩) n cf] 68 (0, 0)) := hxs
    clear hxs hbs hWs
    generalize ws.drew = wt at *
    have hBt : Below w0.heap.size w0 wt := hBb.trans (hbt.mono hBb.size)
    have hFr := framed_any (f := f) (ak := ak) (ck := ck) (af := some ⟨gf, of, none⟩) (cf := cf) (nc := m.consts.length) (n := n) (states := states) hkl hcl wt
    obtain ⟨t0, t1, t2, t3, t4, t5, t6, t7, hlt⟩ := cells_k8 hxt
    cases hnum : numB m.consts.length f with
    | false =>
      rw [hnum] at hFr
      have hnr : ¬ Run m states := fun h => by have := numB_iff.2 (h.fun_ n f hff.out).num; rw [hnum] at this; cases this
      clear hm hfit hcell Hok hcon hBr hBb hbb hbt hfnb hff hnum hxt hst hs
      go_wp2_with fail
      refine hFr.mono ?_
      rintro e w5 ⟨rfl, hb5⟩
      have hpost := hno w5 (hBt.trans (hb5.mono hBt.size)) hnr
      clear hFr t0 t1 t2 t3 t4 t5 t6 t7 hno hBf hnr hBt hb5
      go_wp2
      go_ret
      exact hpost
    | true =>
    rw [hnum] at hFr
    have hnm := numB_iff.1 hnum
    have hnmH : Hid (NumOk m.consts.length f) := hnm
    have hloc : 0 ≤ f.locals ∧ f.locals ≤ 256 := by unfold NumOk at hnm; omega
    have hclen : f.code.length ≤ 16384 := by unfold NumOk at hnm; omega
    clear hnm hnum
    have hfnt := hfnb.below hbt
    have hFi : ∀ w', Below wt.heap.size wt w' → Calls Try.prog 40 #[.agg #[.int .i64 f.params, .int .i64 f.locals, .int .i64 f.zero, .int .i64 f.stack, .slice ak f.code.length ck, .int .i64 m.consts.length, .int .i64 states, .slice (some ⟨gf, of, none⟩) n cf]] w' fun e w'' => e = .returned (.bool (insB m.consts.length states n f)) ∧ Below w'.heap.size w' w'' := fun w' hb => fine_any (hfnt.below hb) hkl hloc hcl (by omega) hst
    have hcs : ∀ w', Below wt.heap.size wt w' → w'.heap[wb.heap.size]? = some (.cells #[.int .i64 f.params, .int .i64 f.locals, .int .i64 f.zero, .int .i64 f.stack, .slice ak f.code.length ck, .int .i64 m.consts.length, .int .i64 states, .slice (some ⟨gf, of, none⟩) n cf] 68 (0, 0)) := fun w' hb => (hb.block _ hlt).trans hxt
    clear hxt
    cases hins : insB m.consts.length states n f with
    | false =>
      have hnr : ¬ Run m states := fun h => by have := insB_iff.2 (h.fun_ n f hff.out).ins; rw [hins] at this; cases this
      rw [hins] at hFi
      clear hm hfit hcell Hok hcon hBr hBb hbb hbt hfnb hff hins hst hs hfnt hnmH
      go_wp2_with fail
      refine hFr.mono ?_
      rintro e w5 ⟨rfl, hb5⟩
      obtain ⟨t0, t1, t2, t3, t4, t5, t6, t7, hlt5⟩ := cells_k8 (hcs w5 hb5)
      have hF5 := hFi w5 hb5
      clear hFr hFi hcs
      go_wp2_with fail
      refine hF5.mono ?_
      rintro e w6 ⟨rfl, hb6⟩
      have hb56 := hb5.trans (hb6.mono hb5.size)
      have hpost := hno w6 (hBt.trans (hb56.mono hBt.size)) hnr
      clear hF5 t0 t1 t2 t3 t4 t5 t6 t7 hno hBf hnr hBt hb5 hb6 hb56
      go_wp2
      go_ret
      exact hpost
    | true =>
    rw [hins] at hFi
    have hall := insB_iff.1 hins
    have hio : InsOk (m.funcs.take n) f := insOk_of (nc := m.consts.length) (states := states) (n := n) (by simp; omega) hnmH.out hall (fun k g hk hg => by
      rw [List.getElem?_take_of_lt hk] at hg
      have := (Hok.out k g hk hg).num
      unfold NumOk at this; omega)
    have hlenT : (m.funcs.take n).length = n := by simp; omega
    have hLv : ∀ w', Below wt.heap.size wt w' → Calls Try.prog 41 #[.agg #[.int .i64 f.params, .int .i64 f.locals, .int .i64 f.zero, .int .i64 f.stack, .slice ak f.code.length ck, .int .i64 m.consts.length, .int .i64 states, .slice (some ⟨gf, of, none⟩) n cf]] w' fun e w'' => WkPost (m.funcs.take n) f w' e w'' := fun w' hb => by
      have hBw' := hBf w' (hBt.trans (hb.mono hBt.size))
      have h1 := (hm.fun_.since (Since.of_below hBw')).take (n := n) (by omega)
      have h2 := level_any (nc := m.consts.length) (states := states) (hfnt.below hb) h1 hio (fun i hi => by have := inOk_iff.1 (hall i hi); omega) (fun i hi h => by
        obtain ⟨-, -, a3, a4⟩ := inOk_iff.1 (hall i hi)
        unfold inLow at a3
        unfold inTop at a4
        rcases h with h | h <;> rw [h] at a3 a4 <;> simp at a3 a4 <;> omega)
      rw [hlenT] at h2
      exact h2
    have hwkH : Hid (WalkOk (m.funcs.take n) f ↔ WalkOk m.funcs f) := walkOk_take (by omega) (fun i hi h9 => (hall i hi).call h9)
    have hallH : Hid (∀ i ∈ f.code, InOk m.consts.length states n f i) := hall
    clear hall hio hlenT hfnt hBr hBb hbb hbt hfnb hm hfit hcell hins
    go_wp2_with fail
    refine hFr.mono ?_
    rintro e w5 ⟨rfl, hb5⟩
    clear t0 t1 t2 t3 t4 t5 t6 t7
    obtain ⟨t0, t1, t2, t3, t4, t5, t6, t7, hlt5⟩ := cells_k8 (hcs w5 hb5)
    have hF5 := hFi w5 hb5
    clear hFr hFi
    go_wp2_with fail
    refine hF5.mono ?_
    rintro e w6 ⟨rfl, hb6⟩
    have hb56 : Below wt.heap.size wt w6 := hb5.trans (hb6.mono hb5.size)
    clear hF5 t0 t1 t2 t3 t4 t5 t6 t7
    obtain ⟨t0, t1, t2, t3, t4, t5, t6, t7, hlt6⟩ := cells_k8 (hcs w6 hb56)
    have hL6 := hLv w6 hb56
    clear hLv hcs hb5 hb6
    go_wp2_with fail
    refine hL6.mono ?_
    rintro e w7 ⟨⟨b, rfl, hb⟩, hb7⟩
    have hBe := hBt.trans (hb56.mono hBt.size)
    have hBe7 := hBe.trans (hb7.mono hBe.size)
    have hbH : Hid (b = true ↔ WalkOk m.funcs f) := hb.trans hwkH.out
    clear hL6 t0 t1 t2 t3 t4 t5 t6 t7 hb hwkH hb7 hb56 hBe hBt
    cases b with
    | false =>
      have hpost := hno w7 hBe7 (fun h => by have := hbH.out.2 (h.fun_ n f hff.out).walk; cases this)
      clear hno hBf Hok hcon hbH hff hallH hnmH hst hs hBe7
      go_wp2
      go_ret
      exact hpost
    | true =>
      have hnew : Hid (Below w0.heap.size w0 w7 ∧ ∀ (k : Nat) g, k < n + 1 → m.funcs[k]? = some g → FuOk m.consts.length states m.funcs k g) := ⟨hBe7, fun k g hk hg => by
        by_cases e : k = n
        · subst e
          rw [hff.out] at hg
          cases hg
          exact ⟨hnmH.out, hallH.out, hbH.out.1 rfl⟩
        · exact Hok.out k g (by omega) hg⟩
      clear hno hBf Hok hcon hbH hff hallH hnmH hst hs hBe7
      go_wp2_with fail
      go_roundg (m.funcs.length - (n + 1))
      case measure => omega
      case rel => exact ⟨n + 1, by omega, rfl, by go_num, hnew⟩
set_option maxRecDepth 100000 in
set_option maxHeartbeats 1000000 in
theorem verify_any {B : Nat → Prop} {m : Md} {ac af : Option Addr} {cc cf : Nat} {w : World} (hm : IsMd B w m (.slice ac m.consts.length cc) (.slice af m.funcs.length cf)) (hfit : Fit m) (states : Int) :
    Calls Try.prog 11 #[.agg #[.slice ac m.consts.length cc, .slice af m.funcs.length cf], .int .i64 states] w fun e w' => e = .returned (.int .i64 (vfy m states)) ∧ Below w.heap.size w w' := by
  obtain ⟨w0, hW0, hb0, hl0, hx0⟩ := box2 w (.slice ac m.consts.length cc) (.slice af m.funcs.length cf) 25
  obtain ⟨d0, d1, -, -, hld⟩ := cells_k2 hx0
  have hC := canRun_any (hm.below hb0) hfit states
  obtain ⟨vr, hvr⟩ : ∃ vr, Hid (vfy m states = vr) := ⟨_, rfl⟩
  rw [hvr.out]
  clear hm hfit hl0 hx0
  go_enter Try.func11, Try.ntmps11
  go_wp2_with fail
  refine hC.mono ?_
  rintro e w1 ⟨⟨b, rfl, hb⟩, hb1⟩
  have hbH : Hid (b = true ↔ Run m states) := hb
  have hB : Below w.heap.size w w1 := hb0.trans (hb1.mono hb0.size)
  clear hC hb d0 d1
  cases b with
  | false =>
    have hv : Hid (vr = 40) := by show _ = _; rw [← hvr.out]; exact vfy_no (fun h => by have := hbH.out.2 h; cases this)
    clear hbH hvr
    go_wp2
    go_ret
    exact ⟨by rw [hv.out]; rfl, hB⟩
  | true =>
    have hv : Hid (vr = 0) := by show _ = _; rw [← hvr.out]; exact vfy_ok (hbH.out.1 rfl)
    clear hbH hvr
    go_wp2
    go_ret
    exact ⟨by rw [hv.out]; rfl, hB⟩
theorem typ_ok : TypOk := fun B v ao cap w hv hw => ctype_any hv hw
theorem ver_ok : VerOk := fun B m ac af cc cf w states hm hf _ => verify_any hm hf states
end Go.Proofs.Ytndahpcjkcihlaa
/- A module in new memory: the document's. -/
namespace Go.Proofs.Ytndahpcjkcihlaa
open Go.RowKit
set_option linter.unusedVariables false
set_option linter.unusedSimpArgs false
attribute [local go_sem ↓] Go.wp_at_zero Go.wp_at_succ

/-- A list of values in new memory, in a row of its own. -/
def NewVs (w : World) (l : List V) (e : Ending) (w' : World) : Prop := (∃ ao cap, e = .returned (.slice ao l.length cap) ∧ Gv (From w.heap.size) w' (.slice ao l.length cap) l) ∧ Below w.heap.size w w'
set_option maxRecDepth 100000 in
set_option maxHeartbeats 4000000 in
theorem copyAll_any {B : Nat → Prop} {l : List V} {aa : Option Addr} {ca : Nat} {w : World} (ha : IsVs B w l (.slice aa l.length ca)) (hlo : ∀ v ∈ l, Lst v) (hll : l.length ≤ 900000) :
    Calls Try.prog 30 #[.slice aa l.length ca] w fun e w' => NewVs w l e w' := by
  go_enter Try.func30, Try.ntmps30
  go_wp2_with fail
  go_loopg [8, 3] l.length (fun gk i s wr => ∃ (q : Nat) (sa : Option Addr) (sc : Nat), q ≤ l.length ∧ gk = l.length - q ∧ i = .int .i64 q ∧ s = .slice sa q sc ∧ Hid (Below w.heap.size w wr ∧ Gv (From w.heap.size) wr (.slice sa q sc) (l.take q)))
  case atStart => exact ⟨0, none, 0, Nat.zero_le _, rfl, rfl, rfl, Below.refl _ _, by simpa using Gv.nil _ _⟩
  case round =>
    obtain ⟨q, sa, sc, hq, rfl, rfl, rfl, HI⟩ := hrel
    obtain ⟨hBr, hGr⟩ := HI.out
    clear HI
    have hlq : (l.take q).length = q := by simp; omega
    by_cases hlt : q < l.length
    · have hltI : (q : Int) < (l.length : Int) := by omega
      have hq0 : (0 : Int) ≤ (q : Int) := by omega
      obtain ⟨x, hx⟩ : ∃ x, l[q]? = some x := ⟨_, List.getElem?_eq_getElem hlt⟩
      obtain ⟨g1, o1, a1, c1, haa, -, hg1, p0, p1, p2, p3, hw1⟩ := (ha.below hBr).get hx
      subst haa
      obtain ⟨wz, wb, hWz, hWb, hbz, hbb, hxb, hz⟩ := zvbox wr (.int .i64 x.k) (.int .i64 x.n) (.string ⟨x.t.toArray⟩) (.slice a1 x.l.length c1)
      obtain ⟨z0, z1, z2, z3, y0, y1, y2, y3, hlz⟩ := cells_k4 hz
      obtain ⟨k0, k1, k2, k3, -, -, -, -, hlc⟩ := cells_k4 hxb
      have hC := rcopyL_any _ x _ B wb (Nat.lt_succ_self _) (hlo x (List.mem_of_getElem? hx)) (hw1.below hbb)
      have hxx : Hid (l[q]? = some x) := hx
      clear hx hw1 hxb hz
      go_wp2_with fail
      refine hC.mono ?_
      rintro e w6 ⟨⟨ay, cy, rfl, hx6, -⟩, hb6⟩
      clear hC hWz hWb z0 z1 z2 z3 y0 y1 y2 y3 k0 k1 k2 k3 p0 p1 p2 p3
      obtain ⟨wa, hWa⟩ : ∃ wa, w6.alloc (.cells #[.int .i64 x.k, .int .i64 x.n, .string ⟨x.t.toArray⟩, .slice ay x.l.length cy] 29) = wa := ⟨_, rfl⟩
      have hba : Below w6.heap.size w6 wa := by rw [← hWa]; exact (Below.refl _ _).alloc (Nat.le_refl _) _
      have hblka : wa.heap[w6.heap.size]? = some (.cells #[.int .i64 x.k, .int .i64 x.n, .string ⟨x.t.toArray⟩, .slice ay x.l.length cy] 29) := by rw [← hWa]; exact heap_new _ _
      have hrb := hbb.size
      have hrw := hBr.size
      have hb66 := hb6.size
      have hbaa := hba.size
      have hGb : Gv (From w.heap.size) wb (.slice sa q sc) (l.take q) := hGr.below hbb
      have hGa : Gv (From w.heap.size) wa (.slice sa q sc) (l.take q) := (hGb.below hb6).below hba
      obtain ⟨g7, c7, w7, hr7, hG7, hb7, -, -⟩ := hGa.push (l2 := [x]) (ad := ⟨w6.heap.size, 0, none⟩) (by simp) (by simp) (World.news_of_block hblka) (AllV.one (isV_iff.2 ⟨_, rfl, (hx6.below hba).base (B' := fun k => From w.heap.size k ∧ (Value.slice sa q sc).ownBlock ≠ some k) (fun k h1 _ => by have h2 : wb.heap.size ≤ k := h1; exact ⟨by show w.heap.size ≤ k; omega, hGb.apart h2⟩)⟩)) (by rw [hlq]; simp; omega) (fun k hk => by show w.heap.size ≤ k; omega) 1 22
      replace hb7 : Below w.heap.size wa w7 := hb7 _ (by omega) (fun k hk => hk)
      rw [hlq] at hr7 hG7
      have hnew : Hid (Below w.heap.size w w7 ∧ Gv (From w.heap.size) w7 (.slice (some ⟨g7, 0, none⟩) (q + 1) c7) (l.take (q + 1))) := by
        refine ⟨(hBr.trans ((hbb.trans ((hb6.trans (hba.mono hb6.size)).mono hbb.size)).mono hBr.size)).trans hb7, ?_⟩
        rw [List.take_add_one, hxx.out]
        exact hG7
      simp only [List.length_cons, List.length_nil, Nat.zero_add] at hr7
      clear ha hlo hBr hGr hGb hGa hG7 hb7 hx6 hb6 hba hblka hbb hxx
      go_wp2_with (at_builtin; refine Lib.wpList_append_run _ rfl _ _ 22 22 rfl _ _ rfl rfl _ _ hr7 ?_)
      go_roundg (l.length - (q + 1))
      case measure => omega
      case rel => exact ⟨q + 1, _, _, by omega, rfl, by go_num, rfl, hnew⟩
    · have hltI : ¬ (q : Int) < (l.length : Int) := by omega
      obtain rfl : q = l.length := by omega
      have hpost : NewVs w l (.returned (.slice sa l.length sc)) wr := ⟨⟨sa, sc, rfl, by rw [List.take_length] at hGr; exact hGr⟩, hBr⟩
      clear ha hlo hBr hGr
      go_wp2
      go_ret
      exact hpost
end Go.Proofs.Ytndahpcjkcihlaa
