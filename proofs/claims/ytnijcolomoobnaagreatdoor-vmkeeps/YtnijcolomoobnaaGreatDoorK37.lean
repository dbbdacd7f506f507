/- Texts of ours, joined: Jk, Ss. -/
import Derived.Test.YtnijcolomoobnaaGreatDoorK36
import Derived.Test.YtnijcolomoobnaaGreatDoorK16
import Derived.Test.YtnijcolomoobnaaGreatDoorK12
import Derived.Deep.LoopGhost
namespace Go.Proofs.YtnijcolomoobnaaGreatDoor
open Go.RowKit
set_option linter.unusedVariables false
set_option linter.unusedSimpArgs false
attribute [local go_sem ↓] Go.wp_at_zero Go.wp_at_succ

theorem walkOk_take {fs : List Fu} {f : Fu} {n : Nat} (hn : n ≤ fs.length) (hi : ∀ i ∈ f.code, i.op = 9 → 0 ≤ i.a ∧ i.a < n) : WalkOk (fs.take n) f ↔ WalkOk fs f := by
  constructor
  · exact fun h => h.funs (n := n) (by simp; omega) hi (fun k hk => (List.getElem?_take_of_lt hk).symm)
  · exact fun h => h.funs (n := n) hn hi (fun k hk => List.getElem?_take_of_lt hk)
def RnPost (m : Md) (states : Int) (w : World) (e : Ending) (w' : World) : Prop := (∃ b, e = .returned (.bool b) ∧ (b = true ↔ Run m states)) ∧ Below w.heap.size w w'
set_option maxRecDepth 100000 in
set_option maxHeartbeats 8000000 in
theorem canRun_any {B : Nat → Prop} {m : Md} {ac af : Option Addr} {cc cf : Nat} {w : World} (hm : IsMd B w m (.slice ac m.consts.length cc) (.slice af m.funcs.length cf)) (hfit : Fit m) (states : Int) :
    Calls Tryz.prog 79 #[.agg #[.slice ac m.consts.length cc, .slice af m.funcs.length cf], .int .i64 states] w fun e w' => RnPost m states w e w' := by
  obtain ⟨w0, hW0, hb0, hl0, hx0⟩ := box2 w (.slice ac m.consts.length cc) (.slice af m.funcs.length cf) 25
  obtain ⟨d0, d1, -, -, hld⟩ := cells_k2 hx0
  have hcell : ∀ wr, Below w0.heap.size w0 wr → wr.cell? ⟨w.heap.size, 0, none⟩ = some (.slice ac m.consts.length cc) ∧ wr.cell? ⟨w.heap.size, 1, none⟩ = some (.slice af m.funcs.length cf) ∧ w.heap.size < wr.heap.size := fun wr hb => by
    obtain ⟨q0, q1, -, -, q2⟩ := cells_k2 ((hb.block _ hld).trans hx0)
    exact ⟨q0, q1, q2⟩
  have hBf : ∀ wr, Below w0.heap.size w0 wr → Below w.heap.size w wr := fun wr hb => hb0.trans (hb.mono hb0.size)
  have hno : ∀ wr, Below w0.heap.size w0 wr → ¬ Run m states → RnPost m states w (.returned (.bool false)) wr := fun wr hb hr => ⟨⟨false, rfl, by simp; exact hr⟩, hBf wr hb⟩
  have hfl := hfit.fl
  have hcl := hfit.cl
  have hWn := within_any states 0 32 w0
  clear hl0 hx0
  cases hs : wn states 0 32 with
  | false =>
    have hpost := hno w0 (Below.refl _ _) (fun h => by have := Bool.eq_false_iff.1 hs; rw [Ne, wn_iff] at this; exact this h.st)
    rw [hs] at hWn
    clear hm hfit hno hcell hBf hs
    go_enter Tryz.func79, Tryz.ntmps79
    go_wp2_with fail
    refine hWn.mono ?_
    rintro e w1 ⟨rfl, rfl⟩
    clear hWn
    go_wp2
    go_ret
    exact hpost
  | true =>
  rw [hs] at hWn
  have hst := wn_iff.1 hs
  by_cases h3 : 32 < m.funcs.length
  · have hpost := hno w0 (Below.refl _ _) (fun h => by have := h.few.1; omega)
    have i3 : 32 < (m.funcs.length : Int) := by omega
    clear hm hfit hno hcell hBf hs hst
    go_enter Tryz.func79, Tryz.ntmps79
    go_wp2_with fail
    refine hWn.mono ?_
    rintro e w1 ⟨rfl, rfl⟩
    clear hWn
    go_wp2
    go_ret
    exact hpost
  by_cases h4 : 16384 < m.consts.length
  · have hpost := hno w0 (Below.refl _ _) (fun h => by have := h.few.2; omega)
    have i4 : 16384 < (m.consts.length : Int) := by omega
    have j3 : ¬ 32 < (m.funcs.length : Int) := by omega
    clear hm hfit hno hcell hBf hs hst
    go_enter Tryz.func79, Tryz.ntmps79
    go_wp2_with fail
    refine hWn.mono ?_
    rintro e w1 ⟨rfl, rfl⟩
    clear hWn
    go_wp2
    go_ret
    exact hpost
  have s3 : ¬ 32 < (m.funcs.length : Int) := by omega
  have s4 : ¬ 16384 < (m.consts.length : Int) := by omega
  have hCt := hasno_any (hm.con.below hb0) hfit.wt
  go_enter Tryz.func79, Tryz.ntmps79
  go_wp2_with fail
  refine hWn.mono ?_
  rintro e w1 ⟨rfl, hw1⟩
  obtain rfl := hw1.symm
  clear hWn
  go_wp2_with fail
  refine hCt.mono ?_
  rintro e w1 ⟨rfl, hb1⟩
  clear hCt hW0 d0 d1
  cases hany : m.consts.any nocB with
  | true =>
    have hpost := hno w1 hb1 (fun h => by
      obtain ⟨v, hv, hn⟩ := List.any_eq_true.1 hany
      unfold nocB at hn
      exact h.con v hv (List.isEmpty_iff.1 hn))
    clear hm hfit hno hcell hBf hs hst hany
    go_wp2
    go_ret
    exact hpost
  | false =>
  have hcon : Hid (∀ v ∈ m.consts, ctype v ≠ []) := fun v hv he => by
    have := List.any_eq_false.1 hany v hv
    unfold nocB at this
    rw [he] at this
    exact this rfl
  clear hany
  obtain ⟨k0, k1, k2⟩ := hcell _ hb1
  have hBr0 : Hid (Below w0.heap.size w0 w1) := hb1
  clear hb1
  go_wp2_with fail
  clear k0 k1
  go_loopg [29] m.funcs.length (fun gk i wr' => ∃ n : Nat, n ≤ m.funcs.length ∧ gk = m.funcs.length - n ∧ i = .int .i64 n ∧ Hid (Below w0.heap.size w0 wr' ∧ ∀ (k : Nat) g, k < n → m.funcs[k]? = some g → FuOk m.consts.length states m.funcs k g))
  case atStart => exact ⟨0, Nat.zero_le _, rfl, rfl, hBr0.out, fun k g hk => by omega⟩
  case round =>
    obtain ⟨n, hn, rfl, rfl, HI⟩ := hrel
    have hBr := HI.out.1
    have Hok : Hid (∀ (k : Nat) g, k < n → m.funcs[k]? = some g → FuOk m.consts.length states m.funcs k g) := HI.out.2
    clear HI hBr0
    by_cases hnlt : n < m.funcs.length
    rotate_left
    · have hnI : ¬ (n : Int) < (m.funcs.length : Int) := by omega
      have hrun : Run m states := ⟨hst, ⟨by omega, by omega⟩, hcon.out, fun k g hk => Hok.out k g (by have := (List.getElem?_eq_some_iff.1 hk).1; omega) hk⟩
      have hpost : RnPost m states w (.returned (.bool true)) wr := ⟨⟨true, rfl, by simp; exact hrun⟩, hBf wr hBr⟩
      clear hm hfit hno hcell hBf hrun Hok hcon hBr hs hst
      go_wp2
      go_ret
      exact hpost
    have hnI : (n : Int) < (m.funcs.length : Int) := by omega
    have hn0 : (0 : Int) ≤ (n : Int) := by omega
    obtain ⟨f, hf⟩ : ∃ f, m.funcs[n]? = some f := ⟨_, List.getElem?_eq_getElem hnlt⟩
    obtain ⟨gf, of, ak, ck, haf, -, hgf, p0, p1, p2, p3, p4, hfn⟩ := (hm.fun_.since (Since.of_below (hBf wr hBr))).get hf
    subst haf
    obtain ⟨wz, wb, hWz, hWb, hbz, hbb, -, hxb, hz⟩ := fbox wr (.int .i64 f.params) (.int .i64 f.locals) (.int .i64 f.zero) (.int .i64 f.stack) (.slice ak f.code.length ck)
    obtain ⟨z0, z1, z2, z3, z4, y0, y1, y2, y3, y4, hlz⟩ := cells_k5 hz
    obtain ⟨c0, c1, c2, c3, c4, -, -, -, -, -, hlc⟩ := cells_k5 hxb
    have hBb : Below w0.heap.size w0 wb := hBr.trans (hbb.mono hBr.size)
    obtain ⟨k0, k1, k3⟩ := hcell wb hBb
    have hff : Hid (m.funcs[n]? = some f) := hf
    have hfnb := hfn.below hbb
    have hkl := hfit.kl f (List.mem_of_getElem? hf)
    obtain ⟨_, _, ec, hcf1, hcf2⟩ := hm.fun_.slice
    simp only [Value.slice.injEq] at ec
    obtain ⟨-, -, rfl⟩ := ec
    have hnc : (n : Int) ≤ (cf : Int) := by omega
    clear hf hxb hz hfn
    go_wp2_with fail
    clear hWz hWb z0 z1 z2 z3 z4 y0 y1 y2 y3 y4 p0 p1 p2 p3 p4
    have e0 := World.new_ne wb ⟨wr.heap.size, 0, none⟩ c0
    have e1 := World.new_ne wb ⟨w.heap.size, 0, none⟩ k0
    go_region_held3 (fun w' => w'.cell? ⟨wr.heap.size, 0, none⟩ = some (.int .i64 f.params) ∧ w'.cell? ⟨wr.heap.size, 1, none⟩ = some (.int .i64 f.locals) ∧ w'.cell? ⟨wr.heap.size, 2, none⟩ = some (.int .i64 f.zero) ∧ w'.cell? ⟨wr.heap.size, 3, none⟩ = some (.int .i64 f.stack) ∧ w'.cell? ⟨wr.heap.size, 4, none⟩ = some (.slice ak f.code.length ck) ∧ w'.cell? ⟨w.heap.size, 0, none⟩ = some (.slice ac m.consts.length cc) ∧ w'.cell? ⟨w.heap.size, 1, none⟩ = some (.slice (some ⟨gf, of, none⟩) m.funcs.length cf)) (go_keep) (fail)
    rename_i hHeld
    clear hHeld e0 e1 c0 c1 c2 c3 c4 k0 k1
    obtain ⟨ws, hWs, hbs, -, hxs⟩ := box8 wb (.int .i64 f.params) (.int .i64 f.locals) (.int .i64 f.zero) (.int .i64 f.stack) (.slice ak f.code.length ck) (.int .i64 m.consts.length) (.int .i64 states) (.slice (some ⟨gf, of, none⟩) n cf) 131
    rw [hWs]
    have hbt : Below wb.heap.size wb ws.drew := hbs.drew
    have hxt : ws.drew.heap[wb.heap.size]? = some (.cells #[.int .i64 f.params, .int .i64 f.locals, .int .i64 f.zero, .int .i64 f.stack, .slice ak f.code.length ck, .int .i64 m.consts.length, .int .i64 states, .slice (some ⟨gf, of, none⟩) n cf] 131 (0, 0)) := hxs
    clear hxs hbs hWs
    generalize ws.drew = wt at *
    have hBt : Below w0.heap.size w0 wt := hBb.trans (hbt.mono hBb.size)
    have hFr := framed_any (f := f) (ak := ak) (ck := ck) (af := some ⟨gf, of, none⟩) (cf := cf) (nc := m.consts.length) (n := n) (states := states) hkl hcl wt
    obtain ⟨t0, t1, t2, t3, t4, t5, t6, t7, hlt⟩ := cells_k8 hxt
    cases hnum : numB m.consts.length f with
    | false =>
      rw [hnum] at hFr
      have hnr : ¬ Run m states := fun h => by have := numB_iff.2 (h.fun_ n f hff.out).num; rw [hnum] at this; cases this
      clear hm hfit hcell Hok hcon hBr hBb hbb hbt hfnb hff hnum hxt hst hs
      go_wp2_with fail
      refine hFr.mono ?_
      rintro e w5 ⟨rfl, hb5⟩
      have hpost := hno w5 (hBt.trans (hb5.mono hBt.size)) hnr
      clear hFr t0 t1 t2 t3 t4 t5 t6 t7 hno hBf hnr hBt hb5
      go_wp2
      go_ret
      exact hpost
    | true =>
    rw [hnum] at hFr
    have hnm := numB_iff.1 hnum
    have hnmH : Hid (NumOk m.consts.length f) := hnm
    have hloc : 0 ≤ f.locals ∧ f.locals ≤ 256 := by unfold NumOk at hnm; omega
    have hclen : f.code.length ≤ 16384 := by unfold NumOk at hnm; omega
    clear hnm hnum
    have hfnt := hfnb.below hbt
    have hFi : ∀ w', Below wt.heap.size wt w' → Calls Tryz.prog 122 #[.agg #[.int .i64 f.params, .int .i64 f.locals, .int .i64 f.zero, .int .i64 f.stack, .slice ak f.code.length ck, .int .i64 m.consts.length, .int .i64 states, .slice (some ⟨gf, of, none⟩) n cf]] w' fun e w'' => e = .returned (.bool (insB m.consts.length states n f)) ∧ Below w'.heap.size w' w'' := fun w' hb => fine_any (hfnt.below hb) hkl hloc hcl (by omega) hst
    have hcs : ∀ w', Below wt.heap.size wt w' → w'.heap[wb.heap.size]? = some (.cells #[.int .i64 f.params, .int .i64 f.locals, .int .i64 f.zero, .int .i64 f.stack, .slice ak f.code.length ck, .int .i64 m.consts.length, .int .i64 states, .slice (some ⟨gf, of, none⟩) n cf] 131 (0, 0)) := fun w' hb => (hb.block _ hlt).trans hxt
    clear hxt
    cases hins : insB m.consts.length states n f with
    | false =>
      have hnr : ¬ Run m states := fun h => by have := insB_iff.2 (h.fun_ n f hff.out).ins; rw [hins] at this; cases this
      rw [hins] at hFi
      clear hm hfit hcell Hok hcon hBr hBb hbb hbt hfnb hff hins hst hs hfnt hnmH
      go_wp2_with fail
      refine hFr.mono ?_
      rintro e w5 ⟨rfl, hb5⟩
      obtain ⟨t0, t1, t2, t3, t4, t5, t6, t7, hlt5⟩ := cells_k8 (hcs w5 hb5)
      have hF5 := hFi w5 hb5
      clear hFr hFi hcs
      go_wp2_with fail
      refine hF5.mono ?_
      rintro e w6 ⟨rfl, hb6⟩
      have hb56 := hb5.trans (hb6.mono hb5.size)
      have hpost := hno w6 (hBt.trans (hb56.mono hBt.size)) hnr
      clear hF5 t0 t1 t2 t3 t4 t5 t6 t7 hno hBf hnr hBt hb5 hb6 hb56
      go_wp2
      go_ret
      exact hpost
    | true =>
    rw [hins] at hFi
    have hall := insB_iff.1 hins
    have hio : InsOk (m.funcs.take n) f := insOk_of (nc := m.consts.length) (states := states) (n := n) (by simp; omega) hnmH.out hall (fun k g hk hg => by
      rw [List.getElem?_take_of_lt hk] at hg
      have := (Hok.out k g hk hg).num
      unfold NumOk at this; omega)
    have hlenT : (m.funcs.take n).length = n := by simp; omega
    have hLv : ∀ w', Below wt.heap.size wt w' → Calls Tryz.prog 123 #[.agg #[.int .i64 f.params, .int .i64 f.locals, .int .i64 f.zero, .int .i64 f.stack, .slice ak f.code.length ck, .int .i64 m.consts.length, .int .i64 states, .slice (some ⟨gf, of, none⟩) n cf]] w' fun e w'' => WkPost (m.funcs.take n) f w' e w'' := fun w' hb => by
      have hBw' := hBf w' (hBt.trans (hb.mono hBt.size))
      have h1 := (hm.fun_.since (Since.of_below hBw')).take (n := n) (by omega)
      have h2 := level_any (nc := m.consts.length) (states := states) (hfnt.below hb) h1 hio (fun i hi => by have := inOk_iff.1 (hall i hi); omega) (fun i hi h => by
        obtain ⟨-, -, a3, a4⟩ := inOk_iff.1 (hall i hi)
        unfold inLow at a3
        unfold inTop at a4
        rcases h with h | h <;> rw [h] at a3 a4 <;> simp at a3 a4 <;> omega)
      rw [hlenT] at h2
      exact h2
    have hwkH : Hid (WalkOk (m.funcs.take n) f ↔ WalkOk m.funcs f) := walkOk_take (by omega) (fun i hi h9 => (hall i hi).call h9)
    have hallH : Hid (∀ i ∈ f.code, InOk m.consts.length states n f i) := hall
    clear hall hio hlenT hfnt hBr hBb hbb hbt hfnb hm hfit hcell hins
    go_wp2_with fail
    refine hFr.mono ?_
    rintro e w5 ⟨rfl, hb5⟩
    clear t0 t1 t2 t3 t4 t5 t6 t7
    obtain ⟨t0, t1, t2, t3, t4, t5, t6, t7, hlt5⟩ := cells_k8 (hcs w5 hb5)
    have hF5 := hFi w5 hb5
    clear hFr hFi
    go_wp2_with fail
    refine hF5.mono ?_
    rintro e w6 ⟨rfl, hb6⟩
    have hb56 : Below wt.heap.size wt w6 := hb5.trans (hb6.mono hb5.size)
    clear hF5 t0 t1 t2 t3 t4 t5 t6 t7
    obtain ⟨t0, t1, t2, t3, t4, t5, t6, t7, hlt6⟩ := cells_k8 (hcs w6 hb56)
    have hL6 := hLv w6 hb56
    clear hLv hcs hb5 hb6
    go_wp2_with fail
    refine hL6.mono ?_
    rintro e w7 ⟨⟨b, rfl, hb⟩, hb7⟩
    have hBe := hBt.trans (hb56.mono hBt.size)
    have hBe7 := hBe.trans (hb7.mono hBe.size)
    have hbH : Hid (b = true ↔ WalkOk m.funcs f) := hb.trans hwkH.out
    clear hL6 t0 t1 t2 t3 t4 t5 t6 t7 hb hwkH hb7 hb56 hBe hBt
    cases b with
    | false =>
      have hpost := hno w7 hBe7 (fun h => by have := hbH.out.2 (h.fun_ n f hff.out).walk; cases this)
      clear hno hBf Hok hcon hbH hff hallH hnmH hst hs hBe7
      go_wp2
      go_ret
      exact hpost
    | true =>
      have hnew : Hid (Below w0.heap.size w0 w7 ∧ ∀ (k : Nat) g, k < n + 1 → m.funcs[k]? = some g → FuOk m.consts.length states m.funcs k g) := ⟨hBe7, fun k g hk hg => by
        by_cases e : k = n
        · subst e
          rw [hff.out] at hg
          cases hg
          exact ⟨hnmH.out, hallH.out, hbH.out.1 rfl⟩
        · exact Hok.out k g (by omega) hg⟩
      clear hno hBf Hok hcon hbH hff hallH hnmH hst hs hBe7
      go_wp2_with fail
      go_roundg (m.funcs.length - (n + 1))
      case measure => omega
      case rel => exact ⟨n + 1, by omega, rfl, by go_num, hnew⟩
set_option maxRecDepth 100000 in
set_option maxHeartbeats 1000000 in
theorem verify_any {B : Nat → Prop} {m : Md} {ac af : Option Addr} {cc cf : Nat} {w : World} (hm : IsMd B w m (.slice ac m.consts.length cc) (.slice af m.funcs.length cf)) (hfit : Fit m) (states : Int) :
    Calls Tryz.prog 38 #[.agg #[.slice ac m.consts.length cc, .slice af m.funcs.length cf], .int .i64 states] w fun e w' => e = .returned (.int .i64 (vfy m states)) ∧ Below w.heap.size w w' := by
  obtain ⟨w0, hW0, hb0, hl0, hx0⟩ := box2 w (.slice ac m.consts.length cc) (.slice af m.funcs.length cf) 25
  obtain ⟨d0, d1, -, -, hld⟩ := cells_k2 hx0
  have hC := canRun_any (hm.below hb0) hfit states
  obtain ⟨vr, hvr⟩ : ∃ vr, Hid (vfy m states = vr) := ⟨_, rfl⟩
  rw [hvr.out]
  clear hm hfit hl0 hx0
  go_enter Tryz.func38, Tryz.ntmps38
  go_wp2_with fail
  refine hC.mono ?_
  rintro e w1 ⟨⟨b, rfl, hb⟩, hb1⟩
  have hbH : Hid (b = true ↔ Run m states) := hb
  have hB : Below w.heap.size w w1 := hb0.trans (hb1.mono hb0.size)
  clear hC hb d0 d1
  cases b with
  | false =>
    have hv : Hid (vr = 40) := by show _ = _; rw [← hvr.out]; exact vfy_no (fun h => by have := hbH.out.2 h; cases this)
    clear hbH hvr
    go_wp2
    go_ret
    exact ⟨by rw [hv.out]; rfl, hB⟩
  | true =>
    have hv : Hid (vr = 0) := by show _ = _; rw [← hvr.out]; exact vfy_ok (hbH.out.1 rfl)
    clear hbH hvr
    go_wp2
    go_ret
    exact ⟨by rw [hv.out]; rfl, hB⟩
end Go.Proofs.YtnijcolomoobnaaGreatDoor
namespace Go.Proofs.YtnijcolomoobnaaGreatDoor
open Go.RowKit
set_option linter.unusedVariables false
set_option linter.unusedSimpArgs false
attribute [local go_sem ↓] Go.wp_at_zero Go.wp_at_succ

def GvW (P : Nat → Prop) (N : Nat) (w : World) (sl : Value) (acc : List V) : Prop := ∃ row, w.ownsRow 0 31 4 sl acc.length row ∧ (∀ k, sl.ownBlock = some k → P k) ∧ AllV (fun k => P k ∧ sl.ownBlock ≠ some k) w acc row ∧ ∀ i, i < acc.length → ∃ c, row[i * 4 + 3]? = some c ∧ Wf (fun k => P k ∧ sl.ownBlock ≠ some k) N w c
theorem GvW.gv {P : Nat → Prop} {N : Nat} {w : World} {sl : Value} {acc : List V} (h : GvW P N w sl acc) : Gv P w sl acc := by
  obtain ⟨row, h1, h2, h3, -⟩ := h
  exact ⟨row, h1, h2, h3⟩
theorem GvW.nil (P : Nat → Prop) (N : Nat) (w : World) : GvW P N w (.slice none 0 0) [] := ⟨[], ⟨rfl, Or.inl ⟨rfl, rfl⟩⟩, fun k h => by simp [Value.ownBlock] at h, by rw [AllV], fun i hi => by simp at hi⟩
theorem GvW.since {P : Nat → Prop} {N : Nat} {w w' : World} {sl : Value} {acc : List V} (h : GvW P N w sl acc) (s : Since P w w') : GvW P N w' sl acc := by
  obtain ⟨row, h1, h0, h2, hw⟩ := h
  refine ⟨row, ⟨h1.1, ?_⟩, h0, h2.since (s.mono (fun k hk => hk.1)), fun i hi => ?_⟩
  · rcases h1.2 with h3 | ⟨g, cap, cur, h3, h4, h5, h6⟩
    · exact Or.inl h3
    · exact Or.inr ⟨g, cap, cur, h3, h4, by rw [s.block g (h0 g (by rw [h3]; rfl)) (Array.getElem?_eq_some_iff.1 h5).1]; exact h5, h6⟩
  · obtain ⟨c, e1, e2⟩ := hw i hi
    exact ⟨c, e1, e2.since (s.mono (fun k hk => hk.1))⟩
theorem GvW.below {P : Nat → Prop} {N : Nat} {w w' : World} {sl : Value} {acc : List V} (h : GvW P N w sl acc) (hb : Below w.heap.size w w') : GvW P N w' sl acc := h.since (Since.of_below hb)
theorem GvW.wf {P : Nat → Prop} {N : Nat} {w : World} {sl : Value} {acc : List V} (h : GvW P N w sl acc) (hn : acc.length ≤ 1000000) : Wf P (N + 1) w sl := by
  obtain ⟨row, ⟨hlen, hs⟩, hP, hall, hw⟩ := h
  rcases hs with ⟨rfl, -⟩ | ⟨g, cap, cur, rfl, -, hg, h1, h2, h3, h4⟩
  · exact Wf.nil (Nat.zero_le _)
  · refine Or.inr ⟨g, acc.length, cap, cur, rfl, h1, ⟨hn, h2⟩, hP g rfl, hg, by omega, fun i hi => ?_⟩
    obtain ⟨cs, hv, hcs⟩ := hall.get (List.getElem?_eq_getElem hi)
    obtain ⟨xs, rfl, -⟩ := isV_iff.1 hv
    obtain ⟨c, hc, hwf⟩ := hw i hi
    have hat : ∀ j, j < 4 → cur[i * 4 + j]? = row[i * 4 + j]? := fun j hj => by
      rw [← h4, List.getElem?_take, if_pos (by omega)]
      simp
    have e0 := (hat 0 (by omega)).trans (hcs 0 (by omega))
    have e1 := (hat 1 (by omega)).trans (hcs 1 (by omega))
    have e2 := (hat 2 (by omega)).trans (hcs 2 (by omega))
    have e3 := (hat 3 (by omega)).trans hc
    exact ⟨_, _, _, c, e0, e1, e2, e3, hwf.base (fun k hk _ => hk.1)⟩
theorem vpushW_run {P : Nat → Prop} {N : Nat} {w : World} {sl : Value} {acc : List V} (h : GvW P N w sl acc) {x : V} {xs : Value} (hx : IsW (fun k => P k ∧ sl.ownBlock ≠ some k) w x xs) (hwx : Wf (fun k => P k ∧ sl.ownBlock ≠ some k) N w xs) (hn : acc.length + 1 ≤ 900000) (hP : ∀ k, w.heap.size ≤ k → P k) :
    ∃ wa ao cap w', w.alloc (.cells #[.int .i64 x.k, .int .i64 x.n, .string ⟨x.t.toArray⟩, xs] 31) = wa ∧ (Builtin.append_ #[22, 22] 22 #[sl, .slice (some ⟨w.heap.size, 0, none⟩) 1 1]).run Tryz.prog wa = .ok (.slice ao (acc.length + 1) cap) w' ∧ GvW P N w' (.slice ao (acc.length + 1) cap) (acc ++ [x]) ∧ Fr (fun k => sl.ownBlock ≠ some k) w w' := by
  obtain ⟨wa, hWa⟩ : ∃ wa, w.alloc (.cells #[.int .i64 x.k, .int .i64 x.n, .string ⟨x.t.toArray⟩, xs] 31) = wa := ⟨_, rfl⟩
  have hba : Below w.heap.size w wa := by rw [← hWa]; exact (Below.refl _ _).alloc (Nat.le_refl _) _
  have hblk : wa.heap[w.heap.size]? = some (.cells #[.int .i64 x.k, .int .i64 x.n, .string ⟨x.t.toArray⟩, xs] 31) := by rw [← hWa]; exact heap_new _ _
  obtain ⟨row, hown, hPo, hall, hwf⟩ := h.below hba
  have hone : AllV (fun k => P k ∧ sl.ownBlock ≠ some k) wa [x] [.int .i64 x.k, .int .i64 x.n, .string ⟨x.t.toArray⟩, xs] := AllV.one (isV_iff.2 ⟨xs, rfl, hx.below hba⟩)
  obtain ⟨ao, cap, w', hr, ho, hb, hg, hat⟩ := app_run_at Tryz.underlying22 valInfo rfl (by decide) 22 (m := 1) (c := 1) (ad := some ⟨w.heap.size, 0, none⟩) hown (fun h => by cases h) (by simp) (fun b hb j u hu => by
    obtain rfl := Option.some.inj hb
    exact World.news_of_block hblk j u hu) hone.ones (by omega) (by decide) (Nat.zero_le _)
  have hs0 : sl.ownBlock ≠ some wa.heap.size := fun e => by have := (hown.lt _ e).2; omega
  have hsince : Since (fun k => P k ∧ sl.ownBlock ≠ some k) wa w' := ⟨hg.size, fun k h1 h2 => hg.block k h2 (fun e => h1.2 e.symm)⟩
  have hown' : ∀ k, (Value.slice ao (acc.length + 1) cap).ownBlock = some k → sl.ownBlock = some k ∨ wa.heap.size = k := fun k hk => by
    rcases hat with e | e
    · exact Or.inl (e ▸ hk)
    · rw [e] at hk; exact Or.inr (Option.some.inj hk)
  have hstep : ∀ {c : Value}, Wf (fun k => P k ∧ sl.ownBlock ≠ some k) N wa c → Wf (fun k => P k ∧ (Value.slice ao (acc.length + 1) cap).ownBlock ≠ some k) N w' c := fun {c} hc => ((hc.base (P' := fun k => (P k ∧ sl.ownBlock ≠ some k) ∧ k < wa.heap.size) (fun k h1 h2 => ⟨h1, h2⟩)).since ⟨hg.size, fun k h1 h2 => hsince.block k h1.1 h2⟩).base (fun k h1 _ => ⟨h1.1.1, fun e => by
    rcases hown' k e with e | e
    · exact h1.1.2 e
    · have := h1.2; omega⟩)
  refine ⟨wa, ao, cap, w', hWa, hr, ⟨row ++ [.int .i64 x.k, .int .i64 x.n, .string ⟨x.t.toArray⟩, xs], ?_, ?_, ?_, ?_⟩, ?_⟩
  · simpa using ho
  · intro k hk
    rcases hown' k hk with e | e
    · exact hPo k e
    · exact hP k (by have := hba.size; omega)
  · refine (((hall.base (B' := fun k => (P k ∧ sl.ownBlock ≠ some k) ∧ k < wa.heap.size) (fun k h1 h2 => ⟨h1, h2⟩)).append (hone.base (fun k h1 h2 => ⟨h1, h2⟩))).since ⟨hg.size, fun k h1 h2 => hsince.block k h1.1 h2⟩).base (fun k h1 _ => ⟨h1.1.1, fun e => ?_⟩)
    rcases hown' k e with e | e
    · exact h1.1.2 e
    · have := h1.2; omega
  · intro i hi
    have hrl : row.length = acc.length * 4 := hown.1
    by_cases hlt : i < acc.length
    · obtain ⟨c, e1, e2⟩ := hwf i hlt
      exact ⟨c, by rw [List.getElem?_append_left (by omega)]; exact e1, hstep e2⟩
    · have hie : i = acc.length := by simp at hi; omega
      subst hie
      exact ⟨xs, by rw [List.getElem?_append_right (by omega), hrl]; simp, hstep (hwx.below hba)⟩
  · exact ⟨hg.os.trans hba.os, hg.tape.trans hba.tape, hg.output.trans hba.output, Nat.le_trans hba.size hg.size, fun k h1 h2 => (hg.block k (Nat.lt_of_lt_of_le h2 hba.size) (fun e => h1 e.symm)).trans (hba.block k h2)⟩
set_option maxRecDepth 100000 in
set_option maxHeartbeats 4000000 in
theorem copiesW_any {B : Nat → Prop} {l : List V} {a : Option Addr} {c : Nat} {w : World} (hl : IsVs B w l (.slice a l.length c)) (hw : ∀ x ∈ l, wt x ≤ 1000000) (hn : l.length ≤ 800000) :
    Calls Tryz.prog 29 #[.slice a l.length c] w fun r w' => (∃ a' c', r = .returned (.slice a' l.length c') ∧ GvW (From w.heap.size) 1000001 w' (.slice a' l.length c') l) ∧ Below w.heap.size w w' := by
  have hround : ∀ (q : Nat) (wr : World), q < l.length → Below w.heap.size w wr →
      ∃ x g o ax cx, l[q]? = some x ∧ a = some ⟨g, o, none⟩ ∧ g < wr.heap.size ∧ wr.cell? ⟨g, o + q * 4, none⟩ = some (.int .i64 x.k) ∧ wr.cell? ⟨g, o + q * 4 + 1, none⟩ = some (.int .i64 x.n) ∧ wr.cell? ⟨g, o + q * 4 + 2, none⟩ = some (.string ⟨x.t.toArray⟩) ∧ wr.cell? ⟨g, o + q * 4 + 3, none⟩ = some (.slice ax x.l.length cx) ∧
        ∀ w2, Below wr.heap.size wr w2 → Calls Tryz.prog 32 #[.agg #[.int .i64 x.k, .int .i64 x.n, .string ⟨x.t.toArray⟩, .slice ax x.l.length cx]] w2 fun r w' => NewW 1000001 w2 x r w' := by
    intro q wr h1 hBr
    have hx : l[q]? = some l[q] := List.getElem?_eq_getElem h1
    obtain ⟨g, o, ax, cx, e, _, hg, c0, c1, c2, c3, hw'⟩ := (hl.below hBr).get hx
    exact ⟨l[q], g, o, ax, cx, hx, e, hg, c0, c1, c2, c3, fun w2 hb => copyW_any _ _ _ _ w2 (by have := hw _ (List.getElem_mem h1); omega) (hw _ (List.getElem_mem h1)) (hw'.below hb)⟩
  have Hround : Hid _ := hround
  clear hl hw hround
  go_enter Tryz.func29, Tryz.ntmps29
  go_wp2_with fail
  go_loopg [3, 8] l.length (fun g s3 i wr => ∃ (q : Nat) (a3 : Option Addr) (c3 : Nat), q ≤ l.length ∧ g = l.length - q ∧ s3 = .slice a3 q c3 ∧ i = .int .i64 q ∧ Hid (GvW (From w.heap.size) 1000001 wr (.slice a3 q c3) (l.take q)) ∧ Below w.heap.size w wr)
  case atStart => exact ⟨0, none, 0, Nat.zero_le _, rfl, rfl, rfl, by show GvW _ _ _ _ _; simpa using GvW.nil _ _ _, Below.refl _ _⟩
  case round =>
    obtain ⟨q, a3, c3, hq, rfl, rfl, rfl, HG, hBr⟩ := hrel
    by_cases hlt : q < l.length
    · obtain ⟨x, g, o, ax, cx, hx, rfl, hg, x0, x1, x2, x3, hC⟩ := Hround.out q wr hlt hBr
      have hltI : (q : Int) < (l.length : Int) := by omega
      have hq0 : (0 : Int) ≤ (q : Int) := by omega
      have Hx : Hid (l[q]? = some x) := hx
      have hba : Below wr.heap.size wr (wr.alloc (.cells #[.int .i64 x.k, .int .i64 x.n, .string ⟨x.t.toArray⟩, .slice ax x.l.length cx] 31)) := (Below.refl _ _).alloc (Nat.le_refl _) _
      clear hx Hround
      go_wp2_with fail
      refine (hC _ hba).mono ?_
      rintro e w3 ⟨⟨a4, c4, rfl, hx4, hf4⟩, hb3⟩
      have hB3 : Below wr.heap.size wr w3 := hba.trans (hb3.mono hba.size)
      have hBw : Below w.heap.size w w3 := hBr.trans (hB3.mono hBr.size)
      have hs := hBr.size
      have hsa := hba.size
      have ho : ∀ k, (Value.slice a3 q c3).ownBlock = some k → k < wr.heap.size := fun k e => by
        obtain ⟨row, k1, k2, k3⟩ := HG.out.gv
        exact (k1.lt k e).2
      have hP4 : ∀ k, From (wr.alloc (.cells #[.int .i64 x.k, .int .i64 x.n, .string ⟨x.t.toArray⟩, .slice ax x.l.length cx] 31)).heap.size k → k < w3.heap.size → From w.heap.size k ∧ (Value.slice a3 q c3).ownBlock ≠ some k := fun k hk _ => by
        have hk' : (wr.alloc (.cells #[.int .i64 x.k, .int .i64 x.n, .string ⟨x.t.toArray⟩, .slice ax x.l.length cx] 31)).heap.size ≤ k := hk
        exact ⟨by show w.heap.size ≤ k; omega, fun e => by have := ho k e; omega⟩
      obtain ⟨wb, a5, c5, w5, hWb, hr5, hG5, hf5⟩ := vpushW_run (HG.out.below hB3) (hx4.base hP4) (hf4.base hP4) (by simp; omega) (fun k hk => by have := hB3.size; show w.heap.size ≤ k; omega)
      have hl5 : (l.take q).length = q := by simp; omega
      rw [hl5] at hr5 hG5
      have HG5 : Hid (GvW (From w.heap.size) 1000001 w5 (.slice a5 (q + 1) c5) (l.take (q + 1))) := by
        show GvW _ _ _ _ _
        rw [List.take_add_one, Hx.out]
        exact hG5
      have hB5 : Below w.heap.size w w5 := hBw.trans (hf5.below hBw.size (fun k hk e => by
        obtain ⟨row, k1, k2, k3⟩ := HG.out.gv
        have : w.heap.size ≤ k := k2 k e
        omega))
      clear HG hG5 hf5 hC hx4 hf4 hP4 ho hb3 hB3 hBw hBr hba x0 x1 x2 x3
      go_wp2_with (at_builtin; refine Lib.wpList_append_run _ rfl _ _ 22 22 rfl _ _ rfl rfl _ _ hr5 ?_; clear hr5)
      go_roundg (l.length - (q + 1))
      case measure => omega
      case rel => exact ⟨q + 1, a5, c5, by omega, rfl, rfl, by go_num, HG5, hB5⟩
    · have hltI : ¬ (q : Int) < (l.length : Int) := by omega
      have hqe : q = l.length := by omega
      subst hqe
      have hfin := HG.out
      rw [List.take_length] at hfin
      clear Hround HG
      go_wp2
      go_ret
      exact ⟨⟨a3, c3, rfl, hfin⟩, hBr⟩
end Go.Proofs.YtnijcolomoobnaaGreatDoor
