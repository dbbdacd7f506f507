/- Texts of ours, joined: Kq, Ji. -/
import Derived.Test.YtndahpcjkcihlaaG20
import Derived.Test.YtndahpcjkcihlaaG23
import Derived.Test.YtndahpcjkcihlaaG14
import Derived.Deep.LoopGhost
/- What the landed functions are to answer; every Verify and Type: the statement's. -/
namespace Go.Proofs.Ytndahpcjkcihlaa
open Go.RowKit
set_option linter.unusedVariables false
set_option linter.unusedSimpArgs false
attribute [local go_sem ↓] Go.wp_at_zero Go.wp_at_succ

/-- Sizes that a machine can go through. -/
structure Fit (m : Md) : Prop where
  wt : ∀ v ∈ m.consts, wt v ≤ 4611686018427387904
  cl : m.consts.length ≤ 900000
  fl : m.funcs.length ≤ 900000
  kl : ∀ f ∈ m.funcs, f.code.length ≤ 900000
theorem Small.fit {m : Md} (h : Small m) (hz : SzM m) : Fit m :=
  ⟨h.wt hz, by have := csz_len m.consts; have := h.c; omega, by have := fsz_len m.funcs; have := h.f; omega, fun f hf => by have := fsz_mem hf; have := h.f; omega⟩
def WakeOk : Prop := ∀ w, Calls Try.prog 7 #[] w fun e w' => e = .returned (.bool true) ∧ Below w.heap.size w w'
def TypOk : Prop := ∀ (B : Nat → Prop) (v : V) (ao : Option Addr) (cap : Nat) (w : World), IsW B w v (.slice ao v.l.length cap) → wt v ≤ 4611686018427387904 → Calls Try.prog 9 #[.agg #[.int .i64 v.k, .int .i64 v.n, .string ⟨v.t.toArray⟩, .slice ao v.l.length cap]] w fun e w' => e = .returned (.string ⟨(ctype v).toArray⟩) ∧ Below w.heap.size w w'
def VerOk : Prop := ∀ (B : Nat → Prop) (m : Md) (ac af : Option Addr) (cc cf : Nat) (w : World) (states : Int), IsMd B w m (.slice ac m.consts.length cc) (.slice af m.funcs.length cf) → Fit m → InR states → Calls Try.prog 11 #[.agg #[.slice ac m.consts.length cc, .slice af m.funcs.length cf], .int .i64 states] w fun e w' => e = .returned (.int .i64 (vfy m states)) ∧ Below w.heap.size w w'
set_option maxRecDepth 100000 in
set_option maxHeartbeats 8000000 in
theorem verifies_walk (hWk : WakeOk) (hTy : TypOk) (hVr : VerOk) {B : Nat → Prop} {m : Md} {ac af : Option Addr} {cc cf : Nat} {w : World} (hm : IsMd B w m (.slice ac m.consts.length cc) (.slice af m.funcs.length cf)) (hz : SzM m) (states : Int) (hst : InR states) :
    Calls Try.prog 3 #[.agg #[.slice ac m.consts.length cc, .slice af m.funcs.length cf], .int .i64 states] w fun e w' => e = .returned (.bool true) ∧ Below w.heap.size w w' := by
  obtain ⟨w0, hW0, hb0, hl0, hx0⟩ := box2 w (.slice ac m.consts.length cc) (.slice af m.funcs.length cf) 25
  have hld : w.heap.size < w0.heap.size := by omega
  have hBf : ∀ wr, Below w0.heap.size w0 wr → Below w.heap.size w wr := fun wr hb => hb0.trans (hb.mono hb0.size)
  have hcell : ∀ wr, Below w0.heap.size w0 wr → wr.cell? ⟨w.heap.size, 0, none⟩ = some (.slice ac m.consts.length cc) ∧ wr.cell? ⟨w.heap.size, 1, none⟩ = some (.slice af m.funcs.length cf) ∧ w.heap.size < wr.heap.size := fun wr hb => by
    obtain ⟨q0, q1, -, -, q2⟩ := cells_k2 ((hb.block _ hld).trans hx0)
    exact ⟨q0, q1, q2⟩
  have hW := hWk w0
  clear hl0 hx0
  go_enter Try.func3, Try.ntmps3
  go_wp2_with fail
  refine hW.mono ?_
  rintro e w1 ⟨rfl, hb1⟩
  obtain ⟨k0, k1, k2⟩ := hcell w1 hb1
  have hL := large13_any (hm.below (hBf w1 hb1)) hz
  clear hW hW0
  go_wp2_with fail
  refine hL.mono ?_
  rintro e w2 ⟨⟨b, rfl, hb⟩, hb2⟩
  have hB2 : Below w0.heap.size w0 w2 := hb1.trans (hb2.mono hb1.size)
  have hbH : Hid (b = false → Small m) := hb
  clear hL k0 k1 hb
  cases b with
  | true =>
    have hpost := hBf w2 hB2
    clear hm hz hcell hBf hbH
    go_wp2
    go_ret
    exact ⟨rfl, hpost⟩
  | false =>
  have hfit := (hbH.out rfl).fit hz
  have hcl := hfit.cl
  obtain ⟨k0, k1, k3⟩ := hcell w2 hB2
  have hB2H : Hid (Below w0.heap.size w0 w2) := hB2
  clear hbH hB2
  go_wp2_with fail
  clear k0 k1
  go_loopg [14] m.consts.length (fun gk i wr => ∃ q : Nat, q ≤ m.consts.length ∧ gk = m.consts.length - q ∧ i = .int .i64 q ∧ Hid (Below w0.heap.size w0 wr))
  case atStart => exact ⟨0, Nat.zero_le _, rfl, rfl, hB2H.out⟩
  case round =>
    obtain ⟨q, hq, rfl, rfl, HI⟩ := hrel
    have hBr := HI.out
    clear HI hB2H
    by_cases hlt : q < m.consts.length
    · have hltI : (q : Int) < (m.consts.length : Int) := by omega
      have hq0 : (0 : Int) ≤ (q : Int) := by omega
      obtain ⟨x, hx⟩ : ∃ x, m.consts[q]? = some x := ⟨_, List.getElem?_eq_getElem hlt⟩
      obtain ⟨gx, ox, ax, cx, hac, -, hgx, p0, p1, p2, p3, hwx⟩ := (hm.con.below (hBf wr hBr)).get hx
      subst hac
      obtain ⟨wz, wb, hWz, hWb, hbz, hbb, hxb, hzz⟩ := zvbox wr (.int .i64 x.k) (.int .i64 x.n) (.string ⟨x.t.toArray⟩) (.slice ax x.l.length cx)
      obtain ⟨z0, z1, z2, z3, y0, y1, y2, y3, hlz⟩ := cells_k4 hzz
      obtain ⟨c0, c1, c2, c3, -, -, -, -, hlc⟩ := cells_k4 hxb
      have hwt := hfit.wt x (List.mem_of_getElem? hx)
      have hC1 : ∀ w2, Below wb.heap.size wb w2 → Calls Try.prog 9 #[.agg #[.int .i64 x.k, .int .i64 x.n, .string ⟨x.t.toArray⟩, .slice ax x.l.length cx]] w2 fun e w' => e = .returned (.string ⟨(ctype x).toArray⟩) ∧ Below w2.heap.size w2 w' := fun w2 h => hTy B x _ _ w2 ((hwx.below hbb).below h) hwt
      have hC2 : ∀ w2, Below wb.heap.size wb w2 → Calls Try.prog 10 #[.agg #[.int .i64 x.k, .int .i64 x.n, .string ⟨x.t.toArray⟩, .slice ax x.l.length cx]] w2 fun e w' => e = .returned (.string ⟨(ctype x).toArray⟩) ∧ Below w2.heap.size w2 w' := fun w2 h => type13_any ((hwx.below hbb).below h) hwt
      have hSk : ∀ ww, Below wb.heap.size wb ww → (ww.cell? ⟨wr.heap.size, 0, none⟩ = some (.int .i64 x.k) ∧ ww.cell? ⟨wr.heap.size, 1, none⟩ = some (.int .i64 x.n) ∧ ww.cell? ⟨wr.heap.size, 2, none⟩ = some (.string ⟨x.t.toArray⟩) ∧ ww.cell? ⟨wr.heap.size, 3, none⟩ = some (.slice ax x.l.length cx)) := fun ww hb => by
        obtain ⟨f, -⟩ := bcell hb
        exact ⟨(f _ _ hlc).trans c0, (f _ _ hlc).trans c1, (f _ _ hlc).trans c2, (f _ _ hlc).trans c3⟩
      have hBb : Below w0.heap.size w0 wb := hBr.trans (hbb.mono hBr.size)
      generalize ctype x = ct at *
      clear hx hwx hxb hzz hm hfit hz hcell
      go_wp2_with fail
      clear hWz hWb z0 z1 z2 z3 y0 y1 y2 y3 p0 p1 p2 p3 c0 c1 c2 c3
      refine wpE_begin (S := fun w' => w'.cell? ⟨wr.heap.size, 0, none⟩ = some (.int .i64 x.k) ∧ w'.cell? ⟨wr.heap.size, 1, none⟩ = some (.int .i64 x.n) ∧ w'.cell? ⟨wr.heap.size, 2, none⟩ = some (.string ⟨x.t.toArray⟩) ∧ w'.cell? ⟨wr.heap.size, 3, none⟩ = some (.slice ax x.l.length cx)) (N := fun _ => true) (by kernel_rfl) ?_
      have hS0 : wb.drew.cell? ⟨wr.heap.size, 0, none⟩ = some (.int .i64 x.k) ∧ wb.drew.cell? ⟨wr.heap.size, 1, none⟩ = some (.int .i64 x.n) ∧ wb.drew.cell? ⟨wr.heap.size, 2, none⟩ = some (.string ⟨x.t.toArray⟩) ∧ wb.drew.cell? ⟨wr.heap.size, 3, none⟩ = some (.slice ax x.l.length cx) := hSk _ (Below.refl _ _).drew
      refine wpE_takeX (some 18) (fun _ => false) (i := 0) (v := .agg #[.int .i64 x.k, .int .i64 x.n, .string ⟨x.t.toArray⟩, .slice ax x.l.length cx]) rfl rfl (by kernel_rfl) (by kernel_rfl) (by kernel_rfl) (by kernel_rfl) (fun j hj => by cases hj) (fun _ _ _ h => h) rfl (fun w' hS => by obtain ⟨g0, g1, g2, g3⟩ := hS; go_simp) (hS0) ?_
      try simp only [Act.put, List.setIfInBounds_toArray, List.set_cons_zero, List.set_cons_succ]
      refine wpE_takeX (some 20) (fun _ => false) (i := 2) (v := .agg #[.int .i64 x.k, .int .i64 x.n, .string ⟨x.t.toArray⟩, .slice ax x.l.length cx]) rfl rfl (by kernel_rfl) (by kernel_rfl) (by kernel_rfl) (by kernel_rfl) (fun j hj => by cases hj) (fun _ _ _ h => h) rfl (fun w' hS => by obtain ⟨g0, g1, g2, g3⟩ := hS; go_simp) (hS0) ?_
      try simp only [Act.put, List.setIfInBounds_toArray, List.set_cons_zero, List.set_cons_succ]
      refine wpE_one (i := 1) (by kernel_rfl) rfl rfl (fun K hK => ?_)
      go_simp
      refine (hC1 _ (Below.refl _ _).drew).mono ?_
      rintro e w6 ⟨rfl, hb6⟩
      replace hb6 : Below wb.heap.size wb w6 := below_undrew hb6
      refine hK _ _ (fun _ => hSk _ hb6) ?_
      clear hK K
      try simp only [Act.put, List.setIfInBounds_toArray, List.set_cons_zero, List.set_cons_succ]
      refine wpE_one (i := 3) (by kernel_rfl) rfl rfl (fun K hK => ?_)
      go_simp
      refine (hC2 _ hb6).mono ?_
      rintro e w7 ⟨rfl, hb7⟩
      have hb67 : Below wb.heap.size wb w7 := hb6.trans (hb7.mono hb6.size)
      refine hK _ _ (fun _ => hSk _ hb67) ?_
      clear hK K
      try simp only [Act.put, List.setIfInBounds_toArray, List.set_cons_zero, List.set_cons_succ]
      refine wpE_one (i := 4) (by kernel_rfl) rfl rfl (fun K hK => ?_)
      go_simp
      refine hK _ _ (fun _ => hSk _ hb67) ?_
      clear hK K
      try simp only [Act.put, List.setIfInBounds_toArray, List.set_cons_zero, List.set_cons_succ]
      refine wpE_done (by kernel_rfl) ?_
      have hnew : Hid (Below w0.heap.size w0 w7) := hBb.trans (hb67.mono hBb.size)
      clear hC1 hC2 hSk hS0 hb6 hb7 hb67 hBb hBr hBf
      simp only [Exit.inBlock, Exit.then]
      refine ‹∀ (a : Act) (w : World), _ → _› _ _ ?_
      go_wp2_with fail
      go_roundg (m.consts.length - (q + 1))
      case measure => omega
      case rel => exact ⟨q + 1, by omega, rfl, by go_num, hnew⟩
    · have hltI : ¬ (q : Int) < (m.consts.length : Int) := by omega
      obtain ⟨k0, k1, k4⟩ := hcell wr hBr
      have hC1 : ∀ w2, Below wr.heap.size wr w2 → Calls Try.prog 11 #[.agg #[.slice ac m.consts.length cc, .slice af m.funcs.length cf], .int .i64 states] w2 fun e w' => e = .returned (.int .i64 (vfy m states)) ∧ Below w2.heap.size w2 w' := fun w2 h => hVr B m _ _ _ _ w2 states ((hm.below (hBf wr hBr)).below h) hfit hst
      have hC2 : ∀ w2, Below wr.heap.size wr w2 → Calls Try.prog 12 #[.agg #[.slice ac m.consts.length cc, .slice af m.funcs.length cf], .int .i64 states] w2 fun e w' => e = .returned (.int .i64 (vfy m states)) ∧ Below w2.heap.size w2 w' := fun w2 h => verify13_any ((hm.below (hBf wr hBr)).below h) hfit.wt states
      have hSk : ∀ ww, Below wr.heap.size wr ww → (ww.cell? ⟨w.heap.size, 0, none⟩ = some (.slice ac m.consts.length cc) ∧ ww.cell? ⟨w.heap.size, 1, none⟩ = some (.slice af m.funcs.length cf)) := fun ww hb => by
        obtain ⟨f, -⟩ := bcell hb
        exact ⟨(f _ _ k4).trans k0, (f _ _ k4).trans k1⟩
      have hBw := hBf wr hBr
      generalize vfy m states = vr at *
      clear hm hfit hz hcell hBf
      go_wp2_with fail
      clear k0 k1
      refine wpE_begin (S := fun w' => w'.cell? ⟨w.heap.size, 0, none⟩ = some (.slice ac m.consts.length cc) ∧ w'.cell? ⟨w.heap.size, 1, none⟩ = some (.slice af m.funcs.length cf)) (N := fun _ => true) (by kernel_rfl) ?_
      have hS0 : wr.drew.cell? ⟨w.heap.size, 0, none⟩ = some (.slice ac m.consts.length cc) ∧ wr.drew.cell? ⟨w.heap.size, 1, none⟩ = some (.slice af m.funcs.length cf) := hSk _ (Below.refl _ _).drew
      refine wpE_takeX (some 24) (fun _ => false) (i := 0) (v := .agg #[.slice ac m.consts.length cc, .slice af m.funcs.length cf]) rfl rfl (by kernel_rfl) (by kernel_rfl) (by kernel_rfl) (by kernel_rfl) (fun j hj => by cases hj) (fun _ _ _ h => h) rfl (fun w' hS => by obtain ⟨g0, g1⟩ := hS; go_simp) (hS0) ?_
      try simp only [Act.put, List.setIfInBounds_toArray, List.set_cons_zero, List.set_cons_succ]
      refine wpE_takeX (some 25) (fun _ => false) (i := 1) (v := .int .i64 states) rfl rfl (by kernel_rfl) (by kernel_rfl) (by kernel_rfl) (by kernel_rfl) (fun j hj => by cases hj) (fun _ _ _ h => h) rfl (fun w' hS => by obtain ⟨g0, g1⟩ := hS; go_simp) (hS0) ?_
      try simp only [Act.put, List.setIfInBounds_toArray, List.set_cons_zero, List.set_cons_succ]
      refine wpE_takeX (some 27) (fun _ => false) (i := 3) (v := .agg #[.slice ac m.consts.length cc, .slice af m.funcs.length cf]) rfl rfl (by kernel_rfl) (by kernel_rfl) (by kernel_rfl) (by kernel_rfl) (fun j hj => by cases hj) (fun _ _ _ h => h) rfl (fun w' hS => by obtain ⟨g0, g1⟩ := hS; go_simp) (hS0) ?_
      try simp only [Act.put, List.setIfInBounds_toArray, List.set_cons_zero, List.set_cons_succ]
      refine wpE_takeX (some 28) (fun _ => false) (i := 4) (v := .int .i64 states) rfl rfl (by kernel_rfl) (by kernel_rfl) (by kernel_rfl) (by kernel_rfl) (fun j hj => by cases hj) (fun _ _ _ h => h) rfl (fun w' hS => by obtain ⟨g0, g1⟩ := hS; go_simp) (hS0) ?_
      try simp only [Act.put, List.setIfInBounds_toArray, List.set_cons_zero, List.set_cons_succ]
      refine wpE_one (i := 2) (by kernel_rfl) rfl rfl (fun K hK => ?_)
      go_simp
      refine (hC1 _ (Below.refl _ _).drew).mono ?_
      rintro e w6 ⟨rfl, hb6⟩
      replace hb6 : Below wr.heap.size wr w6 := below_undrew hb6
      refine hK _ _ (fun _ => hSk _ hb6) ?_
      clear hK K
      try simp only [Act.put, List.setIfInBounds_toArray, List.set_cons_zero, List.set_cons_succ]
      refine wpE_one (i := 5) (by kernel_rfl) rfl rfl (fun K hK => ?_)
      go_simp
      refine (hC2 _ hb6).mono ?_
      rintro e w7 ⟨rfl, hb7⟩
      have hb67 : Below wr.heap.size wr w7 := hb6.trans (hb7.mono hb6.size)
      refine hK _ _ (fun _ => hSk _ hb67) ?_
      clear hK K
      try simp only [Act.put, List.setIfInBounds_toArray, List.set_cons_zero, List.set_cons_succ]
      refine wpE_one (i := 6) (by kernel_rfl) rfl rfl (fun K hK => ?_)
      go_simp
      refine hK _ _ (fun _ => hSk _ hb67) ?_
      clear hK K
      try simp only [Act.put, List.setIfInBounds_toArray, List.set_cons_zero, List.set_cons_succ]
      refine wpE_one (i := 7) (by kernel_rfl) rfl rfl (fun K hK => ?_)
      go_simp
      refine hK _ _ (fun _ => hSk _ hb67) ?_
      clear hK K
      try simp only [Act.put, List.setIfInBounds_toArray, List.set_cons_zero, List.set_cons_succ]
      refine wpE_done (by kernel_rfl) ?_
      have hpost := hBw.trans (hb67.mono hBw.size)
      clear hC1 hC2 hSk hS0 hb6 hb7 hb67 hBw hBr
      simp only [Exit.inBlock, Exit.then]
      refine ‹∀ (a : Act) (w : World), _ → _› _ _ ?_
      go_wp2
      go_ret
      exact ⟨rfl, hpost⟩
end Go.Proofs.Ytndahpcjkcihlaa
/- Is each constant one? The program's. -/
namespace Go.Proofs.Ytndahpcjkcihlaa
open Go.RowKit
set_option linter.unusedVariables false
set_option linter.unusedSimpArgs false
attribute [local go_sem ↓] Go.wp_at_zero Go.wp_at_succ

noncomputable def nocB (v : V) : Bool := (ctype v).isEmpty
set_option maxRecDepth 100000 in
set_option maxHeartbeats 1000000 in
theorem noconst_any {B : Nat → Prop} {v : V} {ao : Option Addr} {cap : Nat} {w : World} (hv : IsW B w v (.slice ao v.l.length cap)) (hw : wt v ≤ 4611686018427387904) :
    Calls Try.prog 38 #[.agg #[.int .i64 v.k, .int .i64 v.n, .string ⟨v.t.toArray⟩, .slice ao v.l.length cap]] w fun r w' => r = .returned (.bool (nocB v)) ∧ Below w.heap.size w w' := by
  obtain ⟨w0, hW, hb0, hsz, d0, d1, d2, d3⟩ := boxed w v (.slice ao v.l.length cap)
  have hC := ctype_any (hv.below hb0) hw
  unfold nocB
  clear hv hsz
  go_enter Try.func38, Try.ntmps38
  go_wp2_with fail
  refine hC.mono ?_
  rintro e w3 ⟨rfl, hb3⟩
  clear hC
  go_wp2
  go_ret
  exact ⟨rfl, hb0.trans (hb3.mono hb0.size)⟩
set_option maxRecDepth 100000 in
set_option maxHeartbeats 1000000 in
theorem noconsts_any {B : Nat → Prop} {l : List V} {ao : Option Addr} {cap : Nat} {w : World} (hl : IsVs B w l (.slice ao l.length cap)) (hwt : ∀ v ∈ l, wt v ≤ 4611686018427387904) :
    Calls Try.prog 65 #[.slice ao l.length cap, .func (Fn.func 38) #[] #[]] w fun r w' => (∃ i : Int, r = .returned (.int .i64 i) ∧ decide (0 ≤ i) = l.any nocB) ∧ Below w.heap.size w w' := by
  obtain ⟨ao', cap', e, a1, a2⟩ := hl.slice
  simp only [Value.slice.injEq] at e
  obtain ⟨rfl, -, rfl⟩ := e
  have hround : ∀ (q : Nat) (wr : World), q < l.length → Below w.heap.size w wr →
      ∃ x g o ax cx, l[q]? = some x ∧ ao = some ⟨g, o, none⟩ ∧ g < wr.heap.size ∧ wr.cell? ⟨g, o + q * 4, none⟩ = some (.int .i64 x.k) ∧ wr.cell? ⟨g, o + q * 4 + 1, none⟩ = some (.int .i64 x.n) ∧ wr.cell? ⟨g, o + q * 4 + 2, none⟩ = some (.string ⟨x.t.toArray⟩) ∧ wr.cell? ⟨g, o + q * 4 + 3, none⟩ = some (.slice ax x.l.length cx) ∧
        Calls Try.prog 38 #[.agg #[.int .i64 x.k, .int .i64 x.n, .string ⟨x.t.toArray⟩, .slice ax x.l.length cx]] wr fun r w' => r = .returned (.bool (nocB x)) ∧ Below wr.heap.size wr w' := by
    intro q wr hq hB
    have hx : l[q]? = some l[q] := List.getElem?_eq_getElem hq
    obtain ⟨g, o, ax, cx, e, _, hg1, c0, c1, c2, c3, hw⟩ := (hl.below hB).get hx
    exact ⟨l[q], g, o, ax, cx, hx, e, hg1, c0, c1, c2, c3, noconst_any hw (hwt _ (List.mem_of_getElem? hx))⟩
  clear hl hwt
  go_enter Try.func65, Try.ntmps65
  go_wp2_with fail
  go_loopg [8] l.length (fun g i wr => ∃ q : Nat, q ≤ l.length ∧ g = l.length - q ∧ i = .int .i64 q ∧ Hid (∀ j x, j < q → l[j]? = some x → nocB x = false) ∧ Below w.heap.size w wr)
  case atStart => exact ⟨0, Nat.zero_le _, rfl, rfl, fun j x h => by omega, Below.refl _ _⟩
  case round =>
    obtain ⟨q, hq, rfl, rfl, HA, hB⟩ := hrel
    by_cases hlt : q < l.length
    · obtain ⟨x, g, o, ax, cx, hx, rfl, hg, c0, c1, c2, c3, hcall⟩ := hround q wr hlt hB
      have hltI : (q : Int) < (l.length : Int) := by omega
      have hx' : Hid (l[q]? = some x) := hx
      clear hround hx
      go_wp2_with fail
      refine hcall.mono ?_
      rintro e w3 ⟨rfl, hb3⟩
      clear hcall
      have hB3 : Below w.heap.size w w3 := hB.trans (hb3.mono hB.size)
      rcases hp : nocB x with _ | _
      rotate_left
      · have hfin : Hid (decide (0 ≤ (q : Int)) = l.any nocB) := by
          show _ = _
          rw [decide_eq_true (by omega)]
          symm
          rw [List.any_eq_true]
          exact ⟨x, List.mem_of_getElem? hx'.out, by simp [hp]⟩
        go_wp2
        go_ret
        exact ⟨⟨q, rfl, hfin⟩, hB3⟩
      · have HA2 : Hid (∀ j x, j < q + 1 → l[j]? = some x → nocB x = false) := by
          intro j z hj hz
          by_cases e : j = q
          · subst e; rw [hx'.out] at hz; cases hz; exact hp
          · exact HA.out j z (by omega) hz
        go_wp2_with fail
        go_roundg (l.length - (q + 1))
        case measure => omega
        case rel => exact ⟨q + 1, by omega, rfl, by go_num, HA2, hB3⟩
    · have hltI : ¬ (q : Int) < (l.length : Int) := by omega
      have hfin : Hid (decide (0 ≤ (-1 : Int)) = l.any nocB) := by
        show _ = _
        rw [decide_eq_false (by omega)]
        symm
        rw [List.any_eq_false]
        intro x hx
        obtain ⟨j, hj⟩ := List.mem_iff_getElem?.1 hx
        have := (List.getElem?_eq_some_iff.1 hj).1
        simp [HA.out j x (by omega) hj]
      clear hround HA
      go_wp2
      go_ret
      exact ⟨⟨-1, rfl, hfin⟩, hB⟩
set_option maxRecDepth 100000 in
set_option maxHeartbeats 1000000 in
theorem hasno_any {B : Nat → Prop} {l : List V} {ao : Option Addr} {cap : Nat} {w : World} (hl : IsVs B w l (.slice ao l.length cap)) (hwt : ∀ v ∈ l, wt v ≤ 4611686018427387904) :
    Calls Try.prog 37 #[.slice ao l.length cap, .func (Fn.func 38) #[] #[]] w fun r w' => r = .returned (.bool (l.any nocB)) ∧ Below w.heap.size w w' := by
  have hC := noconsts_any hl hwt
  clear hl hwt
  go_enter Try.func37, Try.ntmps37
  go_wp2_with fail
  refine hC.mono ?_
  rintro e w3 ⟨⟨i, rfl, hi⟩, hb3⟩
  clear hC
  have Hi : Hid (decide (0 ≤ i) = l.any nocB) := hi
  clear hi
  go_wp2
  go_ret
  exact ⟨ret_bool Hi.out, hb3⟩
end Go.Proofs.Ytndahpcjkcihlaa
