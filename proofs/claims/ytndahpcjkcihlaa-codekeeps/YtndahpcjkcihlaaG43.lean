/- Texts of ours, joined: Kr. -/
import Derived.Test.YtndahpcjkcihlaaG42
import Derived.Deep.CutRange
import Derived.Deep.Cut
/- A module that can be run can be run with more: the statement's. -/
namespace Go.Proofs.Ytndahpcjkcihlaa
open Go.RowKit
set_option linter.unusedVariables false
set_option linter.unusedSimpArgs false
attribute [local go_sem ↓] Go.wp_at_zero Go.wp_at_succ

abbrev Tru : Nat → Prop := fun _ => True
set_option maxRecDepth 100000 in
set_option maxHeartbeats 8000000 in
theorem grows_walk (hWk : WakeOk) (hVr : VerOk) {B : Nat → Prop} {m : Md} {ac af : Option Addr} {cc cf : Nat} {w : World} (hm : IsMd B w m (.slice ac m.consts.length cc) (.slice af m.funcs.length cf)) (hz : SzM m) (states more : Int) (hst : InR states) :
    Calls Try.prog 5 #[.agg #[.slice ac m.consts.length cc, .slice af m.funcs.length cf], .int .i64 states, .int .i64 more] w fun e w' => e = .returned (.bool true) ∧ Below w.heap.size w w' := by
  obtain ⟨w0, hW0, hb0, hl0, hx0⟩ := box2 w (.slice ac m.consts.length cc) (.slice af m.funcs.length cf) 25
  have hld : w.heap.size < w0.heap.size := by omega
  have hBf : ∀ wr, Below w0.heap.size w0 wr → Below w.heap.size w wr := fun wr hb => hb0.trans (hb.mono hb0.size)
  have hcell : ∀ wr, Below w0.heap.size w0 wr → wr.cell? ⟨w.heap.size, 0, none⟩ = some (.slice ac m.consts.length cc) ∧ wr.cell? ⟨w.heap.size, 1, none⟩ = some (.slice af m.funcs.length cf) ∧ w.heap.size < wr.heap.size := fun wr hb => by
    obtain ⟨q0, q1, -, -, q2⟩ := cells_k2 ((hb.block _ hld).trans hx0)
    exact ⟨q0, q1, q2⟩
  have hW := hWk w0
  clear hl0 hx0
  go_enter Try.func5, Try.ntmps5
  go_wp2_with fail
  refine hW.mono ?_
  rintro e w1 ⟨rfl, hb1⟩
  obtain ⟨k0, k1, k2⟩ := hcell w1 hb1
  have hL := large13_any (hm.below (hBf w1 hb1)) hz
  clear hW hW0
  go_wp2_with fail
  refine hL.mono ?_
  rintro e w2 ⟨⟨b, rfl, hb⟩, hb2⟩
  have hB2 : Below w0.heap.size w0 w2 := hb1.trans (hb2.mono hb1.size)
  have hbH : Hid (b = false → Small m) := hb
  clear hL k0 k1 hb
  cases b with
  | true =>
    have hpost := hBf w2 hB2
    clear hm hz hcell hBf hbH
    go_wp2
    go_ret
    exact ⟨rfl, hpost⟩
  | false =>
  have hsm := hbH.out rfl
  have hfit := hsm.fit hz
  obtain ⟨k0, k1, k3⟩ := hcell w2 hB2
  have hV := hVr B m _ _ _ _ w2 states (hm.below (hBf w2 hB2)) hfit hst
  clear hbH
  go_wp2_with fail
  refine hV.mono ?_
  rintro e w3 ⟨rfl, hb3⟩
  have hB3 : Below w0.heap.size w0 w3 := hB2.trans (hb3.mono hB2.size)
  clear hV k0 k1
  by_cases hr : Run m states
  rotate_left
  · have hv : vfy m states = 40 := vfy_no hr
    have hpost := hBf w3 hB3
    rw [hv]
    clear hm hz hcell hBf hsm hfit hr hv
    go_wp2
    go_ret
    exact ⟨rfl, hpost⟩
  have hv : vfy m states = 0 := vfy_ok hr
  rw [hv]
  clear hv
  by_cases hm1 : more < 0
  · have hpost := hBf w3 hB3
    clear hm hz hcell hBf hsm hfit hr
    go_wp2
    go_ret
    exact ⟨rfl, hpost⟩
  by_cases hm2 : 40 < more
  · have hpost := hBf w3 hB3
    clear hm hz hcell hBf hsm hfit hr
    go_wp2
    go_ret
    exact ⟨rfl, hpost⟩
  obtain ⟨k0, k1, k4⟩ := hcell w3 hB3
  have hC := copy13_any (hm.below (hBf w3 hB3)) (fun v hv => lst_of (ctype_l (hr.con v hv))) hfit.cl hfit.fl hfit.kl
  go_wp2_with fail
  refine hC.mono ?_
  rintro e w4 ⟨⟨a, c, fa, fc, n1, rfl, hGc, hGf, hn1, hn2⟩, hb4⟩
  have hB4 : Below w0.heap.size w0 w4 := hB3.trans (hb4.mono hB3.size)
  obtain ⟨wz, w5, hWz, hW5, hbz, hb5, -, hx5, hzz⟩ := zmbox w4 (.slice a m.consts.length c) (.slice fa m.funcs.length fc)
  obtain ⟨z0, z1, y0, y1, hlz⟩ := cells_k2 hzz
  obtain ⟨x50, x51, -, -, hl5⟩ := cells_k2 hx5
  have hB5 : Below w0.heap.size w0 w5 := hB4.trans (hb5.mono hB4.size)
  have hs3 := hB3.size
  have hGc5 : Gv (fun k => w3.heap.size ≤ k ∧ k < n1) w5 (.slice a m.consts.length c) m.consts := hGc.below hb5
  have hGf5 := hGf.below hb5
  have hV5 : ∀ w2, Below w5.heap.size w5 w2 → ∀ st, InR st → Calls Try.prog 11 #[.agg #[.slice a m.consts.length c, .slice fa m.funcs.length fc], .int .i64 st] w2 fun e w' => e = .returned (.int .i64 (vfy m st)) ∧ Below w2.heap.size w2 w' := fun w2 h st hst => hVr Tru m _ _ _ _ w2 st ⟨(hGc5.vs.base (fun _ _ _ => trivial)).below h, ((hGf5.fus.since (Since.of_below h)).base (fun _ _ _ => trivial))⟩ hfit hst
  have hstr := hr.st
  have hw1 : IntKind.i64.wrap (states + more) = states + more := by rw [IntKind.wrap_i64]; omega
  have hncl : m.consts.length ≤ 8192 := by have := csz_len m.consts; have := hsm.c; omega
  have hnfl : m.funcs.length ≤ 4096 := by have := fsz_len m.funcs; have := hsm.f; omega
  clear hC k0 k1 hzz hm hz hcell
  go_upto_region 6 with fail
  go_cut [41] from 28 (fun s wc => s = .bool false ∧ Hid (Below w5.heap.size w5 wc))
  case first =>
    by_cases hle : states + more ≤ 32
    · have hV := hV5 w5 (Below.refl _ _) (states + more) (by unfold InR; omega)
      rw [vfy_ok (hr.states (by omega) hle)] at hV
      clear hV5 hGc hGf hGc5 hGf5 hr hsm hfit
      go_wp2_with fail
      refine hV.mono ?_
      rintro e w6 ⟨rfl, hb6⟩
      clear hV
      go_wp2_with fail
      go_meet
      exact ⟨rfl, hb6⟩
    · clear hV5 hGc hGf hGc5 hGf5 hr hsm hfit
      go_wp2_with fail
      go_meet
      exact ⟨rfl, Below.refl _ _⟩
  case rest =>
    obtain ⟨rfl, Hc⟩ := hcut
    have hbc := Hc.out
    clear Hc hV5 x50 x51 hWz hW5 z0 z1 y0 y1
    have hbxl : w4.heap.size < wc.heap.size := by have := hbc.size; omega
    have hxc := (hbc.block _ hl5).trans hx5
    obtain ⟨x0, x1, fx0, fx1, -⟩ := cells_k2 hxc
    have hGcc : Gv (fun k => w3.heap.size ≤ k ∧ k < n1) wc (.slice a m.consts.length c) m.consts := hGc5.below hbc
    have hGfc : GF n1 w4 (.slice fa m.funcs.length fc) m.funcs := hGf
    have hBc : Below w0.heap.size w0 wc := hB5.trans (hbc.mono hB5.size)
    -- one constant more
    obtain ⟨wa, hWa⟩ : ∃ wa, wc.alloc (.cells #[.int .i64 2, .int .i64 0, .string ⟨#[]⟩, .slice none 0 0] 29) = wa := ⟨_, rfl⟩
    have hba : Below wc.heap.size wc wa := by rw [← hWa]; exact (Below.refl _ _).alloc (Nat.le_refl _) _
    have hxa : wa.heap[wc.heap.size]? = some (.cells #[.int .i64 2, .int .i64 0, .string ⟨#[]⟩, .slice none 0 0] 29 (0, 0)) := by rw [← hWa]; exact heap_new _ _
    obtain ⟨P, hP⟩ : ∃ P : Nat → Prop, ∀ k, P k ↔ ((w3.heap.size ≤ k ∧ k < n1) ∨ wc.heap.size ≤ k) := ⟨_, fun _ => Iff.rfl⟩
    have hGa : Gv P wa (.slice a m.consts.length c) m.consts := (hGcc.below hba).base (fun k hk _ => (hP k).2 (Or.inl hk))
    have hoa : ∀ k, (Value.slice a m.consts.length c).ownBlock = some k → k < n1 := fun k hk => by obtain ⟨r1, q1, q2, _⟩ := hGcc; exact (q2 k hk).2
    obtain ⟨g7, c7, w7, hr7, hG7, hb7, hf7, hs7⟩ := hGa.push (l2 := [vTrue]) (nrow := [.int .i64 2, .int .i64 0, .string ⟨#[]⟩, .slice none 0 0]) (ad := ⟨wc.heap.size, 0, none⟩) (by simp) (by simp) (World.news_of_block hxa) (AllV.one (isV_iff.2 ⟨.slice none 0 0, rfl, by simp [V.t], by show InR 2; unfold InR; omega, by show InR 0; unfold InR; omega, IsVs.nil⟩)) (by simp; omega) (fun k hk => (hP k).2 (Or.inr (by have := hba.size; omega))) 1 22
    have hsa := hba.size
    have hs4 := hB4.size
    have hb07 : Below w0.heap.size wa w7 := hb7 _ (by have := hBc.size; omega) (fun k hk => by
      rcases (hP k).1 hk with h | h
      · omega
      · have := hBc.size; omega)
    simp only [List.length_cons, List.length_nil, Nat.zero_add] at hr7
    have hx7 : w7.heap[w4.heap.size]? = some (.cells #[.slice a m.consts.length c, .slice fa m.funcs.length fc] 25 (0, 0)) := (hf7 _ (by omega) (fun e => by have := hoa _ e; omega)).trans ((hba.block _ hbxl).trans hxc)
    obtain ⟨u70, u71, fu70, fu71, hl7⟩ := cells_k2 hx7
    obtain ⟨w8, hW8⟩ : ∃ w8, w7.setCell ⟨w4.heap.size, 0, none⟩ (.slice (some ⟨g7, 0, none⟩) (m.consts.length + 1) c7) = w8 := ⟨_, rfl⟩
    have hx8 : w8.heap[w4.heap.size]? = some (.cells #[.slice (some ⟨g7, 0, none⟩) (m.consts.length + 1) c7, .slice fa m.funcs.length fc] 25 (0, 0)) := by rw [← hW8]; simp [World.setCell, Array.getElem?_modify, hx7]
    have hs8 : w8.heap.size = w7.heap.size := by rw [← hW8]; simp [World.setCell]
    have ho8 : ∀ k, k ≠ w4.heap.size → w8.heap[k]? = w7.heap[k]? := fun k hk => by rw [← hW8, Below.heap_setCell _ _ _ _ hk]
    have hG8 : Gv P w8 (.slice (some ⟨g7, 0, none⟩) (m.consts.length + 1) c7) (m.consts ++ [vTrue]) := by
      have : Gv P w7 (.slice (some ⟨g7, 0, none⟩) (m.consts.length + 1) c7) (m.consts ++ [vTrue]) := hG7
      refine this.since ⟨by omega, fun k hk hl => ho8 k (fun e => ?_)⟩
      rcases (hP k).1 hk with h | h
      · omega
      · omega
    -- the functions' blocks are as they were
    have hk8 : ∀ k, n1 ≤ k → k < w4.heap.size → w8.heap[k]? = w4.heap[k]? := fun k h1 h2 => by
      rw [ho8 k (by omega), hf7 k (by omega) (fun e => by have := hoa _ e; omega), hba.block k (by omega), hbc.block k (by have := hb5.size; omega), hb5.block k h2]
    have hGf8 : GF n1 w4 (.slice fa m.funcs.length fc) m.funcs := hGf
    have hB8 : Below w0.heap.size w0 w8 := by
      rw [← hW8]
      exact ((hBc.trans (hba.mono hBc.size)).trans hb07).setCell (p := ⟨w4.heap.size, 0, none⟩) (by show w0.heap.size ≤ w4.heap.size; omega) _
    have hcl1 : (m.consts ++ [vTrue]).length = m.consts.length + 1 := by simp
    have hfus8 : IsFus Tru w8 m.funcs (.slice fa m.funcs.length fc) := by
      have h1 := hGf.fus
      have h2 : IsFus (fun k => n1 ≤ k ∧ k < w4.heap.size) w4 m.funcs (.slice fa m.funcs.length fc) := h1.base (fun k hk hl => ⟨hk, hl⟩)
      exact (h2.since (w' := w8) ⟨by omega, fun k hk hl => hk8 k hk.1 hk.2⟩).base (fun _ _ _ => trivial)
    have hwt1 : ∀ v ∈ m.consts ++ [vTrue], wt v ≤ 4611686018427387904 := fun v hv => by
      rcases List.mem_append.1 hv with hv | hv
      · exact hfit.wt v hv
      · simp at hv; subst hv; simp [wt, wts]
    have hV8 := hVr Tru ⟨m.consts ++ [vTrue], m.funcs⟩ (some ⟨g7, 0, none⟩) fa c7 fc w8 states ⟨by show IsVs _ _ _ (.slice _ (m.consts ++ [vTrue]).length _); rw [hcl1]; exact hG8.vs.base (fun _ _ _ => trivial), hfus8⟩ ⟨hwt1, by show (m.consts ++ [vTrue]).length ≤ _; omega, hfit.fl, hfit.kl⟩ hst
    have hr1 : Run ⟨m.consts ++ [vTrue], m.funcs⟩ states := hr.const ctype_bool (by omega)
    rw [vfy_ok hr1] at hV8
    simp only [hcl1] at hV8
    obtain ⟨u80, u81, -, -, hl8⟩ := cells_k2 hx8
    have hle1 : ((m.consts.length + 1 : Nat) : Int) ≤ 16384 := by omega
    have hle2 : (m.consts.length : Int) + 1 ≤ 16384 := by omega
    clear hG7 hb7 hf7 hxa hx7 hxc hGa hGcc hGc hGc5
    go_wp2_with (at_builtin; refine Lib.wpList_append_run _ rfl _ _ 22 22 rfl _ _ rfl rfl _ _ hr7 ?_)
    refine hV8.mono ?_
    rintro e w9 ⟨rfl, hb9⟩
    have hx9 := (hb9.block _ hl8).trans hx8
    obtain ⟨u90, u91, fu90, fu91, hl9⟩ := cells_k2 hx9
    have hB9 : Below w0.heap.size w0 w9 := hB8.trans (hb9.mono hB8.size)
    have hG9 : Gv P w9 (.slice (some ⟨g7, 0, none⟩) (m.consts.length + 1) c7) (m.consts ++ [vTrue]) := hG8.below hb9
    have hs89 := hb9.size
    clear hV8 hr7 hW8 hWa x0 x1 fx0 fx1 u70 u71 fu70 fu71 u80 u81 hG8
    rcases List.eq_nil_or_concat m.funcs with hnil | ⟨pre, f, hpf⟩
    · have h0 : ((m.funcs.length : Int) == 0) = true := by simp [hnil]
      have hpost := hBf w9 hB9
      clear hGf hGfc hGf5 hGf8 hfus8 hG9 hx9 hx8 hk8 ho8 hr hr1 hsm hfit hBf hnil
      go_wp2
      go_ret
      exact ⟨rfl, hpost⟩
    rw [List.concat_eq_append] at hpf
    have hnl : m.funcs.length = pre.length + 1 := by rw [hpf]; simp
    have hfr4 : ∃ rp ca kc, FR (fun k => n1 ≤ k ∧ k < w4.heap.size) w4 (.slice fa m.funcs.length fc) pre f rp ca kc := by
      have := hGf
      rw [hpf] at this
      have hl' : (pre ++ [f]).length = m.funcs.length := by rw [hpf]
      rw [hl'] at this
      exact this.fr
    obtain ⟨rp, ca, kc, hfr4⟩ := hfr4
    have hfr9 : FR (fun k => n1 ≤ k ∧ k < w4.heap.size) w9 (.slice fa m.funcs.length fc) pre f rp ca kc := hfr4.since ⟨by omega, fun k hk hl => by rw [hb9.block k (by omega)]; exact hk8 k hk.1 hk.2⟩
    obtain ⟨g, cap, cur, e, hPg, hgcur, hcap, hcm, hcsz, htake, hrp⟩ := hfr9.at
    simp only [Value.slice.injEq] at e
    obtain ⟨hfa, -, hfc⟩ := e
    subst hfa hfc
    have hne0 : ((m.funcs.length : Int) == 0) = false := by rw [beq_eq_false_iff_ne]; omega
    have hwn : IntKind.i64.wrap ((m.funcs.length : Int) - 1) = (pre.length : Int) := by rw [IntKind.wrap_i64]; omega
    have hpI : (pre.length : Int) < (m.funcs.length : Int) := by omega
    have hp0 : (0 : Int) ≤ (pre.length : Int) := by omega
    have rc := fun (j : Nat) (u : Value) (hj : j < 5) (hu : (fuCells f (.slice ca f.code.length kc))[j]? = some u) => row_cells hgcur htake hrp hj hu
    obtain ⟨r0, -⟩ := rc 0 _ (by omega) rfl
    obtain ⟨r1', -⟩ := rc 1 _ (by omega) rfl
    obtain ⟨r2, -⟩ := rc 2 _ (by omega) rfl
    obtain ⟨r3, -⟩ := rc 3 _ (by omega) rfl
    obtain ⟨r4, -⟩ := rc 4 _ (by omega) rfl
    rw [Nat.add_zero] at r0
    have hglt : g < w9.heap.size := (Array.getElem?_eq_some_iff.1 hgcur).1
    obtain ⟨wz, w10, hWz, hW10, hbz, hb10, hs10, hx10, hzz⟩ := fbox w9 (.int .i64 f.params) (.int .i64 f.locals) (.int .i64 f.zero) (.int .i64 f.stack) (.slice ca f.code.length kc)
    obtain ⟨z0, z1, z2, z3, z4, y0, y1, y2, y3, y4, hlz⟩ := cells_k5 hzz
    obtain ⟨b0, b1, b2, b3, b4, -, -, -, -, -, hl10⟩ := cells_k5 hx10
    obtain ⟨w11, hW11⟩ : ∃ w11, w10.alloc (.cells #[.int .i64 6, .int .i64 0] 46) = w11 := ⟨_, rfl⟩
    have hb11 : Below w10.heap.size w10 w11 := by rw [← hW11]; exact (Below.refl _ _).alloc (Nat.le_refl _) _
    have hx11 : w11.heap[w10.heap.size]? = some (.cells #[.int .i64 6, .int .i64 0] 46 (0, 0)) := by rw [← hW11]; exact heap_new _ _
    have hl11 : w10.heap.size < w11.heap.size := (Array.getElem?_eq_some_iff.1 hx11).1
    have hb911 : Below w9.heap.size w9 w11 := hb10.trans (hb11.mono hb10.size)
    have hflen : f.code.length ≤ 4096 := by have := fsz_mem (l := m.funcs) (f := f) (by rw [hpf]; simp); have := hsm.f; omega
    have hO11 : OwnI w11 0 (.slice ca f.code.length kc) f.code := hfr9.code.since (fun j hj => hb911.block j (World.ownsRow.lt hfr9.code j hj).2)
    obtain ⟨a12, c12, w12, hr12, ho12, -, hgr12, hat12⟩ := app_run_at Try.underlying42 instrInfo rfl (by decide) 42 (news := [.int .i64 6, .int .i64 0]) (m := 1) (c := 1) (ad := some ⟨w10.heap.size, 0, none⟩) hO11 (fun e => by cases e) rfl (fun b hb j u hj => by
      cases hb
      have hc : w11.cell? ⟨w10.heap.size, j, none⟩ = ([.int .i64 6, .int .i64 0] : List Value)[j]? := by simp [World.cell?, hx11]
      by_cases hj0 : j = 0
      · subst hj0; simpa [Addr.add] using hc.trans hj
      · simpa [Addr.add, hj0] using hc.trans hj) (fun u hu => by simp at hu; rcases hu with rfl | rfl <;> rfl) (by omega) (by decide) (Nat.zero_le _)
    have hcown : ∀ k, (Value.slice ca f.code.length kc).ownBlock = some k → (n1 ≤ k ∧ k < w4.heap.size) ∧ k ≠ g := fun k hk => ⟨(hfr9.cblk k hk).1, fun e => (hfr9.cblk k hk).2 (by rw [e]; rfl)⟩
    have hk12 : ∀ k, k < w11.heap.size → (Value.slice ca f.code.length kc).ownBlock ≠ some k → w12.heap[k]? = w11.heap[k]? := fun k hk hs => hgr12.block k hk (fun e => hs e.symm)
    have hs12 := hgr12.size
    have hs911 := hb911.size
    have hx12 : w12.heap[w9.heap.size]? = some (.cells #[.int .i64 f.params, .int .i64 f.locals, .int .i64 f.zero, .int .i64 f.stack, .slice ca f.code.length kc] 44 (0, 0)) := (hk12 _ (by omega) (fun e => by have := (hcown _ e).1; omega)).trans ((hb11.block _ hl10).trans hx10)
    obtain ⟨d0, d1, d2, d3, d4, -, -, -, -, fd4, hl12⟩ := cells_k5 hx12
    obtain ⟨w13, hW13⟩ : ∃ w13, w12.setCell ⟨w9.heap.size, 4, none⟩ (.slice a12 (f.code.length + 1) c12) = w13 := ⟨_, rfl⟩
    have hx13 : w13.heap[w9.heap.size]? = some (.cells #[.int .i64 f.params, .int .i64 f.locals, .int .i64 f.zero, .int .i64 f.stack, .slice a12 (f.code.length + 1) c12] 44 (0, 0)) := by rw [← hW13]; simp [World.setCell, Array.getElem?_modify, hx12]
    have hs13 : w13.heap.size = w12.heap.size := by rw [← hW13]; simp [World.setCell]
    have ho13 : ∀ k, k ≠ w9.heap.size → w13.heap[k]? = w12.heap[k]? := fun k hk => by rw [← hW13, Below.heap_setCell _ _ _ _ hk]
    obtain ⟨e0, e1, e2, e3, e4, -, -, -, -, -, hl13⟩ := cells_k5 hx13
    have hold13 : ∀ k, k < w9.heap.size → (Value.slice ca f.code.length kc).ownBlock ≠ some k → w13.heap[k]? = w9.heap[k]? := fun k hk hs => by rw [ho13 k (by omega), hk12 k (by omega) hs, hb911.block k hk]
    have hg13 : w13.heap[g]? = some (.cells cur 44 (0, 0)) := (hold13 g hglt (fun e => (hcown g e).2 rfl)).trans hgcur
    have hxb13 := (hold13 w4.heap.size hl9 (fun e => by have := (hcown _ e).1; omega)).trans hx9
    obtain ⟨v0, v1, fv0, fv1, hl13'⟩ := cells_k2 hxb13
    have rd := fun (j : Nat) (u : Value) (hj : j < 5) (hu : (fuCells f (.slice ca f.code.length kc))[j]? = some u) => row_cells hg13 htake hrp hj hu
    obtain ⟨s0, t0⟩ := rd 0 _ (by omega) rfl
    obtain ⟨s1, t1⟩ := rd 1 _ (by omega) rfl
    obtain ⟨s2, t2⟩ := rd 2 _ (by omega) rfl
    obtain ⟨s3, t3⟩ := rd 3 _ (by omega) rfl
    obtain ⟨s4, t4⟩ := rd 4 _ (by omega) rfl
    rw [Nat.add_zero] at s0 t0
    obtain ⟨w14, hW14⟩ : ∃ w14, ((((w13.setCell ⟨g, pre.length * 5, none⟩ (.int .i64 f.params)).setCell ⟨g, pre.length * 5 + 1, none⟩ (.int .i64 f.locals)).setCell ⟨g, pre.length * 5 + 2, none⟩ (.int .i64 f.zero)).setCell ⟨g, pre.length * 5 + 3, none⟩ (.int .i64 f.stack)).setCell ⟨g, pre.length * 5 + 4, none⟩ (.slice a12 (f.code.length + 1) c12) = w14 := ⟨_, rfl⟩
    have hs14 : w14.heap.size = w13.heap.size := by rw [← hW14]; simp [World.setCell]
    have ho14 : ∀ k, k ≠ g → w14.heap[k]? = w13.heap[k]? := fun k hk => by rw [← hW14, Below.heap_setCell _ _ _ _ hk, Below.heap_setCell _ _ _ _ hk, Below.heap_setCell _ _ _ _ hk, Below.heap_setCell _ _ _ _ hk, Below.heap_setCell _ _ _ _ hk]
    have hgl13 : g < w13.heap.size := (Array.getElem?_eq_some_iff.1 hg13).1
    obtain ⟨f', hf'⟩ : ∃ f' : Fu, f' = { f with code := f.code ++ [⟨6, 0⟩] } := ⟨_, rfl⟩
    have hfl' : f'.code.length = f.code.length + 1 := by rw [hf']; simp
    have hown12 : ∀ k, (Value.slice a12 (f.code.length + 1) c12).ownBlock = some k → ((Value.slice ca f.code.length kc).ownBlock = some k ∨ k = w11.heap.size) := fun k hk => by
      rcases hat12 with h | h
      · rw [h] at hk; exact Or.inl hk
      · rw [h] at hk; cases hk; exact Or.inr rfl
    have hO12 : OwnI w12 0 (.slice a12 (f.code.length + 1) c12) f'.code := by
      show w12.ownsRow 0 _ _ _ f'.code.length (f'.code.flatMap inCells)
      rw [hfl', hf']
      show w12.ownsRow 0 _ _ _ _ ((f.code ++ [(⟨6, 0⟩ : In)]).flatMap inCells)
      rw [List.flatMap_append]
      exact ho12
    have hO14 : OwnI w14 0 (.slice a12 f'.code.length c12) f'.code := by
      rw [hfl']
      refine hO12.since (fun j hj => ?_)
      rcases hown12 j hj with h | h
      · have := hcown j h
        rw [ho14 j this.2, ho13 j (by omega)]
      · rw [ho14 j (by omega), ho13 j (by omega)]
    have hrng' : ∀ i ∈ f'.code, InR i.op ∧ InR i.a := fun i hi => by
      rw [hf'] at hi
      rcases List.mem_append.1 hi with hi | hi
      · exact hfr9.rng i hi
      · simp at hi; subst hi; unfold InR; simp
    have hfn14 : IsFn (fun k => k ≠ w4.heap.size) w14 f' (.slice a12 f'.code.length c12) := by
      refine ⟨?_, ?_, ?_, ?_, hO14.is hrng' (fun k hk => ?_)⟩
      rotate_left 4
      · rw [hfl'] at hk
        rcases hown12 k hk with h | h
        · have := (hcown k h).1; show k ≠ w4.heap.size; omega
        · show k ≠ w4.heap.size; omega
      · rw [hf']; exact hfr9.nums.1
      · rw [hf']; exact hfr9.nums.2.1
      · rw [hf']; exact hfr9.nums.2.2.1
      · rw [hf']; exact hfr9.nums.2.2.2
    have hall14 : AllFu (fun k => k ≠ w4.heap.size) w14 pre rp := (hfr9.all.since (w' := w14) ⟨by omega, fun k hk hl => by
      rw [ho14 k (fun e => hk.2.1 (by rw [e]; rfl))]
      exact hold13 k hl hk.2.2⟩).base (fun k hk _ => by have := hk.1.2; show k ≠ w4.heap.size; omega)
    have hW14' : ((((w13.setCell ⟨g, pre.length * 5, none⟩ (.int .i64 f'.params)).setCell ⟨g, pre.length * 5 + 1, none⟩ (.int .i64 f'.locals)).setCell ⟨g, pre.length * 5 + 2, none⟩ (.int .i64 f'.zero)).setCell ⟨g, pre.length * 5 + 3, none⟩ (.int .i64 f'.stack)).setCell ⟨g, pre.length * 5 + 4, none⟩ (.slice a12 f'.code.length c12) = w14 := by rw [hfl', hf']; exact hW14
    obtain ⟨hfus14, hfpre14⟩ := over_row (B := fun k => k ≠ w4.heap.size) hg13 rfl hcap hcm hcsz htake rfl hrp (by show g ≠ w4.heap.size; omega) hW14' hall14 hfn14
    have hG14 : Gv P w14 (.slice (some ⟨g7, 0, none⟩) (m.consts.length + 1) c7) (m.consts ++ [vTrue]) := hG9.since ⟨by omega, fun k hk hl => by
      have hk' : k ≠ g ∧ (Value.slice ca f.code.length kc).ownBlock ≠ some k := by
        rcases (hP k).1 hk with h | h
        · exact ⟨by omega, fun e => by have := (hcown k e).1; omega⟩
        · exact ⟨by omega, fun e => by have := (hcown k e).1; omega⟩
      rw [ho14 k hk'.1]
      exact hold13 k hl hk'.2⟩
    have hfl2 : (pre ++ [f']).length = m.funcs.length := by rw [hnl]; simp
    have hmf : ∀ h ∈ pre, h ∈ m.funcs := fun h hh => by rw [hpf]; exact List.mem_append_left _ hh
    have hr2 : Run ⟨m.consts ++ [vTrue], pre ++ [f']⟩ states := by rw [hf']; exact hr1.pop hpf (by omega)
    have hV14 := hVr Tru ⟨m.consts ++ [vTrue], pre ++ [f']⟩ (some ⟨g7, 0, none⟩) (some ⟨g, 0, none⟩) c7 _ w14 states ⟨by show IsVs _ _ _ (.slice _ (m.consts ++ [vTrue]).length _); rw [hcl1]; exact hG14.vs.base (fun _ _ _ => trivial), by show IsFus _ _ _ (.slice _ (pre ++ [f']).length _); rw [hfl2, hnl]; exact hfus14.base (fun _ _ _ => trivial)⟩ ⟨hwt1, by show (m.consts ++ [vTrue]).length ≤ _; omega, by show (pre ++ [f']).length ≤ _; omega, fun h hh => by
      rcases List.mem_append.1 hh with hh | hh
      · exact hfit.kl h (hmf h hh)
      · simp at hh; subst hh; omega⟩ hst
    rw [vfy_ok hr2] at hV14
    simp only [hcl1, hfl2] at hV14
    have hx14f := (ho14 _ (by omega)).trans hx13
    obtain ⟨i0, i1, i2, i3, i4, -, -, -, -, -, hl14⟩ := cells_k5 hx14f
    have hxb14 := (ho14 _ (by omega)).trans hxb13
    obtain ⟨j0, j1, fj0, fj1, hl14b⟩ := cells_k2 hxb14
    have hle3 : (f.code.length : Int) + 1 ≤ 16384 := by omega
    have hgl12 : g < w12.heap.size := by omega
    obtain ⟨v0', v1', -, -, -⟩ := cells_k2 ((hb911.block _ hl9).trans hx9)
    obtain ⟨b0', b1', b2', b3', b4', -, -, -, -, -, hl11'⟩ := cells_k5 ((hb11.block _ hl10).trans hx10)
    have hVf : ∀ w15, Below w14.heap.size w14 w15 → ∀ w16, w15.setCell ⟨w4.heap.size, 1, none⟩ (.slice (some ⟨g, 0, none⟩) pre.length fc) = w16 → Calls Try.prog 11 #[.agg #[.slice (some ⟨g7, 0, none⟩) (m.consts.length + 1) c7, .slice (some ⟨g, 0, none⟩) pre.length fc], .int .i64 states] w16 fun e w' => e = .returned (.int .i64 0) ∧ Below w16.heap.size w16 w' := fun w15 hb w16 h16 => by
      have hs15 := hb.size
      have hS16 : ∀ k, k ≠ w4.heap.size → k < w14.heap.size → w16.heap[k]? = w14.heap[k]? := fun k hk hl => by rw [← h16, Below.heap_setCell _ _ _ _ hk]; exact hb.block k hl
      have hz16 : w14.heap.size ≤ w16.heap.size := by rw [← h16]; simpa [World.setCell] using hs15
      have hV := hVr Tru ⟨m.consts ++ [vTrue], pre⟩ (some ⟨g7, 0, none⟩) (some ⟨g, 0, none⟩) c7 fc w16 states ⟨by
        show IsVs _ _ _ (.slice _ (m.consts ++ [vTrue]).length _)
        rw [hcl1]
        exact ((hG14.since ⟨hz16, fun k hk hl => hS16 k (by rcases (hP k).1 hk with h | h <;> omega) hl⟩).vs).base (fun _ _ _ => trivial), (hfpre14.since ⟨hz16, fun k hk hl => hS16 k hk hl⟩).base (fun _ _ _ => trivial)⟩ ⟨hwt1, by show (m.consts ++ [vTrue]).length ≤ _; omega, by show pre.length ≤ _; omega, fun h hh => hfit.kl h (hmf h hh)⟩ hst
      rw [vfy_ok (hr1.less hpf)] at hV
      simp only [hcl1] at hV
      exact hV
    have hB14 : Below w.heap.size w w14 := by
      have hB9w := hBf w9 hB9
      have hb12 : Below w.heap.size w11 w12 := (Below.refl _ _).grown hgr12 (by have := hB9w.size; omega) (fun k hk => by have := (hcown k hk).1; omega)
      have h13 : Below w.heap.size w w13 := by
        rw [← hW13]
        exact ((hB9w.trans (hb911.mono hB9w.size)).trans hb12).setCell (p := ⟨w9.heap.size, 4, none⟩) hB9w.size _
      have hgw : w.heap.size ≤ g := by omega
      rw [← hW14]
      exact ((((h13.setCell (p := ⟨g, pre.length * 5, none⟩) hgw _).setCell (p := ⟨g, pre.length * 5 + 1, none⟩) hgw _).setCell (p := ⟨g, pre.length * 5 + 2, none⟩) hgw _).setCell (p := ⟨g, pre.length * 5 + 3, none⟩) hgw _).setCell (p := ⟨g, pre.length * 5 + 4, none⟩) hgw _
    have hpc : (pre.length : Int) ≤ (fc : Int) := by omega
    have hx4w : w.heap.size ≤ w4.heap.size := by omega
    clear hx10 hx11 hx12 hx13 hxb13 hx9 hx8 hzz hG9 hO11 ho12 hO12 hO14 hfn14 hall14 hfus14 hgr12 hat12 hfr4 hfr9 hgcur hg13 hk8 hk12 hold13 ho8 hW14' hfus8 hGf hGf5 hGf8 hGfc hx14f hG14 hfpre14
    clear hs8 hs10 hs13 hs14 hnl hfl2 hcl1 hfl' hf' hpf hrp hcsz htake ho13 ho14 hown12 hrng' hmf hr2 hr1 hr hsm hfit hwt1 hcown rc rd
    go_wp2_with (at_builtin; refine Lib.wpList_append_run _ rfl _ _ 42 42 rfl _ _ rfl rfl _ _ hr12 ?_; clear hr12)
    refine hV14.mono ?_
    rintro e w15 ⟨rfl, hb15⟩
    have hxb15 := (hb15.block _ hl14b).trans hxb14
    obtain ⟨n0, n1', fn0, fn1, hl15⟩ := cells_k2 hxb15
    obtain ⟨w16, hW16⟩ : ∃ w16, w15.setCell ⟨w4.heap.size, 1, none⟩ (.slice (some ⟨g, 0, none⟩) pre.length fc) = w16 := ⟨_, rfl⟩
    have hV16 := hVf w15 hb15 w16 hW16
    have hx16 : w16.heap[w4.heap.size]? = some (.cells #[.slice (some ⟨g7, 0, none⟩) (m.consts.length + 1) c7, .slice (some ⟨g, 0, none⟩) pre.length fc] 25 (0, 0)) := by rw [← hW16]; simp [World.setCell, Array.getElem?_modify, hxb15]
    obtain ⟨q0, q1, -, -, hl16⟩ := cells_k2 hx16
    have hB16 : Below w.heap.size w w16 := by
      rw [← hW16]
      exact (hB14.trans (hb15.mono hB14.size)).setCell (p := ⟨w4.heap.size, 1, none⟩) hx4w _
    clear hV14 hVf hx16 hxb15 hxb14
    clear hWz hW10 hW11 hW13 hW14 z0 z1 z2 z3 z4 y0 y1 y2 y3 y4 b0 b1 b2 b3 b4 b0' b1' b2' b3' b4' d0 d1 d2 d3 d4 e0 e1 e2 e3 e4 s0 s1 s2 s3 s4 t0 t1 t2 t3 t4 r0 r1' r2 r3 r4 v0 v1 v0' v1' u90 u91 j0 j1 i0 i1 i2 i3 i4
    go_wp2_with fail
    refine hV16.mono ?_
    rintro e w17 ⟨rfl, hb17⟩
    have hpost : Below w.heap.size w w17 := hB16.trans (hb17.mono hB16.size)
    clear hV16
    go_wp2
    go_ret
    exact ⟨rfl, hpost⟩
end Go.Proofs.Ytndahpcjkcihlaa
