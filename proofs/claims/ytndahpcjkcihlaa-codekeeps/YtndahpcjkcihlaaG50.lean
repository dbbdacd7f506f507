/- Texts of ours, joined: Jab. -/
import Derived.Test.YtndahpcjkcihlaaG49
import Derived.Test.YtndahpcjkcihlaaG40
import Derived.Test.YtndahpcjkcihlaaG38
/- What is handed in stays, what is answered is its own: the statement's walk. -/
namespace Go.Proofs.Ytndahpcjkcihlaa
open Go.RowKit
set_option linter.unusedVariables false
set_option linter.unusedSimpArgs false
attribute [local go_sem ↓] Go.wp_at_zero Go.wp_at_succ

/-- A truth's box, written twice. -/
theorem boolbox (w : World) : ∃ wa wt wtf wf wft, w.drew.alloc (.cells #[.bool false] 4) = wa ∧ wa.setCell ⟨w.heap.size, 0, none⟩ (.bool true) = wt ∧ wt.setCell ⟨w.heap.size, 0, none⟩ (.bool false) = wtf ∧ wa.setCell ⟨w.heap.size, 0, none⟩ (.bool false) = wf ∧ wf.setCell ⟨w.heap.size, 0, none⟩ (.bool true) = wft ∧
    wa.cell? ⟨w.heap.size, 0, none⟩ = some (.bool false) ∧ wa.frozen? ⟨w.heap.size, 0, none⟩ = false ∧ w.heap.size < wa.heap.size ∧ wt.cell? ⟨w.heap.size, 0, none⟩ = some (.bool true) ∧ wt.frozen? ⟨w.heap.size, 0, none⟩ = false ∧ w.heap.size < wt.heap.size ∧ wtf.cell? ⟨w.heap.size, 0, none⟩ = some (.bool false) ∧ w.heap.size < wtf.heap.size ∧ wf.cell? ⟨w.heap.size, 0, none⟩ = some (.bool false) ∧ wf.frozen? ⟨w.heap.size, 0, none⟩ = false ∧ w.heap.size < wf.heap.size ∧ wft.cell? ⟨w.heap.size, 0, none⟩ = some (.bool true) ∧ w.heap.size < wft.heap.size ∧ Below w.heap.size w wtf ∧ Below w.heap.size w wft := by
  obtain ⟨wa, hWa⟩ : ∃ wa, w.drew.alloc (.cells #[.bool false] 4) = wa := ⟨_, rfl⟩
  have hx : wa.heap[w.heap.size]? = some (.cells #[.bool false] 4 (0, 0)) := by rw [← hWa]; exact heap_new _ _
  have hb : Below w.heap.size w wa := by rw [← hWa]; exact ((Below.refl _ _).drew).alloc (Nat.le_refl _) _
  have hl := (Array.getElem?_eq_some_iff.1 hx).1
  refine ⟨wa, _, _, _, _, hWa, rfl, rfl, rfl, rfl, ?_, ?_, hl, ?_, ?_, ?_, ?_, ?_, ?_, ?_, ?_, ?_, ?_, ?_, ?_⟩
  all_goals first
    | (simp [World.cell?, World.frozen?, World.setCell, Array.getElem?_modify, hx]; done)
    | (simpa [World.setCell] using hl)
    | exact (hb.setCell (p := ⟨w.heap.size, 0, none⟩) (Nat.le_refl _) _).setCell (p := ⟨w.heap.size, 0, none⟩) (Nat.le_refl _) _
set_option maxRecDepth 100000 in
set_option maxHeartbeats 8000000 in
theorem keeps_done {B : Nat → Prop} {m : Md} {ac af : Option Addr} {cc cf : Nat} {w : World} (hm : IsMd B w m (.slice ac m.consts.length cc) (.slice af m.funcs.length cf)) (hz : SzM m) (states : Int) (hst : InR states) :
    Calls Try.prog 6 #[.agg #[.slice ac m.consts.length cc, .slice af m.funcs.length cf], .int .i64 states] w fun e w' => e = .returned (.bool true) ∧ Below w.heap.size w w' := by
  obtain ⟨w0, hW0, hb0, hl0, hx0⟩ := box2 w (.slice ac m.consts.length cc) (.slice af m.funcs.length cf) 25
  have hld : w.heap.size < w0.heap.size := by omega
  have hBf : ∀ wr, Below w0.heap.size w0 wr → Below w.heap.size w wr := fun wr hb => hb0.trans (hb.mono hb0.size)
  have hmb : ∀ wr, Below w0.heap.size w0 wr → wr.heap[w.heap.size]? = some (.cells #[.slice ac m.consts.length cc, .slice af m.funcs.length cf] 25 (0, 0)) := fun wr hb => (hb.block _ hld).trans hx0
  have hmW : IsMd (fun k => k < w.heap.size) w m (.slice ac m.consts.length cc) (.slice af m.funcs.length cf) := hm.base (fun k _ h => h)
  have hW := wake_ok w0
  clear hl0 hx0 hm
  go_enter Try.func6, Try.ntmps6
  go_wp2_with fail
  refine hW.mono ?_
  rintro e w1 ⟨rfl, hb1⟩
  obtain ⟨k0, k1, -, -, k2⟩ := cells_k2 (hmb w1 hb1)
  have hL := large13_any (hmW.below (hBf w1 hb1)) hz
  clear hW hW0
  go_wp2_with fail
  refine hL.mono ?_
  rintro e w2 ⟨⟨b, rfl, hb⟩, hb2⟩
  have hB2 : Below w0.heap.size w0 w2 := hb1.trans (hb2.mono hb1.size)
  have hbH : Hid (b = false → Small m) := hb
  clear hL k0 k1 hb
  cases b with
  | true =>
    have hpost := hBf w2 hB2
    clear hmW hz hmb hBf hbH
    go_wp2
    go_ret
    exact ⟨rfl, hpost⟩
  | false =>
  have hsm := hbH.out rfl
  have hfit := hsm.fit hz
  have hls := lst_small hsm
  have hc1 : csz m.consts ≤ 10000 := by have := hsm.c; omega
  have hc2 : fsz m.funcs ≤ 10000 := by have := hsm.f; omega
  obtain ⟨k0, k1, -, -, k3⟩ := cells_k2 (hmb w2 hB2)
  have hC := copy13_any (hmW.below (hBf w2 hB2)) hls hfit.cl hfit.fl hfit.kl
  clear hbH hsm hls hb2 hb1
  go_wp2_with fail
  refine hC.mono ?_
  rintro e w3 ⟨⟨ma, mc, mf, mg, mn, rfl, hG3, hF3, hn3, hn3'⟩, hb3⟩
  have hB3 : Below w0.heap.size w0 w3 := hB2.trans (hb3.mono hB2.size)
  have hmi3 : IsMd (fun k => w2.heap.size ≤ k ∧ k < w3.heap.size) w3 m (.slice ma m.consts.length mc) (.slice mf m.funcs.length mg) := ⟨hG3.vs.base (fun k hk hl => ⟨hk.1, hl⟩), hF3.fus.base (fun k hk hl => ⟨by have : mn ≤ k := hk; omega, hl⟩)⟩
  obtain ⟨wz, w4, hWz, hW4, hbz, hb4, -, hx4, hzz⟩ := zmbox w3 (.slice ma m.consts.length mc) (.slice mf m.funcs.length mg)
  obtain ⟨z0, z1, y0, y1, hlz⟩ := cells_k2 hzz
  obtain ⟨c0, c1, -, -, hl4⟩ := cells_k2 hx4
  have hs3 := hb3.size
  have hs4 := hb4.size
  have hB4 : Below w0.heap.size w0 w4 := hB3.trans (hb4.mono hB3.size)
  have hmi4 := hmi3.below hb4
  have hEl : Run m states → (encM m).length ≤ 800000 := fun hr => encM_len hr (okVs_w hmW.con (fun v hv => (ctype_shp (hr.con v hv)).1)) hc1 hc2
  have hE1 := lencode_any hmi4 hfit states (fun hr => by have := hEl hr; omega)
  clear hC k0 k1 hzz hG3 hF3
  go_wp2_with fail
  refine hE1.mono ?_
  rintro e w5 ⟨⟨a5, N5, c5, rfl, ho5⟩, hb5⟩
  have hs5 := hb5.size
  have hB5 : Below w0.heap.size w0 w5 := hB4.trans (hb5.mono hB4.size)
  have hmi5 := hmi4.below hb5
  have hx5 := (hb5.block _ hl4).trans hx4
  obtain ⟨d0, d1, -, -, hl5⟩ := cells_k2 hx5
  have hE2 := lencode_any hmi5 hfit states (fun hr => by have := hEl hr; omega)
  clear hE1 c0 c1 hWz hW4 z0 z1 y0 y1 hlz
  go_wp2_with fail
  refine hE2.mono ?_
  rintro e w6 ⟨⟨a6, N6, c6, rfl, ho6⟩, hb6⟩
  have hs6 := hb6.size
  have hB6 : Below w0.heap.size w0 w6 := hB5.trans (hb6.mono hB5.size)
  have hmi6 := hmi5.below hb6
  have hx6 := (hb6.block _ hl5).trans hx5
  obtain ⟨e0, e1, -, -, hl6⟩ := cells_k2 hx6
  obtain ⟨k0, k1, -, -, k6⟩ := cells_k2 (hmb w6 hB6)
  have hSm := same13_any (B := fun _ => True) (hmi6.base (fun k _ _ => trivial)) ((hmW.below (hBf w6 hB6)).base (fun k _ _ => trivial)) (fun f hf => by have := hfit.kl f hf; omega)
  clear hE2 d0 d1
  go_wp2_with fail
  refine hSm.mono ?_
  rintro e w7 ⟨rfl, hb7⟩
  have hs7 := hb7.size
  have hB7 : Below w0.heap.size w0 w7 := hB6.trans (hb7.mono hB6.size)
  clear hSm e0 e1 k0 k1 hmi3 hmi4 hmi5 hmi6 hx4 hx5 hx6
  by_cases hrun : Run m states
  rotate_left
  · have hee : encE m states = ([], 40) := by unfold encE; rw [if_neg hrun]
    rw [hee] at ho5 ⊢
    have hN : N5 = 0 := ho5.1
    subst hN
    have hpost := hBf w7 hB7
    clear hmW hz hmb hBf hrun hee ho5 ho6 hEl hfit hB2 hB3 hB4 hB5 hB6 hB7
    go_wp2
    go_ret
    exact ⟨rfl, hpost⟩
  have hee : encE m states = (encM m, 0) := by unfold encE; rw [if_pos hrun]
  rw [hee] at ho5 ho6 ⊢
  simp only at ho5 ho6
  have hlen := hEl hrun
  have hde : decR (encM m) states = (m, 0) := dec_enc hrun (okVs_w hmW.con (fun v hv => (ctype_shp (hrun.con v hv)).1))
  obtain ⟨bs, HB⟩ : ∃ bs, Hid (encM m = bs) := ⟨_, rfl⟩
  rw [HB.out] at ho5 ho6 hlen hde
  have hN6 : Hid (N6 = bs.length) := ho6.1
  have hb67 : IsB (fun k => w5.heap.size ≤ k ∧ k < w7.heap.size) w7 (.slice a6 N6 c6) bs := (ho6.keep hb7).isB.base (fun k hk hl => ⟨hk, hl⟩)
  have hbs7 := hb67
  rw [hN6.out] at hbs7
  have hcv := str_b hb67
  have hD1 := hdecode_any hbs7 (by omega) states
  rw [hde] at hD1
  rw [← hN6.out] at hD1
  have hbig5 := ho5.big
  have ho7 : OwnN w7 w4.heap.size a5 N5 c5 bs := (ho5.keep hb6).keep hb7
  have hbig7 := ho7.big
  have hclb : Hid (m.consts.length ≤ 900000) := hfit.cl
  have hflb : Hid (m.funcs.length ≤ 900000) := hfit.fl
  have hkl9 : Hid (∀ f ∈ m.funcs, f.code.length ≤ 9223372036854775807) := fun f hf => by have := hfit.kl f hf; omega
  clear hee hEl hc1 hc2 hfit hrun ho5 ho6 hbs7
  go_wp2_with fail
  refine hD1.mono ?_
  rintro e w8 ⟨⟨xa, xc, xf, xg, n1, rfl, hG8, hF8, hn8, hn8'⟩, hb8⟩
  simp only at hG8 hF8
  have hs8 := hb8.size
  have hB8 : Below w0.heap.size w0 w8 := hB7.trans (hb8.mono hB7.size)
  obtain ⟨wz, w9, hWz, hW9, hbz9, hb9, -, hx9, hzz⟩ := zmbox w8 (.slice xa m.consts.length xc) (.slice xf m.funcs.length xg)
  obtain ⟨z0, z1, y0, y1, hlz⟩ := cells_k2 hzz
  have hl9 : w8.heap.size < w9.heap.size := (Array.getElem?_eq_some_iff.1 hx9).1
  have hb89 : Below w7.heap.size w7 w9 := hb8.trans (hb9.mono hs8)
  have hbs9 := hb67.since (Since.of_below hb89)
  rw [hN6.out] at hbs9
  have hD2 := hdecode_any hbs9 (by omega) states
  rw [hde] at hD2
  rw [← hN6.out] at hD2
  clear hD1 hcv hbs9 hzz
  go_wp2_with fail
  refine hD2.mono ?_
  rintro e w10 ⟨⟨ya, yc, yf, yg, n2, rfl, hG10, hF10, hn10, hn10'⟩, hb10⟩
  simp only at hG10 hF10
  have hs10 := hb10.size
  have hmy10 : IsMd (From w9.heap.size) w10 m (.slice ya m.consts.length yc) (.slice yf m.funcs.length yg) := ⟨hG10.vs.base (fun k hk _ => hk.1), hF10.1.fus.base (fun k hk _ => by show w9.heap.size ≤ k; have : n2 ≤ k := hk; omega)⟩
  clear hG10 hF10 hD2 hWz hW9 z0 z1 y0 y1 hlz hbz hbz9
  obtain ⟨wz, w11, hWz, hW11, hbz11, hb11, -, hx11, hzz⟩ := zmbox w10 (.slice ya m.consts.length yc) (.slice yf m.funcs.length yg)
  obtain ⟨z0, z1, y0, y1, hlz⟩ := cells_k2 hzz
  have hl11 : w10.heap.size < w11.heap.size := (Array.getElem?_eq_some_iff.1 hx11).1
  clear hzz
  -- what stays
  obtain ⟨K, hK⟩ : ∃ K : Nat → Prop, Hid (∀ k, K k ↔ (k < w4.heap.size ∨ (w5.heap.size ≤ k ∧ k < w7.heap.size) ∨ w8.heap.size ≤ k)) := ⟨_, fun k => Iff.rfl⟩
  have hb9_11 : Below w9.heap.size w9 w11 := hb10.trans (hb11.mono hs10)
  have hb7_11 : Below w7.heap.size w7 w11 := hb89.trans (hb9_11.mono (by omega))
  have hb8_11 : Below w8.heap.size w8 w11 := hb9.trans (hb9_11.mono (by omega))
  have hB11 : Below w0.heap.size w0 w11 := hB7.trans (hb7_11.mono hB7.size)
  have hs04 : w0.heap.size ≤ w4.heap.size := hB4.size
  have hs9 : w8.heap.size ≤ w9.heap.size := by omega
  have hx11X : w11.heap[w8.heap.size]? = some (.cells #[.slice xa m.consts.length xc, .slice xf m.funcs.length xg] 25 (0, 0)) := (hb9_11.block _ hl9).trans hx9
  have hbelK : ∀ wr, Fr K w11 wr → Below w4.heap.size w11 wr := fun wr h => h.below (by omega) (fun k hk => (hK.out k).2 (Or.inl hk))
  have hXb : ∀ wr, Fr K w11 wr → wr.heap[w8.heap.size]? = some (.cells #[.slice xa m.consts.length xc, .slice xf m.funcs.length xg] 25 (0, 0)) := fun wr h => (h.block _ ((hK.out _).2 (Or.inr (Or.inr (Nat.le_refl _)))) (by omega)).trans hx11X
  have hend : ∀ wr, Fr K w11 wr → IsB (fun k => w5.heap.size ≤ k ∧ k < w7.heap.size) wr (.slice a6 N6 c6) bs ∧ wr.heap[w10.heap.size]? = some (.cells #[.slice ya m.consts.length yc, .slice yf m.funcs.length yg] 25 (0, 0)) ∧ wr.heap[w.heap.size]? = some (.cells #[.slice ac m.consts.length cc, .slice af m.funcs.length cf] 25 (0, 0)) ∧ IsMd (From w9.heap.size) wr m (.slice ya m.consts.length yc) (.slice yf m.funcs.length yg) ∧ IsMd (fun k => k < w.heap.size) wr m (.slice ac m.consts.length cc) (.slice af m.funcs.length cf) ∧ Below w.heap.size w wr := fun wr h => by
    have hbw : Below w0.heap.size w0 wr := hB11.trans ((hbelK wr h).mono hs04)
    refine ⟨?_, ?_, hmb wr hbw, ?_, hmW.below (hBf wr hbw), hBf wr hbw⟩
    · exact (hb67.since (Since.of_below hb7_11)).since ⟨h.size, fun k hk hl => h.block k ((hK.out k).2 (Or.inr (Or.inl hk))) hl⟩
    · exact (h.block _ ((hK.out _).2 (Or.inr (Or.inr (by omega)))) hl11).trans hx11
    · exact (hmy10.below hb11).since ⟨h.size, fun k hk hl => h.block k ((hK.out k).2 (Or.inr (Or.inr (by have : w9.heap.size ≤ k := hk; omega)))) hl⟩
  -- what is written over
  have hA11 : N5 = 0 ∨ ∃ ga, a5 = some ⟨ga, 0, none⟩ ∧ ¬ K ga ∧ ga < n1 ∧ Big w11 ga N5 := by
    rcases hbig7 with h0 | ⟨g, e1, e2, e3, e4⟩
    · exact Or.inl h0
    · rcases hbig5 with h0 | ⟨g', e1', e2', e3', e4'⟩
      · exact Or.inl h0
      · rw [e1] at e1'
        simp only [Option.some.injEq, Addr.mk.injEq] at e1'
        obtain ⟨rfl, -⟩ := e1'
        exact Or.inr ⟨g, e1, by rw [hK.out]; omega, by omega, e4.keep (hb7_11.block _ e3)⟩
  have hC11 : m.consts.length = 0 ∨ ∃ gc, xa = some ⟨gc, 0, none⟩ ∧ ¬ K gc ∧ gc < n1 ∧ Big w11 gc (m.consts.length * 4) := by
    rcases hG8.big rfl with h0 | ⟨g, e1, e2, e3, e4⟩
    · exact Or.inl h0
    · exact Or.inr ⟨g, e1, by rw [hK.out]; omega, e2.2, e4.keep (hb8_11.block _ e3)⟩
  have hF11 : XRow K n1 xf m.funcs.length 0 w11 := by
    exact (GO.row (acc := m.funcs) (fc := xg) hF8.2 rfl (fun k hk hl => by rw [hK.out]; omega)).keep hb8_11
  have hN5b : N5 ≤ 900000 := by have := ho7.1; omega
  have hcl : m.consts.length ≤ 900000 := hclb.out
  have hfl : m.funcs.length ≤ 900000 := hflb.out
  have hst11 : Hid (Fr K w11 w11 ∧ (N5 = 0 ∨ ∃ ga, a5 = some ⟨ga, 0, none⟩ ∧ ¬ K ga ∧ ga < n1 ∧ Big w11 ga N5) ∧ (m.consts.length = 0 ∨ ∃ gc, xa = some ⟨gc, 0, none⟩ ∧ ¬ K gc ∧ gc < n1 ∧ Big w11 gc (m.consts.length * 4)) ∧ XRow K n1 xf m.funcs.length 0 w11) := ⟨Fr.refl _ _, hA11, hC11, hF11⟩
  have hfsH : Hid (∀ f ∈ m.funcs, f.code.length ≤ 9223372036854775807) := hkl9.out
  clear hA11 hC11 hF11 hbig5 hbig7 ho7 hG8 hF8 hmy10 hx9 hx11 hx11X hb67 hbelK hB11 hb7_11 hb8_11 hb9_11 hB8 hB7 hB6 hB5 hB4 hB3 hB2 hb3 hb4 hb5 hb6 hb7 hb8 hb9 hb10 hb11 hb89 hmb hmW hBf hde HB hlen hs3 hs4 hs5 hs6 hs7 hs8 hs9 hs10 hs04 hn3 hn3' hn8 hn8' hn10 hn10' hl4 hl5 hl6 hl9 hl11 hz hst hN6 hK hb0
  go_wp2_with fail
  clear hWz hW11 z0 z1 y0 y1 hlz
  go_loopg [62] N5 (fun gk i wr => ∃ q : Nat, q ≤ N5 ∧ gk = N5 - q ∧ i = .int .i64 q ∧ Hid (Fr K w11 wr ∧ (N5 = 0 ∨ ∃ ga, a5 = some ⟨ga, 0, none⟩ ∧ ¬ K ga ∧ ga < n1 ∧ Big wr ga N5) ∧ (m.consts.length = 0 ∨ ∃ gc, xa = some ⟨gc, 0, none⟩ ∧ ¬ K gc ∧ gc < n1 ∧ Big wr gc (m.consts.length * 4)) ∧ XRow K n1 xf m.funcs.length 0 wr))
  case atStart => exact ⟨0, Nat.zero_le _, rfl, rfl, hst11⟩
  case round =>
    obtain ⟨q, hq, rfl, rfl, HI⟩ := hrel
    obtain ⟨hFr, hA, hC, hF⟩ := HI.out
    clear HI hst11
    by_cases hlt : q < N5
    · have hltI : (q : Int) < (N5 : Int) := by omega
      have hq0 : (0 : Int) ≤ (q : Int) := by omega
      rcases hA with h0 | ⟨ga, rfl, ga1, ga2, ga3⟩
      · omega
      obtain ⟨u, c0, f0, hgl⟩ := ga3.cell hlt
      have hnew : Hid (Fr K w11 (wr.setCell ⟨ga, q, none⟩ (.int .u8 9)) ∧ (N5 = 0 ∨ ∃ ga', (some ⟨ga, 0, none⟩ : Option Addr) = some ⟨ga', 0, none⟩ ∧ ¬ K ga' ∧ ga' < n1 ∧ Big (wr.setCell ⟨ga, q, none⟩ (.int .u8 9)) ga' N5) ∧ (m.consts.length = 0 ∨ ∃ gc, xa = some ⟨gc, 0, none⟩ ∧ ¬ K gc ∧ gc < n1 ∧ Big (wr.setCell ⟨ga, q, none⟩ (.int .u8 9)) gc (m.consts.length * 4)) ∧ XRow K n1 xf m.funcs.length 0 (wr.setCell ⟨ga, q, none⟩ (.int .u8 9))) := by
        refine ⟨hFr.trans (Fr.set ga1 _ _), Or.inr ⟨ga, rfl, ga1, ga2, ga3.set _ _ _⟩, ?_, hF.set ga2 _ _⟩
        rcases hC with h0 | ⟨gc, g1, g2, g3, g4⟩
        · exact Or.inl h0
        · exact Or.inr ⟨gc, g1, g2, g3, g4.set _ _ _⟩
      clear hFr hC hF hend hXb ga3
      go_wp2_with fail
      go_roundg (N5 - (q + 1))
      case measure => omega
      case rel => exact ⟨q + 1, by omega, rfl, by go_num, hnew⟩
    have hltI : ¬ (q : Int) < (N5 : Int) := by omega
    have hCH : Hid (Fr K w11 wr ∧ (m.consts.length = 0 ∨ ∃ gc, xa = some ⟨gc, 0, none⟩ ∧ ¬ K gc ∧ gc < n1 ∧ Big wr gc (m.consts.length * 4)) ∧ XRow K n1 xf m.funcs.length 0 wr) := ⟨hFr, hC, hF⟩
    clear hFr hA hC hF
    go_wp2_with fail
    obtain ⟨wa, wt, wtf, wf, wft, hWa, hWt, hWtf, hWf, hWft, ca, fa, la, cts, fts, lt1, ctf, ltf, cf1, ff1, lf1, cft, lft, hbtf, hbft⟩ := boolbox wr
    refine wpE_begin (S := fun _ => True) (N := fun _ => true) (by kernel_rfl) ?_
    refine wpE_one (i := 0) (by kernel_rfl) rfl rfl (fun K' hK' => ?_)
    go_simp
    refine hK' _ _ (fun _ => trivial) ?_
    clear hK' K'
    try simp only [Act.put, List.setIfInBounds_toArray, List.set_cons_zero, List.set_cons_succ]
    refine wpE_two (i := 1) (j := 2) (by kernel_rfl) rfl rfl rfl rfl (fun K' hK' => ?_) (fun K' hK' => ?_)
    · go_simp
      refine hK' _ _ (fun _ => trivial) ?_
      clear hK' K'
      try simp only [Act.put, List.setIfInBounds_toArray, List.set_cons_zero, List.set_cons_succ]
      refine wpE_one (i := 2) (by kernel_rfl) rfl rfl (fun K' hK' => ?_)
      go_simp
      refine hK' _ _ (fun _ => trivial) ?_
      clear hK' K'
      try simp only [Act.put, List.setIfInBounds_toArray, List.set_cons_zero, List.set_cons_succ]
      refine wpE_one (i := 3) (by kernel_rfl) rfl rfl (fun K' hK' => ?_)
      go_simp
      refine hK' _ _ (fun _ => trivial) ?_
      clear hK' K'
      try simp only [Act.put, List.setIfInBounds_toArray, List.set_cons_zero, List.set_cons_succ]
      refine wpE_done (by kernel_rfl) ?_
      have hFrW : Fr K w11 wtf := hCH.out.1.trans (Fr.of_below hbtf)
      have hFW : XRow K n1 xf m.funcs.length 0 wtf := hCH.out.2.2.keep hbtf
      have hCW : (m.consts.length = 0 ∨ ∃ gc, xa = some ⟨gc, 0, none⟩ ∧ ¬ K gc ∧ gc < n1 ∧ Big wtf gc (m.consts.length * 4)) := by
        rcases hCH.out.2.1 with h0 | ⟨gc, g1, g2, g3, g4⟩
        · exact Or.inl h0
        · exact Or.inr ⟨gc, g1, g2, g3, g4.keep (hbtf.block _ g4.lt)⟩
      clear hCH hWa hWt hWtf hWf hWft ca fa cts fts ctf cf1 ff1 cft la lt1 lf1 ltf lft hbft
      simp only [Exit.inBlock, Exit.then]
      refine ‹∀ (a : Act) (w : World), _ → _› _ _ ?_
      clear hbtf
      obtain ⟨k0, k1, -, -, hlX⟩ := cells_k2 (hXb wtf hFrW)
      have hst2 : Hid (Fr K w11 wtf ∧ (m.consts.length = 0 ∨ ∃ gc, xa = some ⟨gc, 0, none⟩ ∧ ¬ K gc ∧ gc < n1 ∧ Big wtf gc (m.consts.length * 4)) ∧ XRow K n1 xf m.funcs.length 0 wtf) := ⟨hFrW, hCW, hFW⟩
      clear hFrW hCW hFW
      go_wp2_with fail
      clear k0 k1
      go_loopg [83] m.consts.length (fun gk i wr => ∃ q : Nat, q ≤ m.consts.length ∧ gk = m.consts.length - q ∧ i = .int .i64 q ∧ Hid (Fr K w11 wr ∧ (m.consts.length = 0 ∨ ∃ gc, xa = some ⟨gc, 0, none⟩ ∧ ¬ K gc ∧ gc < n1 ∧ Big wr gc (m.consts.length * 4)) ∧ XRow K n1 xf m.funcs.length 0 wr))
      case atStart => exact ⟨0, Nat.zero_le _, rfl, rfl, hst2⟩
      case round =>
        obtain ⟨q, hq, rfl, rfl, HI⟩ := hrel
        obtain ⟨hFr, hC, hF⟩ := HI.out
        clear HI hst2
        obtain ⟨k0, k1, -, -, hlX⟩ := cells_k2 (hXb wr hFr)
        by_cases hlt : q < m.consts.length
        · have hltI : (q : Int) < (m.consts.length : Int) := by omega
          have hq0 : (0 : Int) ≤ (q : Int) := by omega
          rcases hC with h0 | ⟨gc, rfl, g2, g3, g4⟩
          · omega
          obtain ⟨u0, c0, fz0, hgl⟩ := g4.cell (j := q * 4) (by omega)
          obtain ⟨u1, c1, fz1, -⟩ := g4.cell (j := q * 4 + 1) (by omega)
          obtain ⟨u2, c2, fz2, -⟩ := g4.cell (j := q * 4 + 2) (by omega)
          obtain ⟨u3, c3, fz3, -⟩ := g4.cell (j := q * 4 + 3) (by omega)
          have hnew : Hid (Fr K w11 ((((wr.setCell ⟨gc, q * 4, none⟩ (.int .i64 0)).setCell ⟨gc, q * 4 + 1, none⟩ (.int .i64 0)).setCell ⟨gc, q * 4 + 2, none⟩ (.string ⟨#[]⟩)).setCell ⟨gc, q * 4 + 3, none⟩ (.slice none 0 0)) ∧ (m.consts.length = 0 ∨ ∃ gc', (some ⟨gc, 0, none⟩ : Option Addr) = some ⟨gc', 0, none⟩ ∧ ¬ K gc' ∧ gc' < n1 ∧ Big ((((wr.setCell ⟨gc, q * 4, none⟩ (.int .i64 0)).setCell ⟨gc, q * 4 + 1, none⟩ (.int .i64 0)).setCell ⟨gc, q * 4 + 2, none⟩ (.string ⟨#[]⟩)).setCell ⟨gc, q * 4 + 3, none⟩ (.slice none 0 0)) gc' (m.consts.length * 4)) ∧ XRow K n1 xf m.funcs.length 0 ((((wr.setCell ⟨gc, q * 4, none⟩ (.int .i64 0)).setCell ⟨gc, q * 4 + 1, none⟩ (.int .i64 0)).setCell ⟨gc, q * 4 + 2, none⟩ (.string ⟨#[]⟩)).setCell ⟨gc, q * 4 + 3, none⟩ (.slice none 0 0))) :=
            ⟨(((hFr.trans (Fr.set g2 _ _)).trans (Fr.set g2 _ _)).trans (Fr.set g2 _ _)).trans (Fr.set g2 _ _), Or.inr ⟨gc, rfl, g2, g3, (((g4.set _ _ _).set _ _ _).set _ _ _).set _ _ _⟩, (((hF.set g3 _ _).set g3 _ _).set g3 _ _).set g3 _ _⟩
          clear hFr hF hend hXb g4
          go_wp2_with fail
          go_roundg (m.consts.length - (q + 1))
          case measure => omega
          case rel => exact ⟨q + 1, by omega, rfl, by go_num, hnew⟩
        have hltI : ¬ (q : Int) < (m.consts.length : Int) := by omega
        have hFrW := hFr
        have hFW := hF
        clear hFr hC hF k0 k1
        obtain ⟨k0, k1, -, -, hlX⟩ := cells_k2 (hXb wr hFrW)
        have hst3 : Hid (Fr K w11 wr ∧ XRow K n1 xf m.funcs.length 0 wr) := ⟨hFrW, hFW⟩
        clear hFrW hFW
        go_wp2_with fail
        clear k0 k1
        go_loopg [95] m.funcs.length (fun gk i wr => ∃ q : Nat, q ≤ m.funcs.length ∧ gk = m.funcs.length - q ∧ i = .int .i64 q ∧ Hid (Fr K w11 wr ∧ XRow K n1 xf m.funcs.length q wr))
        case atStart => exact ⟨0, Nat.zero_le _, rfl, rfl, hst3⟩
        case round =>
          obtain ⟨q, hq, rfl, rfl, HI⟩ := hrel
          obtain ⟨hFr, hF⟩ := HI.out
          clear HI hst3
          obtain ⟨k0, k1, -, -, hlX⟩ := cells_k2 (hXb wr hFr)
          by_cases hlt : q < m.funcs.length
          rotate_left
          · have hltI : ¬ (q : Int) < (m.funcs.length : Int) := by omega
            obtain ⟨hB, hY, hM, hy, hm', hbw⟩ := hend wr hFr
            have hcv := str_b hB
            obtain ⟨y0, y1, -, -, hly⟩ := cells_k2 hY
            obtain ⟨o0, o1, -, -, hlo⟩ := cells_k2 hM
            have hSm := same13_any (B := fun _ => True) (hy.base (fun k _ _ => trivial)) (hm'.base (fun k _ _ => trivial)) hfsH.out
            clear hend hXb hFr hF hB hY hM hy hm' hfsH k0 k1
            go_wp2_with fail
            refine hSm.mono ?_
            rintro e wE ⟨rfl, hbE⟩
            clear hSm hcv y0 y1 o0 o1
            go_wp2
            go_ret
            exact ⟨rfl, hbw.trans (hbE.mono hbw.size)⟩
          have hltI : (q : Int) < (m.funcs.length : Int) := by omega
          have hq0 : (0 : Int) ≤ (q : Int) := by omega
          rcases hF.it with h0 | ⟨gf, rfl, f2, f3, f4, f5⟩
          · omega
          obtain ⟨ka, L, kc, hk, hL9, hrow⟩ := f5 q (Nat.le_refl _) hlt
          have hgl := f4.lt
          have hst4 : Hid (Fr K w11 wr ∧ XRow K n1 (some ⟨gf, 0, none⟩) m.funcs.length q wr ∧ wr.cell? ⟨gf, q * 5 + 4, none⟩ = some (.slice ka L kc) ∧ Big wr gf (m.funcs.length * 5) ∧ (L = 0 ∨ ∃ gk, ka = some ⟨gk, 0, none⟩ ∧ ¬ K gk ∧ gk ≠ gf ∧ Big wr gk (L * 2))) := ⟨hFr, hF, hk, f4, hrow⟩
          clear hFr hF f4 f5 hrow
          go_wp2_with fail
          clear k0 k1 hk
          go_loopg [105] L (fun gn j wr' => ∃ p : Nat, p ≤ L ∧ gn = L - p ∧ j = .int .i64 p ∧ Hid (Fr K w11 wr' ∧ XRow K n1 (some ⟨gf, 0, none⟩) m.funcs.length q wr' ∧ wr'.cell? ⟨gf, q * 5 + 4, none⟩ = some (.slice ka L kc) ∧ Big wr' gf (m.funcs.length * 5) ∧ (L = 0 ∨ ∃ gk, ka = some ⟨gk, 0, none⟩ ∧ ¬ K gk ∧ gk ≠ gf ∧ Big wr' gk (L * 2))))
          case atStart => exact ⟨0, Nat.zero_le _, rfl, rfl, hst4⟩
          case round =>
            obtain ⟨p, hp, rfl, rfl, HI⟩ := hrel
            obtain ⟨hFr, hF, hk, hBf, hrow⟩ := HI.out
            clear HI hst4
            obtain ⟨k0, k1, -, -, hlX⟩ := cells_k2 (hXb wr hFr)
            have hgl := hBf.lt
            by_cases hpl : p < L
            · have hplI : (p : Int) < (L : Int) := by omega
              have hp0 : (0 : Int) ≤ (p : Int) := by omega
              rcases hrow with h0 | ⟨gk, rfl, r2, r3, r4⟩
              · omega
              obtain ⟨u0, c0, fz0, hgk⟩ := r4.cell (j := p * 2) (by omega)
              obtain ⟨u1, c1, fz1, -⟩ := r4.cell (j := p * 2 + 1) (by omega)
              have hnew : Hid (Fr K w11 ((wr.setCell ⟨gk, p * 2, none⟩ (.int .i64 0)).setCell ⟨gk, p * 2 + 1, none⟩ (.int .i64 0)) ∧ XRow K n1 (some ⟨gf, 0, none⟩) m.funcs.length q ((wr.setCell ⟨gk, p * 2, none⟩ (.int .i64 0)).setCell ⟨gk, p * 2 + 1, none⟩ (.int .i64 0)) ∧ ((wr.setCell ⟨gk, p * 2, none⟩ (.int .i64 0)).setCell ⟨gk, p * 2 + 1, none⟩ (.int .i64 0)).cell? ⟨gf, q * 5 + 4, none⟩ = some (.slice (some ⟨gk, 0, none⟩) L kc) ∧ Big ((wr.setCell ⟨gk, p * 2, none⟩ (.int .i64 0)).setCell ⟨gk, p * 2 + 1, none⟩ (.int .i64 0)) gf (m.funcs.length * 5) ∧ (L = 0 ∨ ∃ gk', (some ⟨gk, 0, none⟩ : Option Addr) = some ⟨gk', 0, none⟩ ∧ ¬ K gk' ∧ gk' ≠ gf ∧ Big ((wr.setCell ⟨gk, p * 2, none⟩ (.int .i64 0)).setCell ⟨gk, p * 2 + 1, none⟩ (.int .i64 0)) gk' (L * 2))) := by
                refine ⟨(hFr.trans (Fr.set r2 _ _)).trans (Fr.set r2 _ _), ?_, ?_, (hBf.set _ _ _).set _ _ _, Or.inr ⟨gk, rfl, r2, r3, (r4.set _ _ _).set _ _ _⟩⟩
                · refine ⟨?_⟩
                  rcases hF.it with h0 | ⟨gf', e1, e2, e3, e4, e5⟩
                  · exact Or.inl h0
                  · simp only [Option.some.injEq, Addr.mk.injEq] at e1
                    obtain ⟨rfl, -⟩ := e1
                    exact Or.inr ⟨gf, rfl, e2, e3, (e4.set _ _ _).set _ _ _, fun i h1 h2 => ((e5 i h1 h2).set (Or.inl r3)).set (Or.inl r3)⟩
                · rw [cell_far (Ne.symm r3), cell_far (Ne.symm r3)]; exact hk
              clear hFr hF hBf hend hXb r4
              go_wp2_with fail
              go_roundg (L - (p + 1))
              case measure => omega
              case rel => exact ⟨p + 1, by omega, rfl, by go_num, hnew⟩
            have hplI : ¬ (p : Int) < (L : Int) := by omega
            obtain ⟨u0, c0, fz0, hgf0⟩ := hBf.cell (j := q * 5) (by omega)
            obtain ⟨u1, c1, fz1, -⟩ := hBf.cell (j := q * 5 + 1) (by omega)
            obtain ⟨u2, c2, fz2, -⟩ := hBf.cell (j := q * 5 + 2) (by omega)
            obtain ⟨u3, c3, fz3, -⟩ := hBf.cell (j := q * 5 + 3) (by omega)
            obtain ⟨u4, c4, fz4, -⟩ := hBf.cell (j := q * 5 + 4) (by omega)
            have hnew : Hid (Fr K w11 (((((wr.setCell ⟨gf, q * 5, none⟩ (.int .i64 0)).setCell ⟨gf, q * 5 + 1, none⟩ (.int .i64 0)).setCell ⟨gf, q * 5 + 2, none⟩ (.int .i64 0)).setCell ⟨gf, q * 5 + 3, none⟩ (.int .i64 0)).setCell ⟨gf, q * 5 + 4, none⟩ (.slice none 0 0)) ∧ XRow K n1 (some ⟨gf, 0, none⟩) m.funcs.length (q + 1) (((((wr.setCell ⟨gf, q * 5, none⟩ (.int .i64 0)).setCell ⟨gf, q * 5 + 1, none⟩ (.int .i64 0)).setCell ⟨gf, q * 5 + 2, none⟩ (.int .i64 0)).setCell ⟨gf, q * 5 + 3, none⟩ (.int .i64 0)).setCell ⟨gf, q * 5 + 4, none⟩ (.slice none 0 0))) := by
              refine ⟨((((hFr.trans (Fr.set f3 _ _)).trans (Fr.set f3 _ _)).trans (Fr.set f3 _ _)).trans (Fr.set f3 _ _)).trans (Fr.set f3 _ _), ⟨?_⟩⟩
              rcases hF.it with h0 | ⟨gf', e1, e2, e3, e4, e5⟩
              · exact Or.inl h0
              · simp only [Option.some.injEq, Addr.mk.injEq] at e1
                obtain ⟨rfl, -⟩ := e1
                exact Or.inr ⟨gf, rfl, e2, e3, ((((e4.set _ _ _).set _ _ _).set _ _ _).set _ _ _).set _ _ _, fun i h1 h2 => (((((e5 i (by omega) h2).set (Or.inr (by omega))).set (Or.inr (by omega))).set (Or.inr (by omega))).set (Or.inr (by omega))).set (Or.inr (by omega))⟩
            clear hFr hF hBf hend hXb hrow hk
            go_wp2_with fail
            go_roundg (m.funcs.length - (q + 1))
            case measure => omega
            case rel => exact ⟨q + 1, by omega, rfl, by go_num, hnew⟩
    · go_simp
      refine hK' _ _ (fun _ => trivial) ?_
      clear hK' K'
      try simp only [Act.put, List.setIfInBounds_toArray, List.set_cons_zero, List.set_cons_succ]
      refine wpE_one (i := 1) (by kernel_rfl) rfl rfl (fun K' hK' => ?_)
      go_simp
      refine hK' _ _ (fun _ => trivial) ?_
      clear hK' K'
      try simp only [Act.put, List.setIfInBounds_toArray, List.set_cons_zero, List.set_cons_succ]
      refine wpE_one (i := 3) (by kernel_rfl) rfl rfl (fun K' hK' => ?_)
      go_simp
      refine hK' _ _ (fun _ => trivial) ?_
      clear hK' K'
      try simp only [Act.put, List.setIfInBounds_toArray, List.set_cons_zero, List.set_cons_succ]
      refine wpE_done (by kernel_rfl) ?_
      have hFrW : Fr K w11 wft := hCH.out.1.trans (Fr.of_below hbft)
      have hFW : XRow K n1 xf m.funcs.length 0 wft := hCH.out.2.2.keep hbft
      have hCW : (m.consts.length = 0 ∨ ∃ gc, xa = some ⟨gc, 0, none⟩ ∧ ¬ K gc ∧ gc < n1 ∧ Big wft gc (m.consts.length * 4)) := by
        rcases hCH.out.2.1 with h0 | ⟨gc, g1, g2, g3, g4⟩
        · exact Or.inl h0
        · exact Or.inr ⟨gc, g1, g2, g3, g4.keep (hbft.block _ g4.lt)⟩
      clear hCH hWa hWt hWtf hWf hWft ca fa cts fts ctf cf1 ff1 cft la lt1 lf1 ltf lft hbtf
      simp only [Exit.inBlock, Exit.then]
      refine ‹∀ (a : Act) (w : World), _ → _› _ _ ?_
      clear hbft
      by_cases hc0 : m.consts.length = 0
      · have hcb : ((m.consts.length : Int) != 0) = false := by simp [hc0]
        clear hc0
        clear hCW
        obtain ⟨k0, k1, -, -, hlX⟩ := cells_k2 (hXb wft hFrW)
        have hst3 : Hid (Fr K w11 wft ∧ XRow K n1 xf m.funcs.length 0 wft) := ⟨hFrW, hFW⟩
        clear hFrW hFW
        go_wp2_with fail
        clear k0 k1
        go_loopg [95] m.funcs.length (fun gk i wr => ∃ q : Nat, q ≤ m.funcs.length ∧ gk = m.funcs.length - q ∧ i = .int .i64 q ∧ Hid (Fr K w11 wr ∧ XRow K n1 xf m.funcs.length q wr))
        case atStart => exact ⟨0, Nat.zero_le _, rfl, rfl, hst3⟩
        case round =>
          obtain ⟨q, hq, rfl, rfl, HI⟩ := hrel
          obtain ⟨hFr, hF⟩ := HI.out
          clear HI hst3
          obtain ⟨k0, k1, -, -, hlX⟩ := cells_k2 (hXb wr hFr)
          by_cases hlt : q < m.funcs.length
          rotate_left
          · have hltI : ¬ (q : Int) < (m.funcs.length : Int) := by omega
            obtain ⟨hB, hY, hM, hy, hm', hbw⟩ := hend wr hFr
            have hcv := str_b hB
            obtain ⟨y0, y1, -, -, hly⟩ := cells_k2 hY
            obtain ⟨o0, o1, -, -, hlo⟩ := cells_k2 hM
            have hSm := same13_any (B := fun _ => True) (hy.base (fun k _ _ => trivial)) (hm'.base (fun k _ _ => trivial)) hfsH.out
            clear hend hXb hFr hF hB hY hM hy hm' hfsH k0 k1
            go_wp2_with fail
            refine hSm.mono ?_
            rintro e wE ⟨rfl, hbE⟩
            clear hSm hcv y0 y1 o0 o1
            go_wp2
            go_ret
            exact ⟨rfl, hbw.trans (hbE.mono hbw.size)⟩
          have hltI : (q : Int) < (m.funcs.length : Int) := by omega
          have hq0 : (0 : Int) ≤ (q : Int) := by omega
          rcases hF.it with h0 | ⟨gf, rfl, f2, f3, f4, f5⟩
          · omega
          obtain ⟨ka, L, kc, hk, hL9, hrow⟩ := f5 q (Nat.le_refl _) hlt
          have hgl := f4.lt
          have hst4 : Hid (Fr K w11 wr ∧ XRow K n1 (some ⟨gf, 0, none⟩) m.funcs.length q wr ∧ wr.cell? ⟨gf, q * 5 + 4, none⟩ = some (.slice ka L kc) ∧ Big wr gf (m.funcs.length * 5) ∧ (L = 0 ∨ ∃ gk, ka = some ⟨gk, 0, none⟩ ∧ ¬ K gk ∧ gk ≠ gf ∧ Big wr gk (L * 2))) := ⟨hFr, hF, hk, f4, hrow⟩
          clear hFr hF f4 f5 hrow
          go_wp2_with fail
          clear k0 k1 hk
          go_loopg [105] L (fun gn j wr' => ∃ p : Nat, p ≤ L ∧ gn = L - p ∧ j = .int .i64 p ∧ Hid (Fr K w11 wr' ∧ XRow K n1 (some ⟨gf, 0, none⟩) m.funcs.length q wr' ∧ wr'.cell? ⟨gf, q * 5 + 4, none⟩ = some (.slice ka L kc) ∧ Big wr' gf (m.funcs.length * 5) ∧ (L = 0 ∨ ∃ gk, ka = some ⟨gk, 0, none⟩ ∧ ¬ K gk ∧ gk ≠ gf ∧ Big wr' gk (L * 2))))
          case atStart => exact ⟨0, Nat.zero_le _, rfl, rfl, hst4⟩
          case round =>
            obtain ⟨p, hp, rfl, rfl, HI⟩ := hrel
            obtain ⟨hFr, hF, hk, hBf, hrow⟩ := HI.out
            clear HI hst4
            obtain ⟨k0, k1, -, -, hlX⟩ := cells_k2 (hXb wr hFr)
            have hgl := hBf.lt
            by_cases hpl : p < L
            · have hplI : (p : Int) < (L : Int) := by omega
              have hp0 : (0 : Int) ≤ (p : Int) := by omega
              rcases hrow with h0 | ⟨gk, rfl, r2, r3, r4⟩
              · omega
              obtain ⟨u0, c0, fz0, hgk⟩ := r4.cell (j := p * 2) (by omega)
              obtain ⟨u1, c1, fz1, -⟩ := r4.cell (j := p * 2 + 1) (by omega)
              have hnew : Hid (Fr K w11 ((wr.setCell ⟨gk, p * 2, none⟩ (.int .i64 0)).setCell ⟨gk, p * 2 + 1, none⟩ (.int .i64 0)) ∧ XRow K n1 (some ⟨gf, 0, none⟩) m.funcs.length q ((wr.setCell ⟨gk, p * 2, none⟩ (.int .i64 0)).setCell ⟨gk, p * 2 + 1, none⟩ (.int .i64 0)) ∧ ((wr.setCell ⟨gk, p * 2, none⟩ (.int .i64 0)).setCell ⟨gk, p * 2 + 1, none⟩ (.int .i64 0)).cell? ⟨gf, q * 5 + 4, none⟩ = some (.slice (some ⟨gk, 0, none⟩) L kc) ∧ Big ((wr.setCell ⟨gk, p * 2, none⟩ (.int .i64 0)).setCell ⟨gk, p * 2 + 1, none⟩ (.int .i64 0)) gf (m.funcs.length * 5) ∧ (L = 0 ∨ ∃ gk', (some ⟨gk, 0, none⟩ : Option Addr) = some ⟨gk', 0, none⟩ ∧ ¬ K gk' ∧ gk' ≠ gf ∧ Big ((wr.setCell ⟨gk, p * 2, none⟩ (.int .i64 0)).setCell ⟨gk, p * 2 + 1, none⟩ (.int .i64 0)) gk' (L * 2))) := by
                refine ⟨(hFr.trans (Fr.set r2 _ _)).trans (Fr.set r2 _ _), ?_, ?_, (hBf.set _ _ _).set _ _ _, Or.inr ⟨gk, rfl, r2, r3, (r4.set _ _ _).set _ _ _⟩⟩
                · refine ⟨?_⟩
                  rcases hF.it with h0 | ⟨gf', e1, e2, e3, e4, e5⟩
                  · exact Or.inl h0
                  · simp only [Option.some.injEq, Addr.mk.injEq] at e1
                    obtain ⟨rfl, -⟩ := e1
                    exact Or.inr ⟨gf, rfl, e2, e3, (e4.set _ _ _).set _ _ _, fun i h1 h2 => ((e5 i h1 h2).set (Or.inl r3)).set (Or.inl r3)⟩
                · rw [cell_far (Ne.symm r3), cell_far (Ne.symm r3)]; exact hk
              clear hFr hF hBf hend hXb r4
              go_wp2_with fail
              go_roundg (L - (p + 1))
              case measure => omega
              case rel => exact ⟨p + 1, by omega, rfl, by go_num, hnew⟩
            have hplI : ¬ (p : Int) < (L : Int) := by omega
            obtain ⟨u0, c0, fz0, hgf0⟩ := hBf.cell (j := q * 5) (by omega)
            obtain ⟨u1, c1, fz1, -⟩ := hBf.cell (j := q * 5 + 1) (by omega)
            obtain ⟨u2, c2, fz2, -⟩ := hBf.cell (j := q * 5 + 2) (by omega)
            obtain ⟨u3, c3, fz3, -⟩ := hBf.cell (j := q * 5 + 3) (by omega)
            obtain ⟨u4, c4, fz4, -⟩ := hBf.cell (j := q * 5 + 4) (by omega)
            have hnew : Hid (Fr K w11 (((((wr.setCell ⟨gf, q * 5, none⟩ (.int .i64 0)).setCell ⟨gf, q * 5 + 1, none⟩ (.int .i64 0)).setCell ⟨gf, q * 5 + 2, none⟩ (.int .i64 0)).setCell ⟨gf, q * 5 + 3, none⟩ (.int .i64 0)).setCell ⟨gf, q * 5 + 4, none⟩ (.slice none 0 0)) ∧ XRow K n1 (some ⟨gf, 0, none⟩) m.funcs.length (q + 1) (((((wr.setCell ⟨gf, q * 5, none⟩ (.int .i64 0)).setCell ⟨gf, q * 5 + 1, none⟩ (.int .i64 0)).setCell ⟨gf, q * 5 + 2, none⟩ (.int .i64 0)).setCell ⟨gf, q * 5 + 3, none⟩ (.int .i64 0)).setCell ⟨gf, q * 5 + 4, none⟩ (.slice none 0 0))) := by
              refine ⟨((((hFr.trans (Fr.set f3 _ _)).trans (Fr.set f3 _ _)).trans (Fr.set f3 _ _)).trans (Fr.set f3 _ _)).trans (Fr.set f3 _ _), ⟨?_⟩⟩
              rcases hF.it with h0 | ⟨gf', e1, e2, e3, e4, e5⟩
              · exact Or.inl h0
              · simp only [Option.some.injEq, Addr.mk.injEq] at e1
                obtain ⟨rfl, -⟩ := e1
                exact Or.inr ⟨gf, rfl, e2, e3, ((((e4.set _ _ _).set _ _ _).set _ _ _).set _ _ _).set _ _ _, fun i h1 h2 => (((((e5 i (by omega) h2).set (Or.inr (by omega))).set (Or.inr (by omega))).set (Or.inr (by omega))).set (Or.inr (by omega))).set (Or.inr (by omega))⟩
            clear hFr hF hBf hend hXb hrow hk
            go_wp2_with fail
            go_roundg (m.funcs.length - (q + 1))
            case measure => omega
            case rel => exact ⟨q + 1, by omega, rfl, by go_num, hnew⟩
      · have hcb : ((m.consts.length : Int) != 0) = true := by rw [bne_iff_ne]; omega
        clear hc0
        obtain ⟨k0, k1, -, -, hlX⟩ := cells_k2 (hXb wft hFrW)
        have hst2 : Hid (Fr K w11 wft ∧ (m.consts.length = 0 ∨ ∃ gc, xa = some ⟨gc, 0, none⟩ ∧ ¬ K gc ∧ gc < n1 ∧ Big wft gc (m.consts.length * 4)) ∧ XRow K n1 xf m.funcs.length 0 wft) := ⟨hFrW, hCW, hFW⟩
        clear hFrW hCW hFW
        go_wp2_with fail
        clear k0 k1
        go_loopg [75] m.consts.length (fun gk i wr => ∃ q : Nat, q ≤ m.consts.length ∧ gk = m.consts.length - q ∧ i = .int .i64 q ∧ Hid (Fr K w11 wr ∧ (m.consts.length = 0 ∨ ∃ gc, xa = some ⟨gc, 0, none⟩ ∧ ¬ K gc ∧ gc < n1 ∧ Big wr gc (m.consts.length * 4)) ∧ XRow K n1 xf m.funcs.length 0 wr))
        case atStart => exact ⟨0, Nat.zero_le _, rfl, rfl, hst2⟩
        case round =>
          obtain ⟨q, hq, rfl, rfl, HI⟩ := hrel
          obtain ⟨hFr, hC, hF⟩ := HI.out
          clear HI hst2
          obtain ⟨k0, k1, -, -, hlX⟩ := cells_k2 (hXb wr hFr)
          by_cases hlt : q < m.consts.length
          · have hltI : (q : Int) < (m.consts.length : Int) := by omega
            have hq0 : (0 : Int) ≤ (q : Int) := by omega
            rcases hC with h0 | ⟨gc, rfl, g2, g3, g4⟩
            · omega
            obtain ⟨u0, c0, fz0, hgl⟩ := g4.cell (j := q * 4) (by omega)
            obtain ⟨u1, c1, fz1, -⟩ := g4.cell (j := q * 4 + 1) (by omega)
            obtain ⟨u2, c2, fz2, -⟩ := g4.cell (j := q * 4 + 2) (by omega)
            obtain ⟨u3, c3, fz3, -⟩ := g4.cell (j := q * 4 + 3) (by omega)
            have hnew : Hid (Fr K w11 ((((wr.setCell ⟨gc, q * 4, none⟩ (.int .i64 0)).setCell ⟨gc, q * 4 + 1, none⟩ (.int .i64 0)).setCell ⟨gc, q * 4 + 2, none⟩ (.string ⟨#[]⟩)).setCell ⟨gc, q * 4 + 3, none⟩ (.slice none 0 0)) ∧ (m.consts.length = 0 ∨ ∃ gc', (some ⟨gc, 0, none⟩ : Option Addr) = some ⟨gc', 0, none⟩ ∧ ¬ K gc' ∧ gc' < n1 ∧ Big ((((wr.setCell ⟨gc, q * 4, none⟩ (.int .i64 0)).setCell ⟨gc, q * 4 + 1, none⟩ (.int .i64 0)).setCell ⟨gc, q * 4 + 2, none⟩ (.string ⟨#[]⟩)).setCell ⟨gc, q * 4 + 3, none⟩ (.slice none 0 0)) gc' (m.consts.length * 4)) ∧ XRow K n1 xf m.funcs.length 0 ((((wr.setCell ⟨gc, q * 4, none⟩ (.int .i64 0)).setCell ⟨gc, q * 4 + 1, none⟩ (.int .i64 0)).setCell ⟨gc, q * 4 + 2, none⟩ (.string ⟨#[]⟩)).setCell ⟨gc, q * 4 + 3, none⟩ (.slice none 0 0))) :=
              ⟨(((hFr.trans (Fr.set g2 _ _)).trans (Fr.set g2 _ _)).trans (Fr.set g2 _ _)).trans (Fr.set g2 _ _), Or.inr ⟨gc, rfl, g2, g3, (((g4.set _ _ _).set _ _ _).set _ _ _).set _ _ _⟩, (((hF.set g3 _ _).set g3 _ _).set g3 _ _).set g3 _ _⟩
            clear hFr hF hend hXb g4
            go_wp2_with fail
            go_roundg (m.consts.length - (q + 1))
            case measure => omega
            case rel => exact ⟨q + 1, by omega, rfl, by go_num, hnew⟩
          have hltI : ¬ (q : Int) < (m.consts.length : Int) := by omega
          have hFrW := hFr
          have hFW := hF
          clear hFr hC hF k0 k1
          obtain ⟨k0, k1, -, -, hlX⟩ := cells_k2 (hXb wr hFrW)
          have hst3 : Hid (Fr K w11 wr ∧ XRow K n1 xf m.funcs.length 0 wr) := ⟨hFrW, hFW⟩
          clear hFrW hFW
          go_wp2_with fail
          clear k0 k1
          go_loopg [95] m.funcs.length (fun gk i wr => ∃ q : Nat, q ≤ m.funcs.length ∧ gk = m.funcs.length - q ∧ i = .int .i64 q ∧ Hid (Fr K w11 wr ∧ XRow K n1 xf m.funcs.length q wr))
          case atStart => exact ⟨0, Nat.zero_le _, rfl, rfl, hst3⟩
          case round =>
            obtain ⟨q, hq, rfl, rfl, HI⟩ := hrel
            obtain ⟨hFr, hF⟩ := HI.out
            clear HI hst3
            obtain ⟨k0, k1, -, -, hlX⟩ := cells_k2 (hXb wr hFr)
            by_cases hlt : q < m.funcs.length
            rotate_left
            · have hltI : ¬ (q : Int) < (m.funcs.length : Int) := by omega
              obtain ⟨hB, hY, hM, hy, hm', hbw⟩ := hend wr hFr
              have hcv := str_b hB
              obtain ⟨y0, y1, -, -, hly⟩ := cells_k2 hY
              obtain ⟨o0, o1, -, -, hlo⟩ := cells_k2 hM
              have hSm := same13_any (B := fun _ => True) (hy.base (fun k _ _ => trivial)) (hm'.base (fun k _ _ => trivial)) hfsH.out
              clear hend hXb hFr hF hB hY hM hy hm' hfsH k0 k1
              go_wp2_with fail
              refine hSm.mono ?_
              rintro e wE ⟨rfl, hbE⟩
              clear hSm hcv y0 y1 o0 o1
              go_wp2
              go_ret
              exact ⟨rfl, hbw.trans (hbE.mono hbw.size)⟩
            have hltI : (q : Int) < (m.funcs.length : Int) := by omega
            have hq0 : (0 : Int) ≤ (q : Int) := by omega
            rcases hF.it with h0 | ⟨gf, rfl, f2, f3, f4, f5⟩
            · omega
            obtain ⟨ka, L, kc, hk, hL9, hrow⟩ := f5 q (Nat.le_refl _) hlt
            have hgl := f4.lt
            have hst4 : Hid (Fr K w11 wr ∧ XRow K n1 (some ⟨gf, 0, none⟩) m.funcs.length q wr ∧ wr.cell? ⟨gf, q * 5 + 4, none⟩ = some (.slice ka L kc) ∧ Big wr gf (m.funcs.length * 5) ∧ (L = 0 ∨ ∃ gk, ka = some ⟨gk, 0, none⟩ ∧ ¬ K gk ∧ gk ≠ gf ∧ Big wr gk (L * 2))) := ⟨hFr, hF, hk, f4, hrow⟩
            clear hFr hF f4 f5 hrow
            go_wp2_with fail
            clear k0 k1 hk
            go_loopg [105] L (fun gn j wr' => ∃ p : Nat, p ≤ L ∧ gn = L - p ∧ j = .int .i64 p ∧ Hid (Fr K w11 wr' ∧ XRow K n1 (some ⟨gf, 0, none⟩) m.funcs.length q wr' ∧ wr'.cell? ⟨gf, q * 5 + 4, none⟩ = some (.slice ka L kc) ∧ Big wr' gf (m.funcs.length * 5) ∧ (L = 0 ∨ ∃ gk, ka = some ⟨gk, 0, none⟩ ∧ ¬ K gk ∧ gk ≠ gf ∧ Big wr' gk (L * 2))))
            case atStart => exact ⟨0, Nat.zero_le _, rfl, rfl, hst4⟩
            case round =>
              obtain ⟨p, hp, rfl, rfl, HI⟩ := hrel
              obtain ⟨hFr, hF, hk, hBf, hrow⟩ := HI.out
              clear HI hst4
              obtain ⟨k0, k1, -, -, hlX⟩ := cells_k2 (hXb wr hFr)
              have hgl := hBf.lt
              by_cases hpl : p < L
              · have hplI : (p : Int) < (L : Int) := by omega
                have hp0 : (0 : Int) ≤ (p : Int) := by omega
                rcases hrow with h0 | ⟨gk, rfl, r2, r3, r4⟩
                · omega
                obtain ⟨u0, c0, fz0, hgk⟩ := r4.cell (j := p * 2) (by omega)
                obtain ⟨u1, c1, fz1, -⟩ := r4.cell (j := p * 2 + 1) (by omega)
                have hnew : Hid (Fr K w11 ((wr.setCell ⟨gk, p * 2, none⟩ (.int .i64 0)).setCell ⟨gk, p * 2 + 1, none⟩ (.int .i64 0)) ∧ XRow K n1 (some ⟨gf, 0, none⟩) m.funcs.length q ((wr.setCell ⟨gk, p * 2, none⟩ (.int .i64 0)).setCell ⟨gk, p * 2 + 1, none⟩ (.int .i64 0)) ∧ ((wr.setCell ⟨gk, p * 2, none⟩ (.int .i64 0)).setCell ⟨gk, p * 2 + 1, none⟩ (.int .i64 0)).cell? ⟨gf, q * 5 + 4, none⟩ = some (.slice (some ⟨gk, 0, none⟩) L kc) ∧ Big ((wr.setCell ⟨gk, p * 2, none⟩ (.int .i64 0)).setCell ⟨gk, p * 2 + 1, none⟩ (.int .i64 0)) gf (m.funcs.length * 5) ∧ (L = 0 ∨ ∃ gk', (some ⟨gk, 0, none⟩ : Option Addr) = some ⟨gk', 0, none⟩ ∧ ¬ K gk' ∧ gk' ≠ gf ∧ Big ((wr.setCell ⟨gk, p * 2, none⟩ (.int .i64 0)).setCell ⟨gk, p * 2 + 1, none⟩ (.int .i64 0)) gk' (L * 2))) := by
                  refine ⟨(hFr.trans (Fr.set r2 _ _)).trans (Fr.set r2 _ _), ?_, ?_, (hBf.set _ _ _).set _ _ _, Or.inr ⟨gk, rfl, r2, r3, (r4.set _ _ _).set _ _ _⟩⟩
                  · refine ⟨?_⟩
                    rcases hF.it with h0 | ⟨gf', e1, e2, e3, e4, e5⟩
                    · exact Or.inl h0
                    · simp only [Option.some.injEq, Addr.mk.injEq] at e1
                      obtain ⟨rfl, -⟩ := e1
                      exact Or.inr ⟨gf, rfl, e2, e3, (e4.set _ _ _).set _ _ _, fun i h1 h2 => ((e5 i h1 h2).set (Or.inl r3)).set (Or.inl r3)⟩
                  · rw [cell_far (Ne.symm r3), cell_far (Ne.symm r3)]; exact hk
                clear hFr hF hBf hend hXb r4
                go_wp2_with fail
                go_roundg (L - (p + 1))
                case measure => omega
                case rel => exact ⟨p + 1, by omega, rfl, by go_num, hnew⟩
              have hplI : ¬ (p : Int) < (L : Int) := by omega
              obtain ⟨u0, c0, fz0, hgf0⟩ := hBf.cell (j := q * 5) (by omega)
              obtain ⟨u1, c1, fz1, -⟩ := hBf.cell (j := q * 5 + 1) (by omega)
              obtain ⟨u2, c2, fz2, -⟩ := hBf.cell (j := q * 5 + 2) (by omega)
              obtain ⟨u3, c3, fz3, -⟩ := hBf.cell (j := q * 5 + 3) (by omega)
              obtain ⟨u4, c4, fz4, -⟩ := hBf.cell (j := q * 5 + 4) (by omega)
              have hnew : Hid (Fr K w11 (((((wr.setCell ⟨gf, q * 5, none⟩ (.int .i64 0)).setCell ⟨gf, q * 5 + 1, none⟩ (.int .i64 0)).setCell ⟨gf, q * 5 + 2, none⟩ (.int .i64 0)).setCell ⟨gf, q * 5 + 3, none⟩ (.int .i64 0)).setCell ⟨gf, q * 5 + 4, none⟩ (.slice none 0 0)) ∧ XRow K n1 (some ⟨gf, 0, none⟩) m.funcs.length (q + 1) (((((wr.setCell ⟨gf, q * 5, none⟩ (.int .i64 0)).setCell ⟨gf, q * 5 + 1, none⟩ (.int .i64 0)).setCell ⟨gf, q * 5 + 2, none⟩ (.int .i64 0)).setCell ⟨gf, q * 5 + 3, none⟩ (.int .i64 0)).setCell ⟨gf, q * 5 + 4, none⟩ (.slice none 0 0))) := by
                refine ⟨((((hFr.trans (Fr.set f3 _ _)).trans (Fr.set f3 _ _)).trans (Fr.set f3 _ _)).trans (Fr.set f3 _ _)).trans (Fr.set f3 _ _), ⟨?_⟩⟩
                rcases hF.it with h0 | ⟨gf', e1, e2, e3, e4, e5⟩
                · exact Or.inl h0
                · simp only [Option.some.injEq, Addr.mk.injEq] at e1
                  obtain ⟨rfl, -⟩ := e1
                  exact Or.inr ⟨gf, rfl, e2, e3, ((((e4.set _ _ _).set _ _ _).set _ _ _).set _ _ _).set _ _ _, fun i h1 h2 => (((((e5 i (by omega) h2).set (Or.inr (by omega))).set (Or.inr (by omega))).set (Or.inr (by omega))).set (Or.inr (by omega))).set (Or.inr (by omega))⟩
              clear hFr hF hBf hend hXb hrow hk
              go_wp2_with fail
              go_roundg (m.funcs.length - (q + 1))
              case measure => omega
              case rel => exact ⟨q + 1, by omega, rfl, by go_num, hnew⟩
end Go.Proofs.Ytndahpcjkcihlaa
