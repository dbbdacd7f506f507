/- Put: the document's: a list, and what has no places. -/
import Derived.Test.YtkbplffckkjbfaaRpu
import Derived.Test.YtkbplffckkjbfaaVat
import Derived.Test.YtkbplffckkjbfaaMp
namespace Go.Proofs.Ytkbplffckkjbfaa
open Go.RowKit
set_option linter.unusedVariables false
set_option linter.unusedSimpArgs false
attribute [local go_sem ↓] Go.wp_at_zero Go.wp_at_succ

set_option maxRecDepth 100000 in
set_option maxHeartbeats 8000000 in
theorem rput_code {B : Nat → Prop} {v k x : V} {ao ak ax : Option Addr} {cap ck cx : Nat} {w : World} (hv : IsW B w v (.slice ao v.l.length cap)) (hk : IsW B w k (.slice ak k.l.length ck)) (hx : IsW B w x (.slice ax x.l.length cx)) (hwv : wt v ≤ 200000) (hwk : wt k ≤ 200000) (hwx : wt x ≤ 200000) (h : ¬ (v.k = 4 ∧ k.k = 1)) (h5 : v.k ≠ 5) :
    Calls Try.prog 35 #[.agg #[.int .i64 v.k, .int .i64 v.n, .string ⟨v.t.toArray⟩, .slice ao v.l.length cap], .agg #[.int .i64 k.k, .int .i64 k.n, .string ⟨k.t.toArray⟩, .slice ak k.l.length ck], .agg #[.int .i64 x.k, .int .i64 x.n, .string ⟨x.t.toArray⟩, .slice ax x.l.length cx]] w fun r w' => OutV w (putV v k x) r w' := by
  obtain ⟨ao', cap', e, c1, c2⟩ := hv.vs.slice
  simp only [Value.slice.injEq] at e
  obtain ⟨rfl, -, rfl⟩ := e
  have hwts := wt_eq v
  have hlv := wts_len v.l
  obtain ⟨w0, w1, w2, w3, hW, hW1, hW2, hW3, hs0, hs1, hs2, hs3, hB3, hc, hr⟩ := boxed3r w v (.slice ao v.l.length cap) k (.slice ak k.l.length ck) x (.slice ax x.l.length cx)
  obtain ⟨⟨a0, a1, a2, a3⟩, ⟨b0, b1, b2, b3⟩, ⟨x0, x1, x2, x3⟩⟩ := hc w3 (Below.refl _ _)
  have hCv := rcopy_any _ v _ B w3 (Nat.lt_succ_self _) (by omega) (hv.below hB3)
  have hCx : ∀ w4, Below w3.heap.size w3 w4 → Calls Try.prog 60 #[.agg #[.int .i64 x.k, .int .i64 x.n, .string ⟨x.t.toArray⟩, .slice ax x.l.length cx]] w4 fun r w' => NewG w4 x r w' := fun w4 hb4 => rcopy_any _ x _ B w4 (Nat.lt_succ_self _) (by omega) ((hx.below hB3).below hb4)
  have hvr : Hid (v.t.length ≤ maxLen ∧ InR v.k ∧ InR v.n) := ⟨hv.txt, hv.kr, hv.nr⟩
  have hfin : Hid (putV v k x = (V.zero, 40)) := by
    have hp : plV v k = (0, 40) := by unfold plV; rw [if_neg h, if_neg h5]
    show _ = _; unfold putV; rw [hp, if_neg (by decide), if_pos h5]
  have hk5 : (v.k != 5) = true := by simp [h5]
  clear hv hk hx
  by_cases h4 : v.k = 4
  · have hk4 : (v.k == 4) = true := by simp [h4]
    have hk1 : (k.k == 1) = false := by simp; intro e; exact h ⟨h4, e⟩
    clear h4 h h5
    go_enter Try.func35, Try.ntmps35
    go_wp2_with fail
    refine hCv.mono ?_
    rintro e wc ⟨⟨av, cv, rfl, -, hGc⟩, hbc⟩
    clear hCv a0 a1 a2 a3 b0 b1 b2 b3 x0 x1 x2 x3
    obtain ⟨wz, w4, hWz, hW4, hbc4, hs4, hsz, hblk4, ⟨y0, y1, y2, y3⟩, ⟨z0, z1, z2, z3⟩⟩ := rbox_set wc (.int .i64 v.k) (.int .i64 v.n) (.string ⟨v.t.toArray⟩) (.slice av v.l.length cv)
    have hsc := hbc.size
    have hb34 : Below w3.heap.size w3 w4 := hbc.trans (hbc4.mono hsc)
    obtain ⟨⟨a0, a1, a2, a3⟩, ⟨b0, b1, b2, b3⟩, ⟨x0, x1, x2, x3⟩⟩ := hc w4 hb34
    obtain ⟨q0, q1, q2, q3, p0, p1, p2, p3⟩ := cells_of4 hblk4
    clear hc hGc
    obtain ⟨r0, r1, r2, r3, s0, s1, s2, s3, hz⟩ := hr w4 (hb34)
    have hres := outV_zero (e := 40) (below_set4 (hB3.trans ((hb34).mono hB3.size)) (g := w.heap.size + 3) (by omega) (.int .i64 0) (.int .i64 0) (.string ⟨#[]⟩) (.slice none 0 0))
    rw [← hfin.out] at hres
    clear hr
    go_wp2_with fail
    exact bodyPost_ret (v := .tuple #[.agg #[.int .i64 0, .int .i64 0, .string ⟨#[]⟩, .slice none 0 0], .int .i64 40]) (by simp [results, Try.results35, go_sem, hz, r0, r1, r2, r3]) rfl hres
  · have hk4 : (v.k == 4) = false := by simp [h4]
    clear h h5
    go_enter Try.func35, Try.ntmps35
    go_wp2_with fail
    refine hCv.mono ?_
    rintro e wc ⟨⟨av, cv, rfl, -, hGc⟩, hbc⟩
    clear hCv a0 a1 a2 a3 b0 b1 b2 b3 x0 x1 x2 x3
    obtain ⟨wz, w4, hWz, hW4, hbc4, hs4, hsz, hblk4, ⟨y0, y1, y2, y3⟩, ⟨z0, z1, z2, z3⟩⟩ := rbox_set wc (.int .i64 v.k) (.int .i64 v.n) (.string ⟨v.t.toArray⟩) (.slice av v.l.length cv)
    have hsc := hbc.size
    have hb34 : Below w3.heap.size w3 w4 := hbc.trans (hbc4.mono hsc)
    obtain ⟨⟨a0, a1, a2, a3⟩, ⟨b0, b1, b2, b3⟩, ⟨x0, x1, x2, x3⟩⟩ := hc w4 hb34
    obtain ⟨q0, q1, q2, q3, p0, p1, p2, p3⟩ := cells_of4 hblk4
    clear hc hGc
    obtain ⟨r0, r1, r2, r3, s0, s1, s2, s3, hz⟩ := hr w4 (hb34)
    have hres := outV_zero (e := 40) (below_set4 (hB3.trans ((hb34).mono hB3.size)) (g := w.heap.size + 3) (by omega) (.int .i64 0) (.int .i64 0) (.string ⟨#[]⟩) (.slice none 0 0))
    rw [← hfin.out] at hres
    clear hr
    go_wp2_with fail
    exact bodyPost_ret (v := .tuple #[.agg #[.int .i64 0, .int .i64 0, .string ⟨#[]⟩, .slice none 0 0], .int .i64 40]) (by simp [results, Try.results35, go_sem, hz, r0, r1, r2, r3]) rfl hres
set_option maxRecDepth 100000 in
set_option maxHeartbeats 8000000 in
theorem rput_miss {B : Nat → Prop} {v k x : V} {ao ak ax : Option Addr} {cap ck cx : Nat} {w : World} (hv : IsW B w v (.slice ao v.l.length cap)) (hk : IsW B w k (.slice ak k.l.length ck)) (hx : IsW B w x (.slice ax x.l.length cx)) (hwv : wt v ≤ 200000) (hwk : wt k ≤ 200000) (hwx : wt x ≤ 200000) (h4 : v.k = 4) (h1 : k.k = 1) (hn : ¬ (0 ≤ k.n ∧ k.n < v.l.length)) :
    Calls Try.prog 35 #[.agg #[.int .i64 v.k, .int .i64 v.n, .string ⟨v.t.toArray⟩, .slice ao v.l.length cap], .agg #[.int .i64 k.k, .int .i64 k.n, .string ⟨k.t.toArray⟩, .slice ak k.l.length ck], .agg #[.int .i64 x.k, .int .i64 x.n, .string ⟨x.t.toArray⟩, .slice ax x.l.length cx]] w fun r w' => OutV w (putV v k x) r w' := by
  obtain ⟨ao', cap', e, c1, c2⟩ := hv.vs.slice
  simp only [Value.slice.injEq] at e
  obtain ⟨rfl, -, rfl⟩ := e
  have hwts := wt_eq v
  have hlv := wts_len v.l
  obtain ⟨w0, w1, w2, w3, hW, hW1, hW2, hW3, hs0, hs1, hs2, hs3, hB3, hc, hr⟩ := boxed3r w v (.slice ao v.l.length cap) k (.slice ak k.l.length ck) x (.slice ax x.l.length cx)
  obtain ⟨⟨a0, a1, a2, a3⟩, ⟨b0, b1, b2, b3⟩, ⟨x0, x1, x2, x3⟩⟩ := hc w3 (Below.refl _ _)
  have hCv := rcopy_any _ v _ B w3 (Nat.lt_succ_self _) (by omega) (hv.below hB3)
  have hCx : ∀ w4, Below w3.heap.size w3 w4 → Calls Try.prog 60 #[.agg #[.int .i64 x.k, .int .i64 x.n, .string ⟨x.t.toArray⟩, .slice ax x.l.length cx]] w4 fun r w' => NewG w4 x r w' := fun w4 hb4 => rcopy_any _ x _ B w4 (Nat.lt_succ_self _) (by omega) ((hx.below hB3).below hb4)
  have hvr : Hid (v.t.length ≤ maxLen ∧ InR v.k ∧ InR v.n) := ⟨hv.txt, hv.kr, hv.nr⟩
  have hfin : Hid (putV v k x = (V.zero, 52)) := by
    have hp : plV v k = (0, 52) := by unfold plV; rw [if_pos ⟨h4, h1⟩, if_neg hn]
    show _ = _; unfold putV; rw [hp, if_neg (by decide), if_pos (by omega)]
  have hk4 : (v.k == 4) = true := by simp [h4]
  have hk1 : (k.k == 1) = true := by simp [h1]
  clear hv hk hx h4 h1
  by_cases n0 : k.n < 0
  · have hd0 : decide (k.n < 0) = true := by simp [n0]
    clear hn
    go_enter Try.func35, Try.ntmps35
    go_wp2_with fail
    refine hCv.mono ?_
    rintro e wc ⟨⟨av, cv, rfl, -, hGc⟩, hbc⟩
    clear hCv a0 a1 a2 a3 b0 b1 b2 b3 x0 x1 x2 x3
    obtain ⟨wz, w4, hWz, hW4, hbc4, hs4, hsz, hblk4, ⟨y0, y1, y2, y3⟩, ⟨z0, z1, z2, z3⟩⟩ := rbox_set wc (.int .i64 v.k) (.int .i64 v.n) (.string ⟨v.t.toArray⟩) (.slice av v.l.length cv)
    have hsc := hbc.size
    have hb34 : Below w3.heap.size w3 w4 := hbc.trans (hbc4.mono hsc)
    obtain ⟨⟨a0, a1, a2, a3⟩, ⟨b0, b1, b2, b3⟩, ⟨x0, x1, x2, x3⟩⟩ := hc w4 hb34
    obtain ⟨q0, q1, q2, q3, p0, p1, p2, p3⟩ := cells_of4 hblk4
    clear hc hGc
    obtain ⟨r0, r1, r2, r3, s0, s1, s2, s3, hz⟩ := hr w4 (hb34)
    have hres := outV_zero (e := 52) (below_set4 (hB3.trans ((hb34).mono hB3.size)) (g := w.heap.size + 3) (by omega) (.int .i64 0) (.int .i64 0) (.string ⟨#[]⟩) (.slice none 0 0))
    rw [← hfin.out] at hres
    clear hr
    go_wp2_with fail
    exact bodyPost_ret (v := .tuple #[.agg #[.int .i64 0, .int .i64 0, .string ⟨#[]⟩, .slice none 0 0], .int .i64 52]) (by simp [results, Try.results35, go_sem, hz, r0, r1, r2, r3]) rfl hres
  · have hd0 : decide (k.n < 0) = false := by simp; omega
    have hd1 : (v.l.length : Int) ≤ k.n := by omega
    have hd2 : decide ((v.l.length : Int) ≤ k.n) = true := by simp [hd1]
    clear hn
    go_enter Try.func35, Try.ntmps35
    go_wp2_with fail
    refine hCv.mono ?_
    rintro e wc ⟨⟨av, cv, rfl, -, hGc⟩, hbc⟩
    clear hCv a0 a1 a2 a3 b0 b1 b2 b3 x0 x1 x2 x3
    obtain ⟨wz, w4, hWz, hW4, hbc4, hs4, hsz, hblk4, ⟨y0, y1, y2, y3⟩, ⟨z0, z1, z2, z3⟩⟩ := rbox_set wc (.int .i64 v.k) (.int .i64 v.n) (.string ⟨v.t.toArray⟩) (.slice av v.l.length cv)
    have hsc := hbc.size
    have hb34 : Below w3.heap.size w3 w4 := hbc.trans (hbc4.mono hsc)
    obtain ⟨⟨a0, a1, a2, a3⟩, ⟨b0, b1, b2, b3⟩, ⟨x0, x1, x2, x3⟩⟩ := hc w4 hb34
    obtain ⟨q0, q1, q2, q3, p0, p1, p2, p3⟩ := cells_of4 hblk4
    clear hc hGc
    obtain ⟨r0, r1, r2, r3, s0, s1, s2, s3, hz⟩ := hr w4 (hb34)
    have hres := outV_zero (e := 52) (below_set4 (hB3.trans ((hb34).mono hB3.size)) (g := w.heap.size + 3) (by omega) (.int .i64 0) (.int .i64 0) (.string ⟨#[]⟩) (.slice none 0 0))
    rw [← hfin.out] at hres
    clear hr
    go_wp2_with fail
    exact bodyPost_ret (v := .tuple #[.agg #[.int .i64 0, .int .i64 0, .string ⟨#[]⟩, .slice none 0 0], .int .i64 52]) (by simp [results, Try.results35, go_sem, hz, r0, r1, r2, r3]) rfl hres
set_option maxRecDepth 100000 in
set_option maxHeartbeats 8000000 in
theorem rput_list {B : Nat → Prop} {v k x : V} {ao ak ax : Option Addr} {cap ck cx : Nat} {w : World} (hv : IsW B w v (.slice ao v.l.length cap)) (hk : IsW B w k (.slice ak k.l.length ck)) (hx : IsW B w x (.slice ax x.l.length cx)) (hwv : wt v ≤ 200000) (hwk : wt k ≤ 200000) (hwx : wt x ≤ 200000) (h4 : v.k = 4) (h1 : k.k = 1) (hn : 0 ≤ k.n ∧ k.n < v.l.length) :
    Calls Try.prog 35 #[.agg #[.int .i64 v.k, .int .i64 v.n, .string ⟨v.t.toArray⟩, .slice ao v.l.length cap], .agg #[.int .i64 k.k, .int .i64 k.n, .string ⟨k.t.toArray⟩, .slice ak k.l.length ck], .agg #[.int .i64 x.k, .int .i64 x.n, .string ⟨x.t.toArray⟩, .slice ax x.l.length cx]] w fun r w' => OutV w (putV v k x) r w' := by
  obtain ⟨ao', cap', e, c1, c2⟩ := hv.vs.slice
  simp only [Value.slice.injEq] at e
  obtain ⟨rfl, -, rfl⟩ := e
  have hwts := wt_eq v
  have hlv := wts_len v.l
  obtain ⟨w0, w1, w2, w3, hW, hW1, hW2, hW3, hs0, hs1, hs2, hs3, hB3, hc, hr⟩ := boxed3r w v (.slice ao v.l.length cap) k (.slice ak k.l.length ck) x (.slice ax x.l.length cx)
  obtain ⟨⟨a0, a1, a2, a3⟩, ⟨b0, b1, b2, b3⟩, ⟨x0, x1, x2, x3⟩⟩ := hc w3 (Below.refl _ _)
  have hCv := rcopy_any _ v _ B w3 (Nat.lt_succ_self _) (by omega) (hv.below hB3)
  have hCx : ∀ w4, Below w3.heap.size w3 w4 → Calls Try.prog 60 #[.agg #[.int .i64 x.k, .int .i64 x.n, .string ⟨x.t.toArray⟩, .slice ax x.l.length cx]] w4 fun r w' => NewG w4 x r w' := fun w4 hb4 => rcopy_any _ x _ B w4 (Nat.lt_succ_self _) (by omega) ((hx.below hB3).below hb4)
  have hvr : Hid (v.t.length ≤ maxLen ∧ InR v.k ∧ InR v.n) := ⟨hv.txt, hv.kr, hv.nr⟩
  obtain ⟨i, hi⟩ : ∃ i : Nat, Hid (k.n = (i : Int)) := ⟨k.n.toNat, by show _ = _; omega⟩
  have hil : i < v.l.length := by have := hi.out; omega
  obtain ⟨u, HU⟩ : ∃ u : V, Hid (u = .mk v.k v.n v.t (spl v.l i (i + 1) [x])) := ⟨_, rfl⟩
  have hfin : Hid (putV v k x = wgV u) := by
    have hp : plV v k = (i, 0) := by unfold plV; rw [if_pos ⟨h4, h1⟩, if_pos hn, hi.out]; simp
    show _ = _; unfold putV; rw [hp, if_pos rfl, HU.out]
  have huw : wt u ≤ 1000000 := by rw [HU.out, wt_mk]; have := wts_spl v.l i (i + 1) [x]; simp only [wts] at this; omega
  have huk : Hid (u.k = v.k ∧ u.n = v.n ∧ u.t = v.t ∧ u.l = spl v.l i (i + 1) [x]) := by rw [HU.out]; exact ⟨rfl, rfl, rfl, rfl⟩
  have hk4 : (v.k == 4) = true := by simp [h4]
  have hk1 : (k.k == 1) = true := by simp [h1]
  have hi0 : (0 : Int) ≤ (i : Int) := by omega
  have hi1 : (i : Int) < (v.l.length : Int) := by omega
  have hi2 : ¬ (i : Int) < 0 := by omega
  have hi3 : ¬ (v.l.length : Int) ≤ (i : Int) := by omega
  have hd0 : decide ((i : Int) < 0) = false := by simp
  clear hv hk hx h4 h1 hn HU
  go_enter Try.func35, Try.ntmps35
  go_wp2_with fail
  refine hCv.mono ?_
  rintro e wc ⟨⟨av, cv, rfl, -, hGc⟩, hbc⟩
  clear hCv a0 a1 a2 a3 b0 b1 b2 b3 x0 x1 x2 x3
  obtain ⟨wz, w4, hWz, hW4, hbc4, hs4, hsz, hblk4, ⟨y0, y1, y2, y3⟩, ⟨z0, z1, z2, z3⟩⟩ := rbox_set wc (.int .i64 v.k) (.int .i64 v.n) (.string ⟨v.t.toArray⟩) (.slice av v.l.length cv)
  have hsc := hbc.size
  have hb34 : Below w3.heap.size w3 w4 := hbc.trans (hbc4.mono hsc)
  obtain ⟨⟨a0, a1, a2, a3⟩, ⟨b0, b1, b2, b3⟩, ⟨x0, x1, x2, x3⟩⟩ := hc w4 hb34
  obtain ⟨q0, q1, q2, q3, p0, p1, p2, p3⟩ := cells_of4 hblk4
  rw [hi.out] at b1
  have hG4 : Gv (fun k => w.heap.size + 4 ≤ k ∧ k ≠ wc.heap.size) w4 (.slice av v.l.length cv) v.l := (hGc.base (P' := fun k => w.heap.size + 4 ≤ k ∧ k ≠ wc.heap.size) (fun k h1 h2 => ⟨by have : w3.heap.size ≤ k := h1; omega, by omega⟩)).below hbc4
  have hCx4 := hCx w4.drew (hb34.trans ((below_drewN w4 1).mono hb34.size))
  have hSk : ∀ ww, Below w4.heap.size w4 ww → ww.cell? ⟨wc.heap.size, 3, none⟩ = some (.slice av v.l.length cv) ∧ ww.cell? ⟨w.heap.size + 1, 1, none⟩ = some (.int .i64 i) ∧ ww.cell? ⟨w.heap.size + 2, 0, none⟩ = some (.int .i64 x.k) ∧ ww.cell? ⟨w.heap.size + 2, 1, none⟩ = some (.int .i64 x.n) ∧ ww.cell? ⟨w.heap.size + 2, 2, none⟩ = some (.string ⟨x.t.toArray⟩) ∧ ww.cell? ⟨w.heap.size + 2, 3, none⟩ = some (.slice ax x.l.length cx) := by
    intro ww hb
    obtain ⟨f, -⟩ := bcell hb
    exact ⟨(f _ _ (by omega)).trans q3, (f _ _ (by omega)).trans b1, (f _ _ (by omega)).trans x0, (f _ _ (by omega)).trans x1, (f _ _ (by omega)).trans x2, (f _ _ (by omega)).trans x3⟩
  have hb35 := hb34
  have hblk5 := hblk4
  clear hc hGc hCx
  go_wp2_with fail
  refine wpE_begin (S := fun w' => w'.cell? ⟨wc.heap.size, 3, none⟩ = some (.slice av v.l.length cv) ∧ w'.cell? ⟨w.heap.size + 1, 1, none⟩ = some (.int .i64 i) ∧ w'.cell? ⟨w.heap.size + 2, 0, none⟩ = some (.int .i64 x.k) ∧ w'.cell? ⟨w.heap.size + 2, 1, none⟩ = some (.int .i64 x.n) ∧ w'.cell? ⟨w.heap.size + 2, 2, none⟩ = some (.string ⟨x.t.toArray⟩) ∧ w'.cell? ⟨w.heap.size + 2, 3, none⟩ = some (.slice ax x.l.length cx)) (N := fun j => decide (j < 7)) (by kernel_rfl) ?_
  have hS0 : w4.drew.cell? ⟨wc.heap.size, 3, none⟩ = some (.slice av v.l.length cv) ∧ w4.drew.cell? ⟨w.heap.size + 1, 1, none⟩ = some (.int .i64 i) ∧ w4.drew.cell? ⟨w.heap.size + 2, 0, none⟩ = some (.int .i64 x.k) ∧ w4.drew.cell? ⟨w.heap.size + 2, 1, none⟩ = some (.int .i64 x.n) ∧ w4.drew.cell? ⟨w.heap.size + 2, 2, none⟩ = some (.string ⟨x.t.toArray⟩) ∧ w4.drew.cell? ⟨w.heap.size + 2, 3, none⟩ = some (.slice ax x.l.length cx) := hSk _ (Below.refl _ _).drew
  refine wpE_takeX (some 34) (fun j => [1, 6, 7].contains j) (i := 0) (v := .pointer (some ⟨wc.heap.size, 3, none⟩)) rfl rfl (by kernel_rfl) (by kernel_rfl) (by kernel_rfl) (by kernel_rfl) (fun j hj => by simp at hj; show j < 8; omega) (fun _ _ _ h => h) rfl (fun w' hS => by obtain ⟨g0, g1, g2, g3, g4, g5⟩ := hS; go_simp) hS0 ?_
  try simp only [Act.put, List.setIfInBounds_toArray, List.set_cons_zero, List.set_cons_succ]
  refine wpE_takeX (some 35) (fun j => [6, 7].contains j) (i := 1) (v := .slice av v.l.length cv) rfl rfl (by kernel_rfl) (by kernel_rfl) (by kernel_rfl) (by kernel_rfl) (fun j hj => by simp at hj; show j < 8; omega) (fun _ _ _ h => h) rfl (fun w' hS => by obtain ⟨g0, g1, g2, g3, g4, g5⟩ := hS; go_simp) hS0 ?_
  try simp only [Act.put, List.setIfInBounds_toArray, List.set_cons_zero, List.set_cons_succ]
  refine wpE_takeX (some 36) (fun j => [3, 6, 7].contains j) (i := 2) (v := .pointer (some ⟨w.heap.size + 1, 1, none⟩)) rfl rfl (by kernel_rfl) (by kernel_rfl) (by kernel_rfl) (by kernel_rfl) (fun j hj => by simp at hj; show j < 8; omega) (fun _ _ _ h => h) rfl (fun w' hS => by obtain ⟨g0, g1, g2, g3, g4, g5⟩ := hS; go_simp) hS0 ?_
  try simp only [Act.put, List.setIfInBounds_toArray, List.set_cons_zero, List.set_cons_succ]
  refine wpE_takeX (some 37) (fun j => [6, 7].contains j) (i := 3) (v := .int .i64 i) rfl rfl (by kernel_rfl) (by kernel_rfl) (by kernel_rfl) (by kernel_rfl) (fun j hj => by simp at hj; show j < 8; omega) (fun _ _ _ h => h) rfl (fun w' hS => by obtain ⟨g0, g1, g2, g3, g4, g5⟩ := hS; go_simp) hS0 ?_
  try simp only [Act.put, List.setIfInBounds_toArray, List.set_cons_zero, List.set_cons_succ]
  refine wpE_takeX (some 38) (fun j => [5, 6, 7].contains j) (i := 4) (v := .agg #[.int .i64 x.k, .int .i64 x.n, .string ⟨x.t.toArray⟩, .slice ax x.l.length cx]) rfl rfl (by kernel_rfl) (by kernel_rfl) (by kernel_rfl) (by kernel_rfl) (fun j hj => by simp at hj; show j < 8; omega) (fun _ _ _ h => h) rfl (fun w' hS => by obtain ⟨g0, g1, g2, g3, g4, g5⟩ := hS; go_simp) hS0 ?_
  try simp only [Act.put, List.setIfInBounds_toArray, List.set_cons_zero, List.set_cons_succ]
  refine wpE_one (i := 5) (by kernel_rfl) rfl rfl (fun K hK => ?_)
  go_simp
  refine hCx4.mono ?_
  rintro e w6 ⟨⟨ay, cy, rfl, hx6, -⟩, hb6⟩
  replace hb6 : Below w4.heap.size w4 w6 := below_undrew hb6
  replace hx6 : IsW (From w4.heap.size) w6 x (.slice ay x.l.length cy) := hx6
  have hs6 := hb6.size
  clear hCx4
  refine hK _ _ (fun _ => hSk _ hb6) ?_
  clear hK K
  try simp only [Act.put, List.setIfInBounds_toArray, List.set_cons_zero, List.set_cons_succ]
  have hG6 := hG4.below hb6
  obtain ⟨g, i0, i1, i2, i3, rfl, hPg, hgl, j0, j1, j2, j3, l0, l1, l2, l3⟩ := hG4.cells (i := i) (by omega)
  obtain ⟨f6, ff6⟩ := bcell hb6
  rw [← f6 _ _ hgl] at j0 j1 j2 j3
  rw [← ff6 _ _ hgl] at l0 l1 l2 l3
  refine wpE_one (i := 6) (by kernel_rfl) rfl rfl (fun K hK => ?_)
  go_simp
  refine hK _ _ (fun _ => hSk _ hb6) ?_
  clear hK K
  try simp only [Act.put, List.setIfInBounds_toArray, List.set_cons_zero, List.set_cons_succ]
  refine wpE_one (i := 7) (by kernel_rfl) rfl rfl (fun K hK => ?_)
  go_simp
  refine hK _ _ (fun h => by cases h) ?_
  clear hK K
  try simp only [Act.put, List.setIfInBounds_toArray, List.set_cons_zero, List.set_cons_succ]
  refine wpE_done (by kernel_rfl) ?_
  have hset := hG6.set (i := i) (by omega) (isV_iff.2 ⟨_, rfl, hx6.base (B' := fun k => (w.heap.size + 4 ≤ k ∧ k ≠ wc.heap.size) ∧ k ≠ g) (fun k h1 _ => by have h2 : w4.heap.size ≤ k := h1; exact ⟨⟨by omega, by omega⟩, by omega⟩)⟩)
  obtain ⟨w8, hW8⟩ : ∃ w8, set4At w6 g (i * 4) (.int .i64 x.k) (.int .i64 x.n) (.string ⟨x.t.toArray⟩) (.slice ay x.l.length cy) = w8 := ⟨_, rfl⟩
  rw [hW8] at hset
  have hblk8 : w8.heap[wc.heap.size]? = some (.cells #[.int .i64 v.k, .int .i64 v.n, .string ⟨v.t.toArray⟩, .slice (some ⟨g, 0, none⟩) v.l.length cv] 24) := by
    rw [← hW8, set4At_other (by have := hPg.2; omega), hb6.block _ (by omega)]; exact hblk5
  have hb38 : Below w3.heap.size w3 w8 := by
    rw [← hW8]
    exact below_set4At (hb35.trans (hb6.mono hb35.size)) (by have := hPg.1; omega) _ _ _ _ _
  obtain ⟨m0, m1, m2, m3, -⟩ := cells_of4 hblk8
  have hlu : u.l.length = v.l.length := by rw [huk.out.2.2.2]; simp [spl]; omega
  have hu8 : IsW (fun k => w.heap.size + 4 ≤ k ∧ k ≠ wc.heap.size) w8 u (.slice (some ⟨g, 0, none⟩) u.l.length cv) := by
    obtain ⟨q1, q2, q3, q4⟩ := huk.out
    refine ⟨by rw [q3]; exact hvr.out.1, by rw [q1]; exact hvr.out.2.1, by rw [q2]; exact hvr.out.2.2, ?_⟩
    rw [hlu, q4]; exact hset.vs
  have hL := rlimit_any hu8 huw
  rw [huk.out.1, huk.out.2.1, huk.out.2.2.1, hlu, ← hfin.out] at hL
  obtain ⟨o, HO⟩ : ∃ o, Hid (putV v k x = o) := ⟨_, rfl⟩
  rw [HO.out] at hL
  simp only [set4At] at hW8
  rw [hW8]
  have hq1 : ¬ Lob (fun k => w.heap.size + 4 ≤ k ∧ k ≠ wc.heap.size) w8.heap.size (w.heap.size + 3) := fun h => by have := h.1.1; omega
  have hq2 : ∀ k, Lob (fun k => w.heap.size + 4 ≤ k ∧ k ≠ wc.heap.size) w8.heap.size k → w.heap.size ≤ k := fun k h => by have := h.1.1; omega
  clear hset hG6 hG4 hx6 hb6 hSk hS0 j0 j1 j2 j3 l0 l1 l2 l3 f6 ff6 hW8 hu8 hfin huk
  simp only [Exit.then]
  refine ‹∀ (a : Act) (w : World), _ → _› _ _ ?_
  go_wp2_with fail
  refine hL.mono ?_
  rintro e wl ⟨⟨al, cl, rfl, hl9⟩, hbl⟩
  clear hL
  have hb3l : Below w3.heap.size w3 wl := hb38.trans (hbl.mono hb38.size)
  obtain ⟨r0, r1, r2, r3, s0, s1, s2, s3, hz⟩ := hr wl hb3l
  have hres := OutV.kept hl9 (hB3.trans (hb3l.mono hB3.size)) (g := w.heap.size + 3) (by omega) hq1 hq2
  clear hr hl9
  go_wp2_with fail
  exact bodyPost_ret (v := .tuple #[.agg #[.int .i64 o.1.k, .int .i64 o.1.n, .string ⟨o.1.t.toArray⟩, .slice al o.1.l.length cl], .int .i64 o.2]) (by simp [results, Try.results35, go_sem, hz, r0, r1, r2, r3]) rfl (by rw [HO.out]; exact hres)
end Go.Proofs.Ytkbplffckkjbfaa
namespace Go.Proofs.Ytkbplffckkjbfaa
open Go.RowKit
set_option linter.unusedVariables false
set_option linter.unusedSimpArgs false
attribute [local go_sem ↓] Go.wp_at_zero Go.wp_at_succ

set_option maxRecDepth 100000 in
set_option maxHeartbeats 8000000 in
theorem rput_full {B : Nat → Prop} {v k x : V} {ao ak ax : Option Addr} {cap ck cx : Nat} {w : World} (hv : IsW B w v (.slice ao v.l.length cap)) (hk : IsW B w k (.slice ak k.l.length ck)) (hx : IsW B w x (.slice ax x.l.length cx)) (hwv : wt v ≤ 200000) (hwk : wt k ≤ 200000) (hwx : wt x ≤ 200000) (ht : Tidy v) (h5 : v.k = 5) (hh : hit k v.l = false) (h64 : 64 ≤ v.l.length / 2) :
    Calls Try.prog 35 #[.agg #[.int .i64 v.k, .int .i64 v.n, .string ⟨v.t.toArray⟩, .slice ao v.l.length cap], .agg #[.int .i64 k.k, .int .i64 k.n, .string ⟨k.t.toArray⟩, .slice ak k.l.length ck], .agg #[.int .i64 x.k, .int .i64 x.n, .string ⟨x.t.toArray⟩, .slice ax x.l.length cx]] w fun r w' => OutV w (putV v k x) r w' := by
  obtain ⟨ao', cap', e, c1, c2⟩ := hv.vs.slice
  simp only [Value.slice.injEq] at e
  obtain ⟨rfl, -, rfl⟩ := e
  have hwts := wt_eq v
  have hlv := wts_len v.l
  obtain ⟨w0, w1, w2, w3, hW, hW1, hW2, hW3, hs0, hs1, hs2, hs3, hB3, hc, hr⟩ := boxed3r w v (.slice ao v.l.length cap) k (.slice ak k.l.length ck) x (.slice ax x.l.length cx)
  obtain ⟨⟨a0, a1, a2, a3⟩, ⟨b0, b1, b2, b3⟩, ⟨x0, x1, x2, x3⟩⟩ := hc w3 (Below.refl _ _)
  have hCv := rcopy_any _ v _ B w3 (Nat.lt_succ_self _) (by omega) (hv.below hB3)
  have hCx : ∀ w4, Below w3.heap.size w3 w4 → Calls Try.prog 60 #[.agg #[.int .i64 x.k, .int .i64 x.n, .string ⟨x.t.toArray⟩, .slice ax x.l.length cx]] w4 fun r w' => NewG w4 x r w' := fun w4 hb4 => rcopy_any _ x _ B w4 (Nat.lt_succ_self _) (by omega) ((hx.below hB3).below hb4)
  have hvr : Hid (v.t.length ≤ maxLen ∧ InR v.k ∧ InR v.n) := ⟨hv.txt, hv.kr, hv.nr⟩
  have hk4 : (v.k == 4) = false := by simp [h5]
  have hk5 : (v.k != 5) = false := by simp [h5]
  obtain ⟨t1, t2⟩ := ht h5
  have hP : ∀ w4, Below w3.heap.size w3 w4 → Calls Try.prog 59 #[.agg #[.int .i64 v.k, .int .i64 v.n, .string ⟨v.t.toArray⟩, .slice ao v.l.length cap], .agg #[.int .i64 k.k, .int .i64 k.n, .string ⟨k.t.toArray⟩, .slice ak k.l.length ck]] w4 fun r w' => r = .returned (.int .i64 (plI k v.l)) ∧ Below w4.heap.size w4 w' := fun w4 hb4 => rplace_any ((hv.below hB3).below hb4) ((hk.below hB3).below hb4) (by omega) t1 t2
  have hfin : Hid (putV v k x = (V.zero, 53)) := by
    have hp : plV v k = (0, 52) := by unfold plV; rw [if_neg (by omega), if_pos h5, hh]; rfl
    show _ = _; unfold putV; rw [hp, if_neg (by decide), if_neg (by omega), if_pos h64]
  have hI : plI k v.l = -1 := by unfold plI; rw [hh]; rfl
  simp only [hI] at hP
  have h128 : (128 : Int) ≤ (v.l.length : Int) := by omega
  clear hv hk hx h5 hh hI h64 ht
  go_enter Try.func35, Try.ntmps35
  go_wp2_with fail
  refine hCv.mono ?_
  rintro e wc ⟨⟨av, cv, rfl, -, hGc⟩, hbc⟩
  clear hCv a0 a1 a2 a3 b0 b1 b2 b3 x0 x1 x2 x3
  obtain ⟨wz, w4, hWz, hW4, hbc4, hs4, hsz, hblk4, ⟨y0, y1, y2, y3⟩, ⟨z0, z1, z2, z3⟩⟩ := rbox_set wc (.int .i64 v.k) (.int .i64 v.n) (.string ⟨v.t.toArray⟩) (.slice av v.l.length cv)
  have hsc := hbc.size
  have hb34 : Below w3.heap.size w3 w4 := hbc.trans (hbc4.mono hsc)
  obtain ⟨⟨a0, a1, a2, a3⟩, ⟨b0, b1, b2, b3⟩, ⟨x0, x1, x2, x3⟩⟩ := hc w4 hb34
  obtain ⟨q0, q1, q2, q3, p0, p1, p2, p3⟩ := cells_of4 hblk4
  have hP4 := hP w4 hb34
  clear hP
  go_wp2_with fail
  refine hP4.mono ?_
  rintro e w5 ⟨rfl, hb45⟩
  clear hP4 y0 y1 y2 y3 z0 z1 z2 z3 q0 q1 q2 q3 p0 p1 p2 p3 a0 a1 a2 a3 b0 b1 b2 b3 x0 x1 x2 x3 hW4 hWz
  have hs45 := hb45.size
  have hb35 : Below w3.heap.size w3 w5 := hb34.trans (hb45.mono hb34.size)
  have hblk5 : w5.heap[wc.heap.size]? = some (.cells #[.int .i64 v.k, .int .i64 v.n, .string ⟨v.t.toArray⟩, .slice av v.l.length cv] 24) := (hb45.block _ (by omega)).trans hblk4
  obtain ⟨⟨a0, a1, a2, a3⟩, ⟨b0, b1, b2, b3⟩, ⟨x0, x1, x2, x3⟩⟩ := hc w5 hb35
  obtain ⟨q0, q1, q2, q3, p0, p1, p2, p3⟩ := cells_of4 hblk5
  clear hc hGc
  obtain ⟨r0, r1, r2, r3, s0, s1, s2, s3, hz⟩ := hr w5 (hb35)
  have hres := outV_zero (e := 53) (below_set4 (hB3.trans ((hb35).mono hB3.size)) (g := w.heap.size + 3) (by omega) (.int .i64 0) (.int .i64 0) (.string ⟨#[]⟩) (.slice none 0 0))
  rw [← hfin.out] at hres
  clear hr
  go_wp2_with fail
  exact bodyPost_ret (v := .tuple #[.agg #[.int .i64 0, .int .i64 0, .string ⟨#[]⟩, .slice none 0 0], .int .i64 53]) (by simp [results, Try.results35, go_sem, hz, r0, r1, r2, r3]) rfl hres
set_option maxRecDepth 100000 in
set_option maxHeartbeats 8000000 in
theorem rput_hit {B : Nat → Prop} {v k x : V} {ao ak ax : Option Addr} {cap ck cx : Nat} {w : World} (hv : IsW B w v (.slice ao v.l.length cap)) (hk : IsW B w k (.slice ak k.l.length ck)) (hx : IsW B w x (.slice ax x.l.length cx)) (hwv : wt v ≤ 200000) (hwk : wt k ≤ 200000) (hwx : wt x ≤ 200000) (ht : Tidy v) (h5 : v.k = 5) (hh : hit k v.l = true) :
    Calls Try.prog 35 #[.agg #[.int .i64 v.k, .int .i64 v.n, .string ⟨v.t.toArray⟩, .slice ao v.l.length cap], .agg #[.int .i64 k.k, .int .i64 k.n, .string ⟨k.t.toArray⟩, .slice ak k.l.length ck], .agg #[.int .i64 x.k, .int .i64 x.n, .string ⟨x.t.toArray⟩, .slice ax x.l.length cx]] w fun r w' => OutV w (putV v k x) r w' := by
  obtain ⟨ao', cap', e, c1, c2⟩ := hv.vs.slice
  simp only [Value.slice.injEq] at e
  obtain ⟨rfl, -, rfl⟩ := e
  have hwts := wt_eq v
  have hlv := wts_len v.l
  obtain ⟨w0, w1, w2, w3, hW, hW1, hW2, hW3, hs0, hs1, hs2, hs3, hB3, hc, hr⟩ := boxed3r w v (.slice ao v.l.length cap) k (.slice ak k.l.length ck) x (.slice ax x.l.length cx)
  obtain ⟨⟨a0, a1, a2, a3⟩, ⟨b0, b1, b2, b3⟩, ⟨x0, x1, x2, x3⟩⟩ := hc w3 (Below.refl _ _)
  have hCv := rcopy_any _ v _ B w3 (Nat.lt_succ_self _) (by omega) (hv.below hB3)
  have hCx : ∀ w4, Below w3.heap.size w3 w4 → Calls Try.prog 60 #[.agg #[.int .i64 x.k, .int .i64 x.n, .string ⟨x.t.toArray⟩, .slice ax x.l.length cx]] w4 fun r w' => NewG w4 x r w' := fun w4 hb4 => rcopy_any _ x _ B w4 (Nat.lt_succ_self _) (by omega) ((hx.below hB3).below hb4)
  have hvr : Hid (v.t.length ≤ maxLen ∧ InR v.k ∧ InR v.n) := ⟨hv.txt, hv.kr, hv.nr⟩
  have hk4 : (v.k == 4) = false := by simp [h5]
  have hk5 : (v.k != 5) = false := by simp [h5]
  obtain ⟨t1, t2⟩ := ht h5
  have hP : ∀ w4, Below w3.heap.size w3 w4 → Calls Try.prog 59 #[.agg #[.int .i64 v.k, .int .i64 v.n, .string ⟨v.t.toArray⟩, .slice ao v.l.length cap], .agg #[.int .i64 k.k, .int .i64 k.n, .string ⟨k.t.toArray⟩, .slice ak k.l.length ck]] w4 fun r w' => r = .returned (.int .i64 (plI k v.l)) ∧ Below w4.heap.size w4 w' := fun w4 hb4 => rplace_any ((hv.below hB3).below hb4) ((hk.below hB3).below hb4) (by omega) t1 t2
  have hlt := (List.getElem?_eq_some_iff.1 (hit_some hh)).1
  obtain ⟨i, hi⟩ : ∃ i : Nat, 2 * kat k v.l = i := ⟨_, rfl⟩
  have hI : plI k v.l = (i : Int) := by unfold plI; rw [hh, ← hi]; rfl
  simp only [hI] at hP
  rw [hi] at hlt
  obtain ⟨j, Hj⟩ : ∃ j : Nat, Hid (i + 1 = j) := ⟨_, rfl⟩
  have hjl : j < v.l.length := by have := Hj.out; omega
  obtain ⟨u, HU⟩ : ∃ u : V, Hid (u = .mk v.k v.n v.t (spl v.l j (j + 1) [x])) := ⟨_, rfl⟩
  have hfin : Hid (putV v k x = wgV u) := by
    have hp : plV v k = (j, 0) := by unfold plV; rw [if_neg (by omega), if_pos h5, hh, hi, Hj.out]; rfl
    show _ = _; unfold putV; rw [hp, if_pos rfl, HU.out]
  have huw : wt u ≤ 1000000 := by rw [HU.out, wt_mk]; have := wts_spl v.l j (j + 1) [x]; simp only [wts] at this; omega
  have huk : Hid (u.k = v.k ∧ u.n = v.n ∧ u.t = v.t ∧ u.l = spl v.l j (j + 1) [x]) := by rw [HU.out]; exact ⟨rfl, rfl, rfl, rfl⟩
  have hi0 : (0 : Int) ≤ (i : Int) := by omega
  have hj0 : (0 : Int) ≤ (j : Int) := by omega
  have hj1 : (j : Int) < (v.l.length : Int) := by omega
  have hw1 : IntKind.i64.wrap ((i : Int) + 1) = (j : Int) := by have := Hj.out; rw [IntKind.wrap_i64]; omega
  have hw2 : (i : Int) + 1 = (j : Int) := by have := Hj.out; omega
  have hw3 : IntKind.i64.wrap (j : Int) = (j : Int) := by rw [IntKind.wrap_i64]; omega
  clear hv hk hx h5 HU hi hI hh ht
  go_enter Try.func35, Try.ntmps35
  go_wp2_with fail
  refine hCv.mono ?_
  rintro e wc ⟨⟨av, cv, rfl, -, hGc⟩, hbc⟩
  clear hCv a0 a1 a2 a3 b0 b1 b2 b3 x0 x1 x2 x3
  obtain ⟨wz, w4, hWz, hW4, hbc4, hs4, hsz, hblk4, ⟨y0, y1, y2, y3⟩, ⟨z0, z1, z2, z3⟩⟩ := rbox_set wc (.int .i64 v.k) (.int .i64 v.n) (.string ⟨v.t.toArray⟩) (.slice av v.l.length cv)
  have hsc := hbc.size
  have hb34 : Below w3.heap.size w3 w4 := hbc.trans (hbc4.mono hsc)
  obtain ⟨⟨a0, a1, a2, a3⟩, ⟨b0, b1, b2, b3⟩, ⟨x0, x1, x2, x3⟩⟩ := hc w4 hb34
  obtain ⟨q0, q1, q2, q3, p0, p1, p2, p3⟩ := cells_of4 hblk4
  have hP4 := hP w4 hb34
  clear hP
  go_wp2_with fail
  refine hP4.mono ?_
  rintro e w5 ⟨rfl, hb45⟩
  clear hP4 y0 y1 y2 y3 z0 z1 z2 z3 q0 q1 q2 q3 p0 p1 p2 p3 a0 a1 a2 a3 b0 b1 b2 b3 x0 x1 x2 x3 hW4 hWz
  have hs45 := hb45.size
  have hb35 : Below w3.heap.size w3 w5 := hb34.trans (hb45.mono hb34.size)
  have hblk5 : w5.heap[wc.heap.size]? = some (.cells #[.int .i64 v.k, .int .i64 v.n, .string ⟨v.t.toArray⟩, .slice av v.l.length cv] 24) := (hb45.block _ (by omega)).trans hblk4
  obtain ⟨⟨a0, a1, a2, a3⟩, ⟨b0, b1, b2, b3⟩, ⟨x0, x1, x2, x3⟩⟩ := hc w5 hb35
  obtain ⟨q0, q1, q2, q3, p0, p1, p2, p3⟩ := cells_of4 hblk5
  have hG4 : Gv (fun k => w.heap.size + 4 ≤ k ∧ k ≠ wc.heap.size) w5 (.slice av v.l.length cv) v.l := ((hGc.base (P' := fun k => w.heap.size + 4 ≤ k ∧ k ≠ wc.heap.size) (fun k h1 h2 => ⟨by have : w3.heap.size ≤ k := h1; omega, by omega⟩)).below hbc4).below hb45
  have hCx4 := hCx w5.drew (hb35.trans ((below_drewN w5 1).mono hb35.size))
  have hSk : ∀ ww, Below w5.heap.size w5 ww → ww.cell? ⟨wc.heap.size, 3, none⟩ = some (.slice av v.l.length cv) ∧ ww.cell? ⟨w.heap.size + 2, 0, none⟩ = some (.int .i64 x.k) ∧ ww.cell? ⟨w.heap.size + 2, 1, none⟩ = some (.int .i64 x.n) ∧ ww.cell? ⟨w.heap.size + 2, 2, none⟩ = some (.string ⟨x.t.toArray⟩) ∧ ww.cell? ⟨w.heap.size + 2, 3, none⟩ = some (.slice ax x.l.length cx) := by
    intro ww hb
    obtain ⟨f, -⟩ := bcell hb
    exact ⟨(f _ _ (by omega)).trans q3, (f _ _ (by omega)).trans x0, (f _ _ (by omega)).trans x1, (f _ _ (by omega)).trans x2, (f _ _ (by omega)).trans x3⟩
  clear hc hGc hCx
  go_wp2_with fail
  refine wpE_begin (S := fun w' => w'.cell? ⟨wc.heap.size, 3, none⟩ = some (.slice av v.l.length cv) ∧ w'.cell? ⟨w.heap.size + 2, 0, none⟩ = some (.int .i64 x.k) ∧ w'.cell? ⟨w.heap.size + 2, 1, none⟩ = some (.int .i64 x.n) ∧ w'.cell? ⟨w.heap.size + 2, 2, none⟩ = some (.string ⟨x.t.toArray⟩) ∧ w'.cell? ⟨w.heap.size + 2, 3, none⟩ = some (.slice ax x.l.length cx)) (N := fun j => decide (j < 7)) (by kernel_rfl) ?_
  have hS0 : w5.drew.cell? ⟨wc.heap.size, 3, none⟩ = some (.slice av v.l.length cv) ∧ w5.drew.cell? ⟨w.heap.size + 2, 0, none⟩ = some (.int .i64 x.k) ∧ w5.drew.cell? ⟨w.heap.size + 2, 1, none⟩ = some (.int .i64 x.n) ∧ w5.drew.cell? ⟨w.heap.size + 2, 2, none⟩ = some (.string ⟨x.t.toArray⟩) ∧ w5.drew.cell? ⟨w.heap.size + 2, 3, none⟩ = some (.slice ax x.l.length cx) := hSk _ (Below.refl _ _).drew
  refine wpE_takeX (some 54) (fun j => [1, 6, 7].contains j) (i := 0) (v := .pointer (some ⟨wc.heap.size, 3, none⟩)) rfl rfl (by kernel_rfl) (by kernel_rfl) (by kernel_rfl) (by kernel_rfl) (fun j hj => by simp at hj; show j < 8; omega) (fun _ _ _ h => h) rfl (fun w' hS => by obtain ⟨g0, g1, g2, g3, g4⟩ := hS; go_simp) hS0 ?_
  try simp only [Act.put, List.setIfInBounds_toArray, List.set_cons_zero, List.set_cons_succ]
  refine wpE_takeX (some 55) (fun j => [6, 7].contains j) (i := 1) (v := .slice av v.l.length cv) rfl rfl (by kernel_rfl) (by kernel_rfl) (by kernel_rfl) (by kernel_rfl) (fun j hj => by simp at hj; show j < 8; omega) (fun _ _ _ h => h) rfl (fun w' hS => by obtain ⟨g0, g1, g2, g3, g4⟩ := hS; go_simp) hS0 ?_
  try simp only [Act.put, List.setIfInBounds_toArray, List.set_cons_zero, List.set_cons_succ]
  refine wpE_takeX (some 56) (fun j => [3, 6, 7].contains j) (i := 2) (v := .int .i64 i) rfl rfl (by kernel_rfl) (by kernel_rfl) (by kernel_rfl) (by kernel_rfl) (fun j hj => by simp at hj; show j < 8; omega) (fun _ _ _ h => h) rfl (fun w' hS => by obtain ⟨g0, g1, g2, g3, g4⟩ := hS; go_simp) hS0 ?_
  try simp only [Act.put, List.setIfInBounds_toArray, List.set_cons_zero, List.set_cons_succ]
  refine wpE_takeX (some 57) (fun j => [6, 7].contains j) (i := 3) (v := .int .i64 j) rfl rfl (by kernel_rfl) (by kernel_rfl) (by kernel_rfl) (by kernel_rfl) (fun j hj => by simp at hj; show j < 8; omega) (fun _ _ _ h => h) rfl (fun w' hS => by obtain ⟨g0, g1, g2, g3, g4⟩ := hS; go_simp) hS0 ?_
  try simp only [Act.put, List.setIfInBounds_toArray, List.set_cons_zero, List.set_cons_succ]
  refine wpE_takeX (some 58) (fun j => [5, 6, 7].contains j) (i := 4) (v := .agg #[.int .i64 x.k, .int .i64 x.n, .string ⟨x.t.toArray⟩, .slice ax x.l.length cx]) rfl rfl (by kernel_rfl) (by kernel_rfl) (by kernel_rfl) (by kernel_rfl) (fun j hj => by simp at hj; show j < 8; omega) (fun _ _ _ h => h) rfl (fun w' hS => by obtain ⟨g0, g1, g2, g3, g4⟩ := hS; go_simp) hS0 ?_
  try simp only [Act.put, List.setIfInBounds_toArray, List.set_cons_zero, List.set_cons_succ]
  refine wpE_one (i := 5) (by kernel_rfl) rfl rfl (fun K hK => ?_)
  go_simp
  refine hCx4.mono ?_
  rintro e w6 ⟨⟨ay, cy, rfl, hx6, -⟩, hb6⟩
  replace hb6 : Below w5.heap.size w5 w6 := below_undrew hb6
  replace hx6 : IsW (From w5.heap.size) w6 x (.slice ay x.l.length cy) := hx6
  have hs6 := hb6.size
  clear hCx4
  refine hK _ _ (fun _ => hSk _ hb6) ?_
  clear hK K
  try simp only [Act.put, List.setIfInBounds_toArray, List.set_cons_zero, List.set_cons_succ]
  have hG6 := hG4.below hb6
  obtain ⟨g, i0, i1, i2, i3, rfl, hPg, hgl, j0, j1, j2, j3, l0, l1, l2, l3⟩ := hG4.cells (i := j) (by omega)
  obtain ⟨f6, ff6⟩ := bcell hb6
  rw [← f6 _ _ hgl] at j0 j1 j2 j3
  rw [← ff6 _ _ hgl] at l0 l1 l2 l3
  refine wpE_one (i := 6) (by kernel_rfl) rfl rfl (fun K hK => ?_)
  go_simp
  refine hK _ _ (fun _ => hSk _ hb6) ?_
  clear hK K
  try simp only [Act.put, List.setIfInBounds_toArray, List.set_cons_zero, List.set_cons_succ]
  refine wpE_one (i := 7) (by kernel_rfl) rfl rfl (fun K hK => ?_)
  go_simp
  refine hK _ _ (fun h => by cases h) ?_
  clear hK K
  try simp only [Act.put, List.setIfInBounds_toArray, List.set_cons_zero, List.set_cons_succ]
  refine wpE_done (by kernel_rfl) ?_
  have hset := hG6.set (i := j) (by omega) (isV_iff.2 ⟨_, rfl, hx6.base (B' := fun k => (w.heap.size + 4 ≤ k ∧ k ≠ wc.heap.size) ∧ k ≠ g) (fun k h1 _ => by have h2 : w5.heap.size ≤ k := h1; exact ⟨⟨by omega, by omega⟩, by omega⟩)⟩)
  obtain ⟨w8, hW8⟩ : ∃ w8, set4At w6 g (j * 4) (.int .i64 x.k) (.int .i64 x.n) (.string ⟨x.t.toArray⟩) (.slice ay x.l.length cy) = w8 := ⟨_, rfl⟩
  rw [hW8] at hset
  have hblk8 : w8.heap[wc.heap.size]? = some (.cells #[.int .i64 v.k, .int .i64 v.n, .string ⟨v.t.toArray⟩, .slice (some ⟨g, 0, none⟩) v.l.length cv] 24) := by
    rw [← hW8, set4At_other (by have := hPg.2; omega), hb6.block _ (by omega)]; exact hblk5
  have hb38 : Below w3.heap.size w3 w8 := by
    rw [← hW8]
    exact below_set4At (hb35.trans (hb6.mono hb35.size)) (by have := hPg.1; omega) _ _ _ _ _
  obtain ⟨m0, m1, m2, m3, -⟩ := cells_of4 hblk8
  have hlu : u.l.length = v.l.length := by rw [huk.out.2.2.2]; simp [spl]; omega
  have hu8 : IsW (fun k => w.heap.size + 4 ≤ k ∧ k ≠ wc.heap.size) w8 u (.slice (some ⟨g, 0, none⟩) u.l.length cv) := by
    obtain ⟨q1, q2, q3, q4⟩ := huk.out
    refine ⟨by rw [q3]; exact hvr.out.1, by rw [q1]; exact hvr.out.2.1, by rw [q2]; exact hvr.out.2.2, ?_⟩
    rw [hlu, q4]; exact hset.vs
  have hL := rlimit_any hu8 huw
  rw [huk.out.1, huk.out.2.1, huk.out.2.2.1, hlu, ← hfin.out] at hL
  obtain ⟨o, HO⟩ : ∃ o, Hid (putV v k x = o) := ⟨_, rfl⟩
  rw [HO.out] at hL
  simp only [set4At] at hW8
  rw [hW8]
  have hq1 : ¬ Lob (fun k => w.heap.size + 4 ≤ k ∧ k ≠ wc.heap.size) w8.heap.size (w.heap.size + 3) := fun h => by have := h.1.1; omega
  have hq2 : ∀ k, Lob (fun k => w.heap.size + 4 ≤ k ∧ k ≠ wc.heap.size) w8.heap.size k → w.heap.size ≤ k := fun k h => by have := h.1.1; omega
  clear hset hG6 hG4 hx6 hb6 hSk hS0 j0 j1 j2 j3 l0 l1 l2 l3 f6 ff6 hW8 hu8 hfin huk
  simp only [Exit.then]
  refine ‹∀ (a : Act) (w : World), _ → _› _ _ ?_
  go_wp2_with fail
  refine hL.mono ?_
  rintro e wl ⟨⟨al, cl, rfl, hl9⟩, hbl⟩
  clear hL
  have hb3l : Below w3.heap.size w3 wl := hb38.trans (hbl.mono hb38.size)
  obtain ⟨r0, r1, r2, r3, s0, s1, s2, s3, hz⟩ := hr wl hb3l
  have hres := OutV.kept hl9 (hB3.trans (hb3l.mono hB3.size)) (g := w.heap.size + 3) (by omega) hq1 hq2
  clear hr hl9
  go_wp2_with fail
  exact bodyPost_ret (v := .tuple #[.agg #[.int .i64 o.1.k, .int .i64 o.1.n, .string ⟨o.1.t.toArray⟩, .slice al o.1.l.length cl], .int .i64 o.2]) (by simp [results, Try.results35, go_sem, hz, r0, r1, r2, r3]) rfl (by rw [HO.out]; exact hres)
end Go.Proofs.Ytkbplffckkjbfaa
