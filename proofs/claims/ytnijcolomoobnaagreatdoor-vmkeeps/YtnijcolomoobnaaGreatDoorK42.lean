/- Texts of ours, joined: Rcw, Lsp, Pd. -/
import Derived.Test.YtnijcolomoobnaaGreatDoorK37
import Derived.Test.YtnijcolomoobnaaGreatDoorK12
import Derived.Test.YtnijcolomoobnaaGreatDoorK11
import Derived.Deep.LoopGhost
import Derived.Deep.RegionWith
import Derived.Deep.RegionHeld3
namespace Go.Proofs.YtnijcolomoobnaaGreatDoor
open Go.RowKit
set_option linter.unusedVariables false
set_option linter.unusedSimpArgs false
attribute [local go_sem ↓] Go.wp_at_zero Go.wp_at_succ

theorem GvW.base {P P' : Nat → Prop} {N : Nat} {w : World} {sl : Value} {acc : List V} (h : GvW P N w sl acc) (hb : ∀ k, P k → k < w.heap.size → P' k) : GvW P' N w sl acc := by
  obtain ⟨row, h1, h0, h2, h3⟩ := h
  exact ⟨row, h1, fun k hk => hb k (h0 k hk) (h1.lt k hk).2, h2.base (fun k hk hl => ⟨hb k hk.1 hl, hk.2⟩), fun i hi => by
    obtain ⟨c, e1, e2⟩ := h3 i hi
    exact ⟨c, e1, e2.base (fun k hk hl => ⟨hb k hk.1 hl, hk.2⟩)⟩⟩
def NewGW (N : Nat) (w : World) (v : V) (r : Ending) (w' : World) : Prop := (∃ ao cap, r = .returned (.agg #[.int .i64 v.k, .int .i64 v.n, .string ⟨v.t.toArray⟩, .slice ao v.l.length cap]) ∧ IsW (From w.heap.size) w' v (.slice ao v.l.length cap) ∧ GvW (From w.heap.size) N w' (.slice ao v.l.length cap) v.l) ∧ Below w.heap.size w w'
set_option maxRecDepth 100000 in
set_option maxHeartbeats 4000000 in
theorem rcopyW_any : ∀ (N : Nat) (v : V) (sl : Value) (B : Nat → Prop) (w : World), wt v < N → wt v ≤ 800000 → IsW B w v sl →
    Calls Tryz.prog 17 #[.agg #[.int .i64 v.k, .int .i64 v.n, .string ⟨v.t.toArray⟩, sl]] w fun r w' => NewGW N w v r w' := by
  intro N
  induction N with
  | zero => intro v sl B w h; omega
  | succ N ih =>
    intro v sl B w hN hbig hv
    obtain ⟨ao, cap, rfl, hc1, hc2⟩ := hv.vs.slice
    have hwt := wt_eq v
    have hlen := wts_len v.l
    obtain ⟨w0, hW, hb0, hsz, d0, d1, d2, d3⟩ := boxed w v (.slice ao v.l.length cap)
    obtain ⟨w1, hW1, hb1, hsz1, hr⟩ := rbox w0
    rw [hsz] at hr
    have hB1 : Below w.heap.size w w1 := hb0.trans (hb1.mono (by omega))
    have hs1 : w1.heap.size = w.heap.size + 2 := by omega
    obtain ⟨f1, -⟩ := bcell hb1
    rw [← f1 w.heap.size _ (by omega)] at d0 d1 d2 d3
    clear f1 hsz1
    obtain ⟨wz, hWz, hbz, hszz, hrz⟩ := rbox w1
    rw [hs1] at hrz
    obtain ⟨y0, y1, y2, y3, z0, z1, z2, z3, hzz⟩ := hrz wz (Below.refl _ _)
    obtain ⟨w2, hW2⟩ : ∃ w2, set4 wz (w.heap.size + 2) (.int .i64 v.k) (.int .i64 v.n) (.string ⟨v.t.toArray⟩) (.slice none 0 0) = w2 := ⟨_, rfl⟩
    have hb2 : Below w1.heap.size w1 w2 := by rw [← hW2]; exact below_set4 hbz (by omega) _ _ _ _
    have hs2 : w2.heap.size = w.heap.size + 3 := by rw [← hW2, set4_size]; omega
    have hblk2 : w2.heap[w.heap.size + 2]? = some (.cells #[.int .i64 v.k, .int .i64 v.n, .string ⟨v.t.toArray⟩, .slice none 0 0] 31 (0, 0)) := by rw [← hW2]; exact set4_blk (by rw [← hs1]; exact rbox_blk hWz (Below.refl _ _)) _ _ _ _
    have d3' : w2.cell? ⟨w.heap.size, 3, none⟩ = some (.slice ao v.l.length cap) := ((bcell hb2).1 _ _ (by omega)).trans d3
    clear hrz
    have IH : Hid (∀ (v : V) (sl : Value) (B : Nat → Prop) (w : World), wt v < N → wt v ≤ 800000 → IsW B w v sl → Calls Tryz.prog 17 #[.agg #[.int .i64 v.k, .int .i64 v.n, .string ⟨v.t.toArray⟩, sl]] w fun r w' => NewGW N w v r w') := ih
    clear ih
    go_enter Tryz.func17, Tryz.ntmps17
    go_wp2_with fail
    have hBn : Below w1.heap.size w1 w2 := hb2
    have hround : ∀ (q : Nat) (wr : World), q < v.l.length → Below w1.heap.size w1 wr →
        ∃ x g o ax cx wx, v.l[q]? = some x ∧ ao = some ⟨g, o, none⟩ ∧ g < wr.heap.size ∧ wr.cell? ⟨g, o + q * 4, none⟩ = some (.int .i64 x.k) ∧ wr.cell? ⟨g, o + q * 4 + 1, none⟩ = some (.int .i64 x.n) ∧ wr.cell? ⟨g, o + q * 4 + 2, none⟩ = some (.string ⟨x.t.toArray⟩) ∧ wr.cell? ⟨g, o + q * 4 + 3, none⟩ = some (.slice ax x.l.length cx) ∧
          wr.alloc (.cells #[.int .i64 x.k, .int .i64 x.n, .string ⟨x.t.toArray⟩, .slice ax x.l.length cx] 31) = wx ∧ Below wr.heap.size wr wx ∧ wx.heap.size = wr.heap.size + 1 ∧ wx.cell? ⟨wr.heap.size, 0, none⟩ = some (.int .i64 x.k) ∧ wx.cell? ⟨wr.heap.size, 1, none⟩ = some (.int .i64 x.n) ∧ wx.cell? ⟨wr.heap.size, 2, none⟩ = some (.string ⟨x.t.toArray⟩) ∧ wx.cell? ⟨wr.heap.size, 3, none⟩ = some (.slice ax x.l.length cx) ∧
          ∀ w2, Below wx.heap.size wx w2 → Calls Tryz.prog 17 #[.agg #[.int .i64 x.k, .int .i64 x.n, .string ⟨x.t.toArray⟩, .slice ax x.l.length cx]] w2 fun r w' => NewGW N w2 x r w' := by
      intro q wr hq hB
      have hx : v.l[q]? = some v.l[q] := List.getElem?_eq_getElem hq
      have hBw : Below w.heap.size w wr := hB1.trans (hB.mono (by omega))
      obtain ⟨g, o, ax, cx, e, _, hg, c0, c1, c2, c3, hw⟩ := (hv.vs.below hBw).get hx
      obtain ⟨wx, hWx, hbx, hsx, x0, x1, x2, x3⟩ := boxed wr v.l[q] (.slice ax v.l[q].l.length cx)
      refine ⟨v.l[q], g, o, ax, cx, wx, hx, e, hg, c0, c1, c2, c3, hWx, hbx, hsx, x0, x1, x2, x3, fun w2 hb2 => ?_⟩
      have := wts_get hx
      exact IH.out _ _ B w2 (by omega) (by omega) ((hw.below hbx).below hb2)
    have hvr : Hid (v.t.length ≤ maxLen ∧ InR v.k ∧ InR v.n) := ⟨hv.txt, hv.kr, hv.nr⟩
    clear hv IH y0 y1 y2 y3 z0 z1 z2 z3 hzz d0 d1 d2 d3
    go_loopg [16] v.l.length (fun g i wr => ∃ (q : Nat) (sa : Option Addr) (sc : Nat), q ≤ v.l.length ∧ g = v.l.length - q ∧ i = .int .i64 q ∧ Hid (Below w1.heap.size w1 wr ∧ wr.heap[w.heap.size + 2]? = some (.cells #[.int .i64 v.k, .int .i64 v.n, .string ⟨v.t.toArray⟩, .slice sa q sc] 31 (0, 0)) ∧ GvW (From (w.heap.size + 3)) (N + 1) wr (.slice sa q sc) (v.l.take q)))
    case atStart => exact ⟨0, none, 0, Nat.zero_le _, rfl, rfl, hBn, hblk2, GvW.nil _ _ _⟩
    case round =>
      obtain ⟨q, sa, sc, hq, rfl, rfl, HR⟩ := hrel
      have hBr : Below w1.heap.size w1 wr := HR.out.1
      have hbr := HR.out.2.1
      have hGr := HR.out.2.2
      have hlq : (v.l.take q).length = q := by simp; omega
      have hg3r : w.heap.size + 2 < wr.heap.size := (Array.getElem?_eq_some_iff.1 hbr).1
      obtain ⟨t0, t1, t2, t3, -⟩ := cells_of4 hbr
      clear hBn hblk2 hb2 hW2 hWz hbz hszz d3' hs2
      by_cases hlt : q < v.l.length
      · obtain ⟨x, g, o, ax, cx, wx, hx, rfl, hg, c0, c1, c2, c3, hWx, hbx, hsx, x0, x1, x2, x3, hcall⟩ := hround q wr hlt hBr
        have hltI : (q : Int) < (v.l.length : Int) := by omega
        have hq0 : (0 : Int) ≤ (q : Int) := by omega
        have hx' : Hid (v.l[q]? = some x) := hx
        have tx3 : wx.cell? ⟨w.heap.size + 2, 3, none⟩ = some (.slice sa q sc) := ((bcell hbx).1 _ _ hg3r).trans t3
        have hlr : wr.heap.size < wx.heap.size := by omega
        have hg3x : w.heap.size + 2 < wx.heap.size := by omega
        clear hround hx hr HR t0 t1 t2 t3
        go_wp2_with fail
        refine wpE_begin (S := fun w' => w'.cell? ⟨w.heap.size + 2, 3, none⟩ = some (.slice sa q sc) ∧ w'.cell? ⟨wr.heap.size, 0, none⟩ = some (.int .i64 x.k) ∧ w'.cell? ⟨wr.heap.size, 1, none⟩ = some (.int .i64 x.n) ∧ w'.cell? ⟨wr.heap.size, 2, none⟩ = some (.string ⟨x.t.toArray⟩) ∧ w'.cell? ⟨wr.heap.size, 3, none⟩ = some (.slice ax x.l.length cx)) (N := fun j => decide (j < 5)) (by kernel_rfl) ?_
        have hS0 : wx.drew.cell? ⟨w.heap.size + 2, 3, none⟩ = some (.slice sa q sc) ∧ wx.drew.cell? ⟨wr.heap.size, 0, none⟩ = some (.int .i64 x.k) ∧ wx.drew.cell? ⟨wr.heap.size, 1, none⟩ = some (.int .i64 x.n) ∧ wx.drew.cell? ⟨wr.heap.size, 2, none⟩ = some (.string ⟨x.t.toArray⟩) ∧ wx.drew.cell? ⟨wr.heap.size, 3, none⟩ = some (.slice ax x.l.length cx) := ⟨tx3, x0, x1, x2, x3⟩
        refine wpE_takeX (some 20) (fun j => [1, 5, 6, 7].contains j) (i := 0) (v := .pointer (some ⟨w.heap.size + 2, 3, none⟩)) rfl rfl (by kernel_rfl) (by kernel_rfl) (by kernel_rfl) (by kernel_rfl) (fun j hj => by simp at hj; show j < 8; omega) (fun _ _ _ h => h) rfl (fun w' hS => by obtain ⟨g0, g1, g2, g3, g4⟩ := hS; go_simp) hS0 ?_
        try simp only [Act.put, List.setIfInBounds_toArray, List.set_cons_zero, List.set_cons_succ]
        refine wpE_takeX (some 21) (fun j => [5, 6, 7].contains j) (i := 1) (v := .slice sa q sc) rfl rfl (by kernel_rfl) (by kernel_rfl) (by kernel_rfl) (by kernel_rfl) (fun j hj => by simp at hj; show j < 8; omega) (fun _ _ _ h => h) rfl (fun w' hS => by obtain ⟨g0, g1, g2, g3, g4⟩ := hS; go_simp) hS0 ?_
        try simp only [Act.put, List.setIfInBounds_toArray, List.set_cons_zero, List.set_cons_succ]
        refine wpE_takeX (some 22) (fun j => [3, 4, 5, 6, 7].contains j) (i := 2) (v := .agg #[.int .i64 x.k, .int .i64 x.n, .string ⟨x.t.toArray⟩, .slice ax x.l.length cx]) rfl rfl (by kernel_rfl) (by kernel_rfl) (by kernel_rfl) (by kernel_rfl) (fun j hj => by simp at hj; show j < 8; omega) (fun _ _ _ h => h) rfl (fun w' hS => by obtain ⟨g0, g1, g2, g3, g4⟩ := hS; go_simp) hS0 ?_
        try simp only [Act.put, List.setIfInBounds_toArray, List.set_cons_zero, List.set_cons_succ]
        refine wpE_one (i := 3) (by kernel_rfl) rfl rfl (fun K hK => ?_)
        go_simp
        refine (hcall _ (Below.refl _ _).drew).mono ?_
        rintro e w6 ⟨⟨ay, cy, rfl, hx6, hg6⟩, hb6⟩
        replace hb6 : Below wx.heap.size wx w6 := below_undrew hb6
        have hf6 : Wf (From wx.heap.size) (N + 1) w6 (.slice ay x.l.length cy) := hg6.wf (by have := wts_get hx'.out; have := wts_len x.l; have := wt_eq x; omega)
        have k0 := ((bcell hb6).1 _ 3 hg3x).trans tx3
        have k1 := ((bcell hb6).1 _ 0 hlr).trans x0
        have k2 := ((bcell hb6).1 _ 1 hlr).trans x1
        have k3 := ((bcell hb6).1 _ 2 hlr).trans x2
        have k4 := ((bcell hb6).1 _ 3 hlr).trans x3
        refine hK _ _ (fun _ => ⟨k0, k1, k2, k3, k4⟩) ?_
        clear hK K hcall
        try simp only [Act.put, List.setIfInBounds_toArray, List.set_cons_zero, List.set_cons_succ]
        obtain ⟨wa, hWa⟩ : ∃ wa, w6.alloc (.cells #[.int .i64 x.k, .int .i64 x.n, .string ⟨x.t.toArray⟩, .slice ay x.l.length cy] 31) = wa := ⟨_, rfl⟩
        have hba : Below w6.heap.size w6 wa := by rw [← hWa]; exact (Below.refl _ _).alloc (Nat.le_refl _) _
        have hblka : wa.heap[w6.heap.size]? = some (.cells #[.int .i64 x.k, .int .i64 x.n, .string ⟨x.t.toArray⟩, .slice ay x.l.length cy] 31) := by rw [← hWa]; exact heap_new _ _
        have hsx6 := hb6.size
        have ka := (bcell hba).1
        have hsa : wa.heap.size = w6.heap.size + 1 := by rw [← hWa]; simp
        refine wpE_one (i := 4) (by kernel_rfl) rfl rfl (fun K hK => ?_)
        go_simp
        refine hK _ _ (fun _ => ⟨(ka _ _ (by omega)).trans k0, (ka _ _ (by omega)).trans k1, (ka _ _ (by omega)).trans k2, (ka _ _ (by omega)).trans k3, (ka _ _ (by omega)).trans k4⟩) ?_
        clear hK K
        try simp only [Act.put, List.setIfInBounds_toArray, List.set_cons_zero, List.set_cons_succ]
        have hGx : GvW (From (w.heap.size + 3)) (N + 1) wx (.slice sa q sc) (v.l.take q) := hGr.below hbx
        have hG6 : GvW (From (w.heap.size + 3)) (N + 1) w6 (.slice sa q sc) (v.l.take q) := hGx.below hb6
        have hwx3 : w.heap.size + 3 ≤ wx.heap.size := by omega
        have hP6 : ∀ k, From wx.heap.size k → k < w6.heap.size → From (w.heap.size + 3) k ∧ (Value.slice sa q sc).ownBlock ≠ some k := fun k h1 _ => by have h2 : wx.heap.size ≤ k := h1; exact ⟨by show w.heap.size + 3 ≤ k; omega, hGx.gv.apart h2⟩
        have how : ∀ k, (Value.slice sa q sc).ownBlock = some k → w.heap.size + 3 ≤ k := fun k e => by
          obtain ⟨row, k1, k2, k3⟩ := hGx.gv
          exact k2 k e
        obtain ⟨wa', g7, c7, w7, hWa', hr7, hG7, hf7⟩ := vpushW_run hG6 (hx6.base hP6) (hf6.base hP6) (by rw [hlq]; omega) (fun k hk => by show w.heap.size + 3 ≤ k; omega)
        obtain rfl : wa' = wa := hWa'.symm.trans hWa
        have hb7 : Below (w.heap.size + 3) w6 w7 := hf7.below (by omega) (fun k hk e => by have := how k e; omega)
        rw [hlq] at hr7 hG7
        refine wpE_one (i := 5) (by kernel_rfl) rfl rfl (fun K hK => ?_)
        refine wp_append_run _ _ 22 rfl _ _ rfl rfl _ _ hr7 ?_
        refine hK _ _ (fun h => by cases h) ?_
        clear hK K
        try simp only [Act.put, List.setIfInBounds_toArray, List.set_cons_zero, List.set_cons_succ]
        have hbr7 : w7.heap[w.heap.size + 2]? = some (.cells #[.int .i64 v.k, .int .i64 v.n, .string ⟨v.t.toArray⟩, .slice sa q sc] 31 (0, 0)) := by
          rw [hb7.block _ (by omega), hb6.block _ (by omega), hbx.block _ (by omega)]; exact hbr
        obtain ⟨m0, m1, m2, m3, n0, n1, n2, n3⟩ := cells_of4 hbr7
        refine wpE_one (i := 6) (by kernel_rfl) rfl rfl (fun K hK => ?_)
        go_simp
        refine hK _ _ (fun h => by cases h) ?_
        clear hK K
        try simp only [Act.put, List.setIfInBounds_toArray, List.set_cons_zero, List.set_cons_succ]
        refine wpE_one (i := 7) (by kernel_rfl) rfl rfl (fun K hK => ?_)
        go_simp
        refine hK _ _ (fun h => by cases h) ?_
        clear hK K
        try simp only [Act.put, List.setIfInBounds_toArray, List.set_cons_zero, List.set_cons_succ]
        refine wpE_done (by kernel_rfl) ?_
        obtain ⟨w8, hW8⟩ : ∃ w8, w7.setCell ⟨w.heap.size + 2, 3, none⟩ (.slice g7 (q + 1) c7) = w8 := ⟨_, rfl⟩
        have hnew : Hid (Below w1.heap.size w1 w8 ∧ w8.heap[w.heap.size + 2]? = some (.cells #[.int .i64 v.k, .int .i64 v.n, .string ⟨v.t.toArray⟩, .slice g7 (q + 1) c7] 31 (0, 0)) ∧ GvW (From (w.heap.size + 3)) (N + 1) w8 (.slice g7 (q + 1) c7) (v.l.take (q + 1))) := by
          have hbs := hBr.size
          refine ⟨?_, ?_, ?_⟩
          · rw [← hW8]
            exact ((hBr.trans ((hbx.trans (hb6.mono hbx.size)).mono hBr.size)).trans (hb7.mono (by omega))).setCell (p := ⟨w.heap.size + 2, 3, none⟩) (by show w1.heap.size ≤ w.heap.size + 2; omega) _
          · rw [← hW8]; exact set_3 hbr7 _
          · rw [List.take_add_one, hx'.out, ← hW8]
            refine GvW.since hG7 ⟨by simp [World.setCell], fun k h1 _ => Below.heap_setCell _ _ _ _ ?_⟩
            show k ≠ w.heap.size + 2
            have : w.heap.size + 3 ≤ k := h1
            omega
        rw [hW8]
        clear hG7 hG6 hGx hx6 hb6 hb7 hba hr7 hf6 hg6 hP6 how hf7 hWa' k0 k1 k2 k3 k4 m0 m1 m2 m3 n0 n1 n2 n3 hW8
        simp only [Exit.inBlock, Exit.then]
        refine ‹∀ (a : Act) (w : World), _ → _› _ _ ?_
        go_wp2_with fail
        go_roundg (v.l.length - (q + 1))
        case measure => omega
        case rel => exact ⟨q + 1, g7, c7, by omega, rfl, by go_num, hnew⟩
      · have hltI : ¬ (q : Int) < (v.l.length : Int) := by omega
        obtain ⟨r0, r1, r2, r3, s0, s1, s2, s3, hz⟩ := hr wr (by exact hBr)
        obtain rfl : q = v.l.length := by omega
        have hfin : NewGW (N + 1) w v (.returned (.agg #[.int .i64 v.k, .int .i64 v.n, .string ⟨v.t.toArray⟩, .slice sa v.l.length sc])) (set4 wr (w.heap.size + 1) (.int .i64 v.k) (.int .i64 v.n) (.string ⟨v.t.toArray⟩) (.slice sa v.l.length sc)) := by
          refine ⟨⟨sa, sc, rfl, ⟨hvr.out.1, hvr.out.2.1, hvr.out.2.2, ?_⟩, ?_⟩, below_set4 (hB1.trans (hBr.mono (by omega))) (by omega) _ _ _ _⟩
          · have h1 := hGr.gv.vs
            rw [List.take_length] at h1
            exact (h1.since (since_set4 (by show ¬ (w.heap.size + 3 ≤ w.heap.size + 1); omega) _ _ _ _)).base (fun k hk _ => by show w.heap.size ≤ k; have : w.heap.size + 3 ≤ k := hk; omega)
          · have h1 := hGr
            rw [List.take_length] at h1
            exact (h1.since (since_set4 (by show ¬ (w.heap.size + 3 ≤ w.heap.size + 1); omega) _ _ _ _)).base (fun k hk _ => by show w.heap.size ≤ k; have : w.heap.size + 3 ≤ k := hk; omega)
        clear hround hr HR hGr
        go_wp2_with fail
        exact bodyPost_ret (v := .agg #[.int .i64 v.k, .int .i64 v.n, .string ⟨v.t.toArray⟩, .slice sa v.l.length sc]) (by simp [results, Tryz.results17, go_sem, hz, r0, r1, r2, r3]) rfl hfin
set_option maxRecDepth 100000 in
set_option maxHeartbeats 4000000 in
theorem rcopyAllW_any {B : Nat → Prop} {l : List V} {a : Option Addr} {c : Nat} {w : World} (hl : IsVs B w l (.slice a l.length c)) (hw : ∀ x ∈ l, wt x ≤ 800000) (hn : l.length ≤ 800000) :
    Calls Tryz.prog 16 #[.slice a l.length c] w fun r w' => (∃ a' c', r = .returned (.slice a' l.length c') ∧ GvW (From w.heap.size) 1000002 w' (.slice a' l.length c') l) ∧ Below w.heap.size w w' := by
  have hround : ∀ (q : Nat) (wr : World), q < l.length → Below w.heap.size w wr →
      ∃ x g o ax cx, l[q]? = some x ∧ a = some ⟨g, o, none⟩ ∧ g < wr.heap.size ∧ wr.cell? ⟨g, o + q * 4, none⟩ = some (.int .i64 x.k) ∧ wr.cell? ⟨g, o + q * 4 + 1, none⟩ = some (.int .i64 x.n) ∧ wr.cell? ⟨g, o + q * 4 + 2, none⟩ = some (.string ⟨x.t.toArray⟩) ∧ wr.cell? ⟨g, o + q * 4 + 3, none⟩ = some (.slice ax x.l.length cx) ∧
        ∀ w2, Below wr.heap.size wr w2 → Calls Tryz.prog 17 #[.agg #[.int .i64 x.k, .int .i64 x.n, .string ⟨x.t.toArray⟩, .slice ax x.l.length cx]] w2 fun r w' => NewGW 1000001 w2 x r w' := by
    intro q wr h1 hBr
    have hx : l[q]? = some l[q] := List.getElem?_eq_getElem h1
    obtain ⟨g, o, ax, cx, e, _, hg, c0, c1, c2, c3, hw'⟩ := (hl.below hBr).get hx
    exact ⟨l[q], g, o, ax, cx, hx, e, hg, c0, c1, c2, c3, fun w2 hb => rcopyW_any _ _ _ _ w2 (by have := hw _ (List.getElem_mem h1); omega) (hw _ (List.getElem_mem h1)) (hw'.below hb)⟩
  have Hround : Hid _ := hround
  have Hwl : Hid (∀ x ∈ l, wt x ≤ 800000) := hw
  clear hl hw hround
  go_enter Tryz.func16, Tryz.ntmps16
  go_wp2_with fail
  go_loopg [3, 8] l.length (fun g s3 i wr => ∃ (q : Nat) (a3 : Option Addr) (c3 : Nat), q ≤ l.length ∧ g = l.length - q ∧ s3 = .slice a3 q c3 ∧ i = .int .i64 q ∧ Hid (GvW (From w.heap.size) 1000002 wr (.slice a3 q c3) (l.take q)) ∧ Below w.heap.size w wr)
  case atStart => exact ⟨0, none, 0, Nat.zero_le _, rfl, rfl, rfl, by show GvW _ _ _ _ _; simpa using GvW.nil _ _ _, Below.refl _ _⟩
  case round =>
    obtain ⟨q, a3, c3, hq, rfl, rfl, rfl, HG, hBr⟩ := hrel
    by_cases hlt : q < l.length
    · obtain ⟨x, g, o, ax, cx, hx, rfl, hg, x0, x1, x2, x3, hC⟩ := Hround.out q wr hlt hBr
      have hltI : (q : Int) < (l.length : Int) := by omega
      have hq0 : (0 : Int) ≤ (q : Int) := by omega
      have Hx : Hid (l[q]? = some x) := hx
      have hba : Below wr.heap.size wr (wr.alloc (.cells #[.int .i64 x.k, .int .i64 x.n, .string ⟨x.t.toArray⟩, .slice ax x.l.length cx] 31)) := (Below.refl _ _).alloc (Nat.le_refl _) _
      clear hx Hround
      go_wp2_with fail
      refine (hC _ hba).mono ?_
      rintro e w3 ⟨⟨a4, c4, rfl, hx4, hf4⟩, hb3⟩
      have Hwx := Hwl.out _ (List.mem_of_getElem? Hx.out)
      replace hf4 := hf4.wf (by have := wts_len x.l; have := wt_eq x; omega)
      have hB3 : Below wr.heap.size wr w3 := hba.trans (hb3.mono hba.size)
      have hBw : Below w.heap.size w w3 := hBr.trans (hB3.mono hBr.size)
      have hs := hBr.size
      have hsa := hba.size
      have ho : ∀ k, (Value.slice a3 q c3).ownBlock = some k → k < wr.heap.size := fun k e => by
        obtain ⟨row, k1, k2, k3⟩ := HG.out.gv
        exact (k1.lt k e).2
      have hP4 : ∀ k, From (wr.alloc (.cells #[.int .i64 x.k, .int .i64 x.n, .string ⟨x.t.toArray⟩, .slice ax x.l.length cx] 31)).heap.size k → k < w3.heap.size → From w.heap.size k ∧ (Value.slice a3 q c3).ownBlock ≠ some k := fun k hk _ => by
        have hk' : (wr.alloc (.cells #[.int .i64 x.k, .int .i64 x.n, .string ⟨x.t.toArray⟩, .slice ax x.l.length cx] 31)).heap.size ≤ k := hk
        exact ⟨by show w.heap.size ≤ k; omega, fun e => by have := ho k e; omega⟩
      obtain ⟨wb, a5, c5, w5, hWb, hr5, hG5, hf5⟩ := vpushW_run (HG.out.below hB3) (hx4.base hP4) (hf4.base hP4) (by simp; omega) (fun k hk => by have := hB3.size; show w.heap.size ≤ k; omega)
      have hl5 : (l.take q).length = q := by simp; omega
      rw [hl5] at hr5 hG5
      have HG5 : Hid (GvW (From w.heap.size) 1000002 w5 (.slice a5 (q + 1) c5) (l.take (q + 1))) := by
        show GvW _ _ _ _ _
        rw [List.take_add_one, Hx.out]
        exact hG5
      have hB5 : Below w.heap.size w w5 := hBw.trans (hf5.below hBw.size (fun k hk e => by
        obtain ⟨row, k1, k2, k3⟩ := HG.out.gv
        have : w.heap.size ≤ k := k2 k e
        omega))
      clear HG hG5 hf5 hC hx4 hf4 hP4 ho hb3 hB3 hBw hBr hba x0 x1 x2 x3
      go_wp2_with (at_builtin; refine Lib.wpList_append_run _ rfl _ _ 22 22 rfl _ _ rfl rfl _ _ hr5 ?_; clear hr5)
      go_roundg (l.length - (q + 1))
      case measure => omega
      case rel => exact ⟨q + 1, a5, c5, by omega, rfl, rfl, by go_num, HG5, hB5⟩
    · have hltI : ¬ (q : Int) < (l.length : Int) := by omega
      have hqe : q = l.length := by omega
      subst hqe
      have hfin := HG.out
      rw [List.take_length] at hfin
      clear Hround HG
      go_wp2
      go_ret
      exact ⟨⟨a3, c3, rfl, hfin⟩, hBr⟩
end Go.Proofs.YtnijcolomoobnaaGreatDoor
namespace Go.Proofs.YtnijcolomoobnaaGreatDoor
open Go.RowKit
set_option linter.unusedVariables false
set_option linter.unusedSimpArgs false

structure Spo (P : Nat → Prop) (w w' : World) : Prop where
  os : w'.os = w.os
  tape : w'.tape = w.tape
  output : w'.output = w.output
  size : w.heap.size ≤ w'.heap.size
  block : ∀ k, k < w.heap.size → ¬ P k → w'.heap[k]? = w.heap[k]?
  lists : ∀ n sl, Wf P n w sl → Wf P n w' sl
theorem Spo.refl (P : Nat → Prop) (w : World) : Spo P w w := ⟨rfl, rfl, rfl, Nat.le_refl _, fun _ _ _ => rfl, fun _ _ h => h⟩
theorem Spo.trans {P : Nat → Prop} {w w1 w2 : World} (a : Spo P w w1) (b : Spo P w1 w2) : Spo P w w2 :=
  ⟨b.os.trans a.os, b.tape.trans a.tape, b.output.trans a.output, Nat.le_trans a.size b.size, fun k h1 h2 => (b.block k (Nat.lt_of_lt_of_le h1 a.size) h2).trans (a.block k h1 h2), fun n sl h => b.lists n sl (a.lists n sl h)⟩
theorem Spo.of_below {P : Nat → Prop} {w w' : World} (h : Below w.heap.size w w') : Spo P w w' := ⟨h.os, h.tape, h.output, h.size, fun k h1 _ => h.block k h1, fun n sl hw => hw.below h⟩
theorem Spo.below {P : Nat → Prop} {w w' : World} (h : Spo P w w') {m : Nat} (hm : m ≤ w.heap.size) (hP : ∀ k, P k → m ≤ k) : Below m w w' := ⟨h.os, h.tape, h.output, h.size, fun k hk => h.block k (by omega) (fun hp => by have := hP k hp; omega)⟩
theorem Spo.since {P B : Nat → Prop} {w w' : World} (h : Spo P w w') (hB : ∀ k, B k → ¬ P k) : Since B w w' := ⟨h.size, fun k h1 h2 => h.block k h2 (hB k h1)⟩
theorem spo_over {P : Nat → Prop} {w : World} {g j : Nat} {arr0 : Array Value} (hg : P g) (hblk : w.heap[g]? = some (.cells arr0 31 (0, 0))) (hj : j * 4 + 4 ≤ arr0.size) {a b : Int} {s : ByteArray} {cap0 : Nat} (hc0 : cap0 ≤ maxLen) {ao0 : Option Addr} : Spo P w (set4At w g (j * 4) (.int .i64 a) (.int .i64 b) (.string s) (.slice ao0 0 cap0)) :=
  ⟨rfl, rfl, rfl, by rw [set4At_size]; exact Nat.le_refl _, fun k _ hk => set4At_other (fun e => hk (by rw [e]; exact hg)) _ _ _ _ _, fun n sl h => Wf.over hblk hj hc0 h⟩
theorem boxv (w : World) (x0 x1 x2 x3 : Value) : ∃ w0, w.alloc (.cells #[x0, x1, x2, x3] 31) = w0 ∧ Below w.heap.size w w0 ∧ w0.heap.size = w.heap.size + 1 ∧ w0.heap[w.heap.size]? = some (.cells #[x0, x1, x2, x3] 31 (0, 0)) := ⟨_, rfl, (Below.refl _ _).alloc (Nat.le_refl _) _, by simp, heap_new _ _⟩
end Go.Proofs.YtnijcolomoobnaaGreatDoor
namespace Go.Proofs.YtnijcolomoobnaaGreatDoor
open Go.RowKit
set_option linter.unusedVariables false
set_option linter.unusedSimpArgs false

set_option maxRecDepth 100000 in
set_option maxHeartbeats 2000000 in
theorem spoil15_none {P : Nat → Prop} {ao : Option Addr} {cap : Nat} {w : World} (hc : cap ≤ maxLen) :
    Calls Tryz.prog 18 #[.slice ao 0 cap] w fun r w' => (∃ v, r = .returned v) ∧ Spo P w w' := by
  have hfin : Spo P w w := Spo.refl _ _
  go_enter Tryz.func18, Tryz.ntmps18
  go_wp2_with fail
  go_loopg [5] 0 (fun g i wr => g = 0 ∧ i = .int .i64 0 ∧ wr = w)
  case atStart => exact ⟨rfl, rfl, rfl⟩
  case round =>
    obtain ⟨rfl, rfl, rfl⟩ := hrel
    go_wp2_with fail
    exact bodyPost_end (results_none rfl _ _ _) rfl ⟨⟨_, rfl⟩, hfin⟩
set_option maxRecDepth 100000 in
set_option maxHeartbeats 2000000 in
theorem spoil15_any {P : Nat → Prop} : ∀ (N : Nat) (sl : Value) (w : World), (∀ k, P k → k < w.heap.size) → Wf P N w sl →
    Calls Tryz.prog 18 #[sl] w fun r w' => (∃ v, r = .returned v) ∧ Spo P w w' := by
  intro N
  induction N with
  | zero =>
    rintro sl w hP ⟨ao, cap, rfl, hc⟩
    exact spoil15_none hc
  | succ N ih =>
    intro sl w hP hw
    have hw0 := hw
    rcases hw with ⟨ao, cap, rfl, hc⟩ | ⟨g, len, cap, arr, rfl, hlc, hcap, hPg, -⟩
    · exact spoil15_none hc
    by_cases hl0 : len = 0
    · subst hl0; exact spoil15_none hcap.2
    have IH : Hid (∀ (sl : Value) (w : World), (∀ k, P k → k < w.heap.size) → Wf P N w sl → Calls Tryz.prog 18 #[sl] w fun r w' => (∃ v, r = .returned v) ∧ Spo P w w') := ih
    clear ih
    have hround : ∀ (q : Nat) (wr : World), q < len → Spo P w wr → ∃ a' b' s' c, wr.cell? ⟨g, q * 4, none⟩ = some (.int .i64 a') ∧ wr.cell? ⟨g, q * 4 + 1, none⟩ = some (.int .i64 b') ∧ wr.cell? ⟨g, q * 4 + 2, none⟩ = some (.string s') ∧ wr.cell? ⟨g, q * 4 + 3, none⟩ = some c ∧ wr.frozen? ⟨g, q * 4, none⟩ = false ∧ wr.frozen? ⟨g, q * 4 + 1, none⟩ = false ∧ wr.frozen? ⟨g, q * 4 + 2, none⟩ = false ∧ wr.frozen? ⟨g, q * 4 + 3, none⟩ = false ∧ g < wr.heap.size ∧
        (Calls Tryz.prog 18 #[c] wr fun r w' => (∃ v, r = .returned v) ∧ Spo P wr w') ∧ Spo P wr (set4At wr g (q * 4) (.int .i64 77) (.int .i64 0) (.string ⟨#[]⟩) (.slice none 0 0)) := by
      intro q wr hq hS
      have hwr := hS.lists _ _ hw0
      rcases hwr with ⟨ao, cap', e, _⟩ | ⟨g', len', cap', arr', e, h2, h3, h4, h5, h6, h7⟩
      · simp only [Value.slice.injEq] at e
        omega
      · simp only [Value.slice.injEq, Option.some.injEq, Addr.mk.injEq, and_true] at e
        obtain ⟨rfl, rfl, rfl⟩ := e
        obtain ⟨a', b', s', c, e1, e2, e3, e4, e5⟩ := h7 q hq
        exact ⟨a', b', s', c, by rw [cell_block h5]; exact e1, by rw [cell_block h5]; exact e2, by rw [cell_block h5]; exact e3, by rw [cell_block h5]; exact e4, frozen_block h5 _, frozen_block h5 _, frozen_block h5 _, frozen_block h5 _, (Array.getElem?_eq_some_iff.1 h5).1, IH.out c wr (fun k hk => by have := hP k hk; have := hS.size; omega) e5, spo_over h4 h5 (by omega) (by unfold maxLen; omega)⟩
    have hlI : len ≤ 1000000 := hcap.1
    have hcI : cap ≤ 9223372036854775807 := hcap.2
    clear IH hw0
    go_enter Tryz.func18, Tryz.ntmps18
    go_wp2_with fail
    go_loopg [5] len (fun g i wr => ∃ q : Nat, q ≤ len ∧ g = len - q ∧ i = .int .i64 q ∧ Spo P w wr)
    case atStart => exact ⟨0, Nat.zero_le _, rfl, rfl, Spo.refl _ _⟩
    case round =>
      obtain ⟨q, hq, rfl, rfl, hS⟩ := hrel
      by_cases hlt : q < len
      · have hltI : (q : Int) < (len : Int) := by omega
        have hq0 : (0 : Int) ≤ (q : Int) := by omega
        obtain ⟨a', b', s', c, c0, c1, c2, c3, -, -, -, -, hgl, hcall, -⟩ := hround q wr hlt hS
        go_wp2_with fail
        refine hcall.mono ?_
        rintro e w3 ⟨⟨v, rfl⟩, hS3⟩
        clear hcall c0 c1 c2 c3 hgl
        obtain ⟨a3, b3, s3, c3', y0, y1, y2, y3, z0, z1, z2, z3, hgl, -, hS4⟩ := hround q w3 hlt (hS.trans hS3)
        have hS5 : Spo P w (set4At w3 g (q * 4) (.int .i64 77) (.int .i64 0) (.string ⟨#[]⟩) (.slice none 0 0)) := (hS.trans hS3).trans hS4
        clear hround hS4
        go_wp2_with fail
        go_roundg (len - (q + 1))
        case measure => omega
        case rel => exact ⟨q + 1, by omega, rfl, by go_num, hS5⟩
      · have hltI : ¬ (q : Int) < (len : Int) := by omega
        clear hround
        go_wp2_with fail
        exact bodyPost_end (results_none rfl _ _ _) rfl ⟨⟨_, rfl⟩, hS⟩
end Go.Proofs.YtnijcolomoobnaaGreatDoor
