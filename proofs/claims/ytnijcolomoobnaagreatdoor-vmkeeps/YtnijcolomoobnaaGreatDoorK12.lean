/- Texts of ours, joined: Vcp, Rcp, Dvr, Dvl. -/
import Derived.Test.YtnijcolomoobnaaGreatDoorK10
import Derived.Test.YtnijcolomoobnaaGreatDoorK11
import Derived.Test.YtnijcolomoobnaaGreatDoorK06
import Derived.Deep.LoopGhost
import Derived.Deep.Cut
import Derived.Deep.CutRange
import Derived.Deep.RegionWith
import Derived.Deep.RegionHeld3
import Derived.Deep.DrawnRows
import Derived.Laws.MakeOwn
import Derived.Test.YtnijcolomoobnaaGreatDoorK02
namespace Go.Proofs.YtnijcolomoobnaaGreatDoor
open Go.RowKit
set_option linter.unusedVariables false
set_option linter.unusedSimpArgs false
attribute [local go_sem ↓] Go.wp_at_zero Go.wp_at_succ

def NewW (N : Nat) (w : World) (v : V) (r : Ending) (w' : World) : Prop := (∃ ao cap, r = .returned (.agg #[.int .i64 v.k, .int .i64 v.n, .string ⟨v.t.toArray⟩, .slice ao v.l.length cap]) ∧ IsW (From w.heap.size) w' v (.slice ao v.l.length cap) ∧ Wf (From w.heap.size) N w' (.slice ao v.l.length cap)) ∧ Below w.heap.size w w'
theorem made_row (n : Nat) (hn : n ≤ 1000000) : ∃ arr0 : Array Value, arr0.size = n * 4 ∧ ∀ w : World, (Instr.makeSlice 22 (.int .i64 n) (.int .i64 n)).run Tryz.prog w = .ok (.slice (some ⟨w.heap.size, 0, none⟩) n n) (w.alloc (.cells arr0 31)) := by
  have h : (Tryz.prog.info? 31).map (fun i => (i.zero, i.size, i.bytes)) = some (some (.agg #[.int .i64 0, .int .i64 0, .string ⟨#[]⟩, .slice none 0 0]), 4, 56) := by kernel_rfl
  rcases hi : Tryz.prog.info? 31 with _ | i
  · rw [hi] at h; cases h
  · rw [hi] at h
    simp only [Option.map_some, Option.some.injEq, Prod.mk.injEq] at h
    obtain ⟨hz, hs, hb⟩ := h
    refine ⟨madeCells (Value.agg #[.int .i64 0, .int .i64 0, .string ⟨#[]⟩, .slice none 0 0]).cells (n * i.size), by rw [size_madeCells, hs], fun w => ?_⟩
    have := run_make (P := Tryz.prog) w 22 31 i _ Tryz.underlying22 hi hz .i64 .i64 n n (by omega) (by omega) (by rw [hb]; omega) (by omega)
    simpa using this
set_option maxRecDepth 100000 in
set_option maxHeartbeats 4000000 in
theorem copyW_any : ∀ (N : Nat) (v : V) (sl : Value) (B : Nat → Prop) (w : World), wt v < N → wt v ≤ 1000000 → IsW B w v sl →
    Calls Tryz.prog 32 #[.agg #[.int .i64 v.k, .int .i64 v.n, .string ⟨v.t.toArray⟩, sl]] w fun r w' => NewW N w v r w' := by
  intro N
  induction N with
  | zero => intro v sl B w h; omega
  | succ N ih =>
    intro v sl B w hN hbig hv
    obtain ⟨ao, cap, rfl, hc1, hc2⟩ := hv.vs.slice
    have hwt := wt_eq v
    have hlen := wts_len v.l
    obtain ⟨w0, hW, hb0, hsz, d0, d1, d2, d3⟩ := boxed w v (.slice ao v.l.length cap)
    have hcl := fun w => sclone_l v.t w (by omega)
    obtain ⟨arr0, harr, hmk⟩ := made_row v.l.length (by omega)
    obtain ⟨w1, hW1, hb1, hsz1, hr⟩ := rbox w0
    rw [hsz] at hr
    have hB1 : Below w.heap.size w w1 := hb0.trans (hb1.mono (by omega))
    obtain ⟨f1, -⟩ := bcell hb1
    rw [← f1 w.heap.size _ (by omega)] at d0 d1 d2 d3
    have hgb : w.heap.size < w1.heap.size := by omega
    have hgb1 : w.heap.size < w1.heap.size + 1 := by omega
    obtain ⟨w2, hW2, hb2, hsz2, hr2⟩ := rbox w1
    have k0 : w2.cell? ⟨w.heap.size, 0, none⟩ = some (.int .i64 v.k) := ((bcell hb2).1 _ _ hgb).trans d0
    have k1 : w2.cell? ⟨w.heap.size, 1, none⟩ = some (.int .i64 v.n) := ((bcell hb2).1 _ _ hgb).trans d1
    have k2 : w2.cell? ⟨w.heap.size, 2, none⟩ = some (.string ⟨v.t.toArray⟩) := ((bcell hb2).1 _ _ hgb).trans d2
    have hs1 : w1.heap.size = w.heap.size + 2 := by omega
    have hs2 : w2.heap.size = w.heap.size + 3 := by omega
    rw [hs1] at hr2
    clear hsz1 hsz2
    have n0 := World.new_ne w1 ⟨w.heap.size, 0, none⟩ d0
    have n1 := World.new_ne w1 ⟨w.heap.size, 1, none⟩ d1
    have n2 := World.new_ne w1 ⟨w.heap.size, 2, none⟩ d2
    clear f1
    have IH : Hid (∀ (v : V) (sl : Value) (B : Nat → Prop) (w : World), wt v < N → wt v ≤ 1000000 → IsW B w v sl → Calls Tryz.prog 32 #[.agg #[.int .i64 v.k, .int .i64 v.n, .string ⟨v.t.toArray⟩, sl]] w fun r w' => NewW N w v r w') := ih
    clear ih
    go_enter Tryz.func32, Tryz.ntmps32
    go_wp2_with fail
    go_cut [3] from 3 to 14 (fun p wc => ∃ g3, p = .pointer (some ⟨g3, 0, none⟩) ∧ w1.heap.size ≤ g3 ∧ wc.heap[g3]? = some (.cells #[.int .i64 v.k, .int .i64 v.n, .string ⟨v.t.toArray⟩, .slice none 0 0] 31 (0, 0)) ∧ Below w1.heap.size w1 wc)
    case first =>
      go_region_held3 (fun w' => w'.cell? ⟨w.heap.size, 0, none⟩ = some (.int .i64 v.k) ∧ w'.cell? ⟨w.heap.size, 1, none⟩ = some (.int .i64 v.n) ∧ w'.cell? ⟨w.heap.size, 2, none⟩ = some (.string ⟨v.t.toArray⟩)) (first | go_keep | exact ⟨e0, e1, e2⟩)
        ((go_at_call 67; refine (hcl _).mono ?_; rintro e w5 ⟨rfl, hb5⟩; (first
          | (have hb6 : Below w1.heap.size w1 w5 := below_undrew hb5; obtain ⟨f5, -⟩ := bcell hb6; have e0 : w5.cell? ⟨w.heap.size, 0, none⟩ = some (.int .i64 v.k) := (f5 _ _ hgb).trans d0; have e1 : w5.cell? ⟨w.heap.size, 1, none⟩ = some (.int .i64 v.n) := (f5 _ _ hgb).trans d1; have e2 : w5.cell? ⟨w.heap.size, 2, none⟩ = some (.string ⟨v.t.toArray⟩) := (f5 _ _ hgb).trans d2; clear f5; have m0 := World.new_ne w5 _ e0; have m1 := World.new_ne w5 _ e1; have m2 := World.new_ne w5 _ e2)
          | (have hb7 : Below w2.heap.size w2 w5 := below_undrew hb5; have hb6 : Below w1.heap.size w1 w5 := hb2.trans (hb7.mono hb2.size); obtain ⟨f5, -⟩ := bcell hb6; have e0 : w5.cell? ⟨w.heap.size, 0, none⟩ = some (.int .i64 v.k) := (f5 _ _ hgb).trans d0; have e1 : w5.cell? ⟨w.heap.size, 1, none⟩ = some (.int .i64 v.n) := (f5 _ _ hgb).trans d1; have e2 : w5.cell? ⟨w.heap.size, 2, none⟩ = some (.string ⟨v.t.toArray⟩) := (f5 _ _ hgb).trans d2; clear f5; obtain ⟨y0, y1, y2, y3, z0, z1, z2, z3, hz5⟩ := hr2 w5 hb7))))
      all_goals (go_wp2_with fail; go_meet)
      · exact ⟨_, rfl, by have := hb6.size; omega, heap_new _ _, hb6.trans (((Below.refl _ _).alloc (Nat.le_refl _) _).mono hb6.size)⟩
      · exact ⟨_, rfl, by omega, set4_blk (by rw [← hs1]; exact rbox_blk hW2 hb7) _ _ _ _, below_set4 hb6 (by omega) _ _ _ _⟩
    case rest =>
      obtain ⟨g3, rfl, hg3, hbox, hBc⟩ := hcut
      clear hW2 hb2 hs2 hr2 k0 k1 k2 n0 n1 n2 hcl
      have hBcs := hBc.size
      have hg3lt : g3 < wc.heap.size := (Array.getElem?_eq_some_iff.1 hbox).1
      have e3 : wc.cell? ⟨w.heap.size, 3, none⟩ = some (.slice ao v.l.length cap) := ((bcell hBc).1 _ _ hgb).trans d3
      obtain ⟨b0, b1, b2, b3, z0, z1, z2, z3⟩ := cells_of4 hbox
      clear d0 d1 d2 d3
      by_cases hnil : v.l = []
      · obtain ⟨r0, r1, r2, r3, s0, s1, s2, s3, hz⟩ := hr wc hBc
        have hl0 : v.l.length = 0 := by rw [hnil]; rfl
        have hfin : NewW (N + 1) w v (.returned (.agg #[.int .i64 v.k, .int .i64 v.n, .string ⟨v.t.toArray⟩, .slice none 0 0])) (set4 wc (w.heap.size + 1) (.int .i64 v.k) (.int .i64 v.n) (.string ⟨v.t.toArray⟩) (.slice none 0 0)) := by
          refine ⟨⟨none, 0, by rw [hl0], ⟨hv.txt, hv.kr, hv.nr, ?_⟩, by rw [hl0]; exact Wf.nil (by unfold maxLen; omega)⟩, below_set4 (hB1.trans (hBc.mono (by omega))) (by omega) _ _ _ _⟩
          rw [hl0, hnil]; exact IsVs.nil
        clear hr hv IH hmk hnil
        rw [hl0] at e3
        go_wp2_with fail
        go_loopg [26] 0 (fun g i wr => g = 0 ∧ i = .int .i64 0 ∧ wr = wc)
        case atStart => exact ⟨rfl, rfl, rfl⟩
        case round =>
          obtain ⟨rfl, rfl, rfl⟩ := hrel
          go_wp2_with fail
          exact bodyPost_ret (v := .agg #[.int .i64 v.k, .int .i64 v.n, .string ⟨v.t.toArray⟩, .slice none 0 0]) (by simp [results, Tryz.results32, go_sem, hz, r0, r1, r2, r3]) rfl hfin
      · have hpos : 0 < v.l.length := by
          cases h : v.l with
          | nil => exact absurd h hnil
          | cons a r => simp
        have hposI : (0 : Int) < (v.l.length : Int) := by omega
        obtain ⟨wm, hWm⟩ : ∃ wm, wc.alloc (.cells arr0 31) = wm := ⟨_, rfl⟩
        have hbm : Below wc.heap.size wc wm := by rw [← hWm]; exact (Below.refl _ _).alloc (Nat.le_refl _) _
        have hboxm : wm.heap[g3]? = some (.cells #[.int .i64 v.k, .int .i64 v.n, .string ⟨v.t.toArray⟩, .slice none 0 0] 31 (0, 0)) := (hbm.block g3 hg3lt).trans hbox
        obtain ⟨-, -, -, m3, -, -, -, mz3⟩ := cells_of4 hboxm
        have hFm : Fill (From (wc.heap.size + 1)) wm wc.heap.size v.l.length [] := by
          have h0 := Fill.new (B := From (wc.heap.size + 1)) (w := wc) harr
          rw [hWm] at h0
          exact h0
        have hWm' : FillW (From (wc.heap.size + 1)) N wm wc.heap.size v.l.length 0 := by
          have h0 := FillW.new (P := From (wc.heap.size + 1)) (N := N) (w := wc) harr
          rw [hWm] at h0
          exact h0
        obtain ⟨wn, hWn⟩ : ∃ wn, wm.setCell ⟨g3, 3, none⟩ (.slice (some ⟨wc.heap.size, 0, none⟩) v.l.length v.l.length) = wn := ⟨_, rfl⟩
        have hF0 : Fill (From (wc.heap.size + 1)) wn wc.heap.size v.l.length [] := by
          rw [← hWn]
          exact hFm.since ⟨by simp [World.setCell], fun k h1 h2 => Below.heap_setCell _ _ _ _ (by show k ≠ g3; have : wc.heap.size + 1 ≤ k := h1; omega)⟩ (Below.heap_setCell _ _ _ _ (by show wc.heap.size ≠ g3; omega))
        have hW0' : FillW (From (wc.heap.size + 1)) N wn wc.heap.size v.l.length 0 := by
          rw [← hWn]
          exact hWm'.since ⟨by simp [World.setCell], fun k h1 h2 => Below.heap_setCell _ _ _ _ (by show k ≠ g3; have : wc.heap.size + 1 ≤ k := h1; omega)⟩ (Below.heap_setCell _ _ _ _ (by show wc.heap.size ≠ g3; omega))
        have hbox1 : wn.heap[g3]? = some (.cells #[.int .i64 v.k, .int .i64 v.n, .string ⟨v.t.toArray⟩, .slice (some ⟨wc.heap.size, 0, none⟩) v.l.length v.l.length] 31 (0, 0)) := by
          rw [← hWn]; exact set_3 hboxm _
        have hBn : Below w1.heap.size w1 wn := by
          rw [← hWn]
          exact (hBc.trans (hbm.mono hBcs)).setCell (p := ⟨g3, 3, none⟩) hg3 _
        have hwn : wn.cell? ⟨w.heap.size, 3, none⟩ = some (.slice ao v.l.length cap) := ((bcell hBn).1 _ _ hgb).trans (by rw [← (bcell hBc).1 _ _ hgb]; exact e3)
        have hne : w.heap.size ≠ g3 := by omega
        generalize hG : wc.heap.size = G at *
        have hgg : g3 ≠ G := by omega
        have hGw : w.heap.size + 2 ≤ G := by omega
        have hround : ∀ (q : Nat) (wr : World), q < v.l.length → Below w1.heap.size w1 wr → G < wr.heap.size →
            ∃ x g o ax cx wx, v.l[q]? = some x ∧ ao = some ⟨g, o, none⟩ ∧ g < wr.heap.size ∧ wr.cell? ⟨g, o + q * 4, none⟩ = some (.int .i64 x.k) ∧ wr.cell? ⟨g, o + q * 4 + 1, none⟩ = some (.int .i64 x.n) ∧ wr.cell? ⟨g, o + q * 4 + 2, none⟩ = some (.string ⟨x.t.toArray⟩) ∧ wr.cell? ⟨g, o + q * 4 + 3, none⟩ = some (.slice ax x.l.length cx) ∧
              wr.alloc (.cells #[.int .i64 x.k, .int .i64 x.n, .string ⟨x.t.toArray⟩, .slice ax x.l.length cx] 31) = wx ∧ Below wr.heap.size wr wx ∧ wx.heap.size = wr.heap.size + 1 ∧ wx.cell? ⟨wr.heap.size, 0, none⟩ = some (.int .i64 x.k) ∧ wx.cell? ⟨wr.heap.size, 1, none⟩ = some (.int .i64 x.n) ∧ wx.cell? ⟨wr.heap.size, 2, none⟩ = some (.string ⟨x.t.toArray⟩) ∧ wx.cell? ⟨wr.heap.size, 3, none⟩ = some (.slice ax x.l.length cx) ∧
              ∀ w2, Below wx.heap.size wx w2 → Calls Tryz.prog 32 #[.agg #[.int .i64 x.k, .int .i64 x.n, .string ⟨x.t.toArray⟩, .slice ax x.l.length cx]] w2 fun r w' => NewW N w2 x r w' := by
          intro q wr hq hB hGr
          have hx : v.l[q]? = some v.l[q] := List.getElem?_eq_getElem hq
          have hBw : Below w.heap.size w wr := hB1.trans (hB.mono (by omega))
          obtain ⟨g, o, ax, cx, e, _, hg, c0, c1, c2, c3, hw⟩ := (hv.vs.below hBw).get hx
          obtain ⟨wx, hWx, hbx, hsx, x0, x1, x2, x3⟩ := boxed wr v.l[q] (.slice ax v.l[q].l.length cx)
          refine ⟨v.l[q], g, o, ax, cx, wx, hx, e, hg, c0, c1, c2, c3, hWx, hbx, hsx, x0, x1, x2, x3, fun w2 hb2 => ?_⟩
          have := wts_get hx
          exact IH.out _ _ B w2 (by omega) (by omega) ((hw.below hbx).below hb2)
        have hvr : Hid (v.t.length ≤ maxLen ∧ InR v.k ∧ InR v.n) := ⟨hv.txt, hv.kr, hv.nr⟩
        clear harr hv IH hBc hbox hnil hg3lt hFm hWm' hboxm hbm b0 b1 b2 b3 z0 z1 z2 z3
        go_wp2_with fail
        go_loopg [26] v.l.length (fun g i wr => ∃ q : Nat, q ≤ v.l.length ∧ g = v.l.length - q ∧ i = .int .i64 q ∧ Hid (Below w1.heap.size w1 wr ∧ wr.heap[g3]? = some (.cells #[.int .i64 v.k, .int .i64 v.n, .string ⟨v.t.toArray⟩, .slice (some ⟨G, 0, none⟩) v.l.length v.l.length] 31 (0, 0)) ∧ Fill (From (G + 1)) wr G v.l.length (v.l.take q) ∧ FillW (From (G + 1)) N wr G v.l.length q))
        case atStart => exact ⟨0, Nat.zero_le _, rfl, rfl, hBn, hbox1, hF0, hW0'⟩
        case round =>
          obtain ⟨q, hq, rfl, rfl, HR⟩ := hrel
          have hBr : Below w1.heap.size w1 wr := HR.out.1
          have hbr := HR.out.2.1
          have hFr := HR.out.2.2.1
          have hWr := HR.out.2.2.2
          have hGr := hFr.lt
          have hg3r : g3 < wr.heap.size := (Array.getElem?_eq_some_iff.1 hbr).1
          obtain ⟨t0, t1, t2, t3, -⟩ := cells_of4 hbr
          clear e3 hbox1 hBn hF0 hW0' hwn hWn hWm m3 mz3
          by_cases hlt : q < v.l.length
          · obtain ⟨x, g, o, ax, cx, wx, hx, rfl, hg, c0, c1, c2, c3, hWx, hbx, hsx, x0, x1, x2, x3, hcall⟩ := hround q wr hlt hBr hGr
            have hltI : (q : Int) < (v.l.length : Int) := by omega
            have hq0 : (0 : Int) ≤ (q : Int) := by omega
            have hx' : Hid (v.l[q]? = some x) := hx
            have tx3 : wx.cell? ⟨g3, 3, none⟩ = some (.slice (some ⟨G, 0, none⟩) v.l.length v.l.length) := ((bcell hbx).1 _ _ hg3r).trans t3
            have hlr : wr.heap.size < wx.heap.size := by omega
            have hg3x : g3 < wx.heap.size := by omega
            have hgr : wr.heap.size ≠ G := by omega
            clear hround hx hr HR t0 t1 t2
            go_wp2_with fail
            go_region_held3 (fun w' => w'.cell? ⟨g3, 3, none⟩ = some (.slice (some ⟨G, 0, none⟩) v.l.length v.l.length) ∧ w'.cell? ⟨wr.heap.size, 0, none⟩ = some (.int .i64 x.k) ∧ w'.cell? ⟨wr.heap.size, 1, none⟩ = some (.int .i64 x.n) ∧ w'.cell? ⟨wr.heap.size, 2, none⟩ = some (.string ⟨x.t.toArray⟩) ∧ w'.cell? ⟨wr.heap.size, 3, none⟩ = some (.slice ax x.l.length cx)) (first | exact ⟨k0, k1, k2, k3, k4⟩ | exact ⟨(set4At_cell hgg).trans k0, (set4At_cell hgr).trans k1, (set4At_cell hgr).trans k2, (set4At_cell hgr).trans k3, (set4At_cell hgr).trans k4⟩ | go_keep)
              ((go_at_call 32; refine (hcall _ (Below.refl _ _).drew).mono ?_; rintro e w6 ⟨⟨ay, cy, rfl, hx6, hz6⟩, hb6⟩; replace hb6 : Below wx.heap.size wx w6 := below_undrew hb6; have k0 := ((bcell hb6).1 _ 3 hg3x).trans tx3; have k1 := ((bcell hb6).1 _ 0 hlr).trans x0; have k2 := ((bcell hb6).1 _ 1 hlr).trans x1; have k3 := ((bcell hb6).1 _ 2 hlr).trans x2; have k4 := ((bcell hb6).1 _ 3 hlr).trans x3; have hF6 := (hFr.below hbx).below hb6; obtain ⟨y0, y1, y2, y3, m0, m1, m2, m3, s0, s1, s2, s3⟩ := hF6.cells hlt))
            have hlq : (v.l.take q).length = q := by simp; omega
            have hnew : Hid (Below w1.heap.size w1 (set4At w6 G (q * 4) (.int .i64 x.k) (.int .i64 x.n) (.string ⟨x.t.toArray⟩) (.slice ay x.l.length cy)) ∧ (set4At w6 G (q * 4) (.int .i64 x.k) (.int .i64 x.n) (.string ⟨x.t.toArray⟩) (.slice ay x.l.length cy)).heap[g3]? = some (.cells #[.int .i64 v.k, .int .i64 v.n, .string ⟨v.t.toArray⟩, .slice (some ⟨G, 0, none⟩) v.l.length v.l.length] 31 (0, 0)) ∧ Fill (From (G + 1)) (set4At w6 G (q * 4) (.int .i64 x.k) (.int .i64 x.n) (.string ⟨x.t.toArray⟩) (.slice ay x.l.length cy)) G v.l.length (v.l.take (q + 1)) ∧ FillW (From (G + 1)) N (set4At w6 G (q * 4) (.int .i64 x.k) (.int .i64 x.n) (.string ⟨x.t.toArray⟩) (.slice ay x.l.length cy)) G v.l.length (q + 1)) := by
              have hbs := hBr.size
              refine ⟨below_set4At (hBr.trans ((hbx.trans (hb6.mono hbx.size)).mono hBr.size)) (by omega) _ _ _ _ _, ?_, ?_, ?_⟩
              · rw [set4At_other hgg, hb6.block g3 (by omega), hbx.block g3 (by omega)]
                exact hbr
              · have hst := hF6.step (by show ¬ (G + 1 ≤ G); omega) (by rw [hlq]; exact hlt) (isV_iff.2 ⟨_, rfl, hx6.base (B' := From (G + 1)) (fun k h1 h2 => by show G + 1 ≤ k; have : wx.drew.heap.size ≤ k := h1; have e : wx.drew.heap.size = wx.heap.size := rfl; omega)⟩)
                rw [hlq] at hst
                rw [List.take_add_one, hx'.out]
                exact hst
              · exact ((hWr.below hbx).below hb6).step (by show ¬ (G + 1 ≤ G); omega) hlt (hz6.base (fun k h1 h2 => by show G + 1 ≤ k; have : wx.drew.heap.size ≤ k := h1; have e : wx.drew.heap.size = wx.heap.size := rfl; omega))
            clear hcall hF6 hx6 hz6 hWr k0 k1 k2 k3 k4 m0 m1 m2 m3 s0 s1 s2 s3 hb6
            go_wp2_with fail
            go_roundg (v.l.length - (q + 1))
            case measure => omega
            case rel => exact ⟨q + 1, by omega, rfl, by go_num, hnew⟩
          · have hltI : ¬ (q : Int) < (v.l.length : Int) := by omega
            obtain ⟨r0, r1, r2, r3, s0, s1, s2, s3, hz⟩ := hr wr (by exact hBr)
            have hqe : q = v.l.length := by omega
            have hfin : NewW (N + 1) w v (.returned (.agg #[.int .i64 v.k, .int .i64 v.n, .string ⟨v.t.toArray⟩, .slice (some ⟨G, 0, none⟩) v.l.length v.l.length])) (set4 wr (w.heap.size + 1) (.int .i64 v.k) (.int .i64 v.n) (.string ⟨v.t.toArray⟩) (.slice (some ⟨G, 0, none⟩) v.l.length v.l.length)) := by
              refine ⟨⟨some ⟨G, 0, none⟩, v.l.length, rfl, ⟨hvr.out.1, hvr.out.2.1, hvr.out.2.2, ?_⟩, ?_⟩, below_set4 (hB1.trans (hBr.mono (by omega))) (by omega) _ _ _ _⟩
              rotate_left
              · rw [hqe] at hWr
                have h1 := hWr.done (P' := From G) (by omega) (fun k hk _ => by show G ≤ k; have : G + 1 ≤ k := hk; omega) (Nat.le_refl _)
                exact (h1.since (since_set4 (by show ¬ (G ≤ w.heap.size + 1); omega) _ _ _ _)).base (fun k hk _ => by show w.heap.size ≤ k; have : G ≤ k := hk; omega)
              have h1 := hFr.done (B' := From G) (by simp; omega) (fun k hk _ => by show G ≤ k; have : G + 1 ≤ k := hk; omega) (Nat.le_refl _) (by unfold maxLen; omega)
              rw [hqe, List.take_length] at h1
              exact (h1.since (since_set4 (by show ¬ (G ≤ w.heap.size + 1); omega) _ _ _ _)).base (fun k hk _ => by show w.heap.size ≤ k; have : G ≤ k := hk; omega)
            clear hround hr HR hFr hWr hqe
            go_wp2_with fail
            exact bodyPost_ret (v := .agg #[.int .i64 v.k, .int .i64 v.n, .string ⟨v.t.toArray⟩, .slice (some ⟨G, 0, none⟩) v.l.length v.l.length]) (by simp [results, Tryz.results32, go_sem, hz, r0, r1, r2, r3]) rfl hfin
end Go.Proofs.YtnijcolomoobnaaGreatDoor
namespace Go.Proofs.YtnijcolomoobnaaGreatDoor
open Go.RowKit
set_option linter.unusedVariables false
set_option linter.unusedSimpArgs false
attribute [local go_sem ↓] Go.wp_at_zero Go.wp_at_succ

theorem wpE_takeX {P : Program} {ops : Array Oper} {Q : Exit → Act → World → Prop} {md : Region.Mode} {S : World → Prop} {N : Nat → Bool} {i : Nat} {oi : Oper} {v : Value} {f : Nat} {listed : Array Bool} {a : Act} {w : World} (d : Option Tmp) (W : Nat → Bool) (hi : ops[i]? = some oi) (hd : oi.dst = d) (hs : Region.noSelect ops = true) (hf : Region.free md ops listed i = true) (hr : (Region.ready md ops listed).contains i = true) (hl : waitW md ops N W listed i = true) (hWs : ∀ j, W j = true → j < ops.size)
    (hQ : ∀ c a w, Q (.panic c) (a.put oi.dst v) w → Q (.panic c) a w) (hw : Region.wanted oi (yielded ops a.tmps) = true) (hy : ∀ w, S w → (execOp a.eval oi).run P w = .ok (.value v) w) (hS : S w) (h : wpE P md ops Q S N f (listed.setIfInBounds i true) (a.put d v) w) : wpE P md ops Q S N (f + 1) listed a w := wpE_takeW W hi hs hf hr hl hWs hQ hw hy hS (by rw [hd]; exact h)
theorem wp_append_run {P : Program} {w : World} {o : Oper} {a : Act} {K : Act → World → Prop} {Q : Exit → Act → World → Prop} (s x : Operand) (t : TypeId) (ho : o.op = .call { callee := .builtin .append, args := #[s, x], argTypes := #[t, t] }) (v xv : Value) (hs : a.eval s = v) (hx : a.eval x = xv) (v' : Value) (ww : World) (hr : (Builtin.append_ #[t, t] o.type #[v, xv]).run P w = .ok v' ww) (h : K (a.put o.dst v') ww) : o.wp P a w K Q := by
  unfold Oper.wp execOp
  simp only [ho, resolve, invoke, builtin, Sem.run_bind, Sem.run_pure, Result.andThen_ok, List.map_toArray, List.map_cons, List.map_nil, hs, hx, hr]
  exact h
end Go.Proofs.YtnijcolomoobnaaGreatDoor
namespace Go.Proofs.YtnijcolomoobnaaGreatDoor
open Go.RowKit
set_option linter.unusedVariables false
set_option linter.unusedSimpArgs false

theorem Only.set4 {r : Nat} {w w' : World} (h : Only r w w') {g : Nat} (hg : w.heap.size ≤ g) (x0 x1 x2 x3 : Value) : Only r w (Go.Proofs.YtnijcolomoobnaaGreatDoor.set4 w' g x0 x1 x2 x3) := (((h.setCell hg 0 x0).setCell hg 1 x1).setCell hg 2 x2).setCell hg 3 x3
theorem Only.cells {r : Nat} {w w' : World} (h : Only r w w') {g : Nat} (h1 : g < w.heap.size) (h2 : g ≠ r) {o : Obj} (hg : w.heap[g]? = some o) : w'.heap[g]? = some o := (h.block g h1 h2).trans hg
end Go.Proofs.YtnijcolomoobnaaGreatDoor
namespace Go.Proofs.YtnijcolomoobnaaGreatDoor
open Go.RowKit
set_option linter.unusedVariables false
set_option linter.unusedSimpArgs false
attribute [local go_sem ↓] Go.wp_at_zero Go.wp_at_succ

theorem Only.low {r m : Nat} {w w1 w2 : World} (h : Only r w w1) (hb : Below m w1 w2) (hm : w.heap.size ≤ m) : Only r w w2 := ⟨hb.os.trans h.os, hb.tape.trans h.tape, hb.output.trans h.output, Nat.le_trans h.size hb.size, fun k h1 h2 => (hb.block k (by omega)).trans (h.block k h1 h2)⟩
end Go.Proofs.YtnijcolomoobnaaGreatDoor
