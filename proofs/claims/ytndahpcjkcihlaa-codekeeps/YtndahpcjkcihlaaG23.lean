/- Texts of ours, joined: Rcl. -/
import Derived.Test.YtndahpcjkcihlaaG22
/- Copy, of values whose lists are not too long: the document's. -/
namespace Go.Proofs.Ytndahpcjkcihlaa
open Go.RowKit
set_option linter.unusedVariables false
set_option linter.unusedSimpArgs false
attribute [local go_sem ↓] Go.wp_at_zero Go.wp_at_succ

mutual
/-- No list in it is too long. -/
def Lst : V → Prop
  | .mk _ _ _ l => l.length ≤ 900000 ∧ Lsts l
def Lsts : List V → Prop
  | [] => True
  | v :: r => Lst v ∧ Lsts r
end
theorem los_mem : ∀ {l : List V} {x : V}, Lsts l → x ∈ l → Lst x
  | a :: r, x, h, hx => by
    rw [Lsts] at h
    rcases List.mem_cons.1 hx with rfl | hx
    · exact h.1
    · exact los_mem h.2 hx
theorem los_of : ∀ {l : List V}, (∀ x ∈ l, Lst x) → Lsts l
  | [], h => by rw [Lsts]; trivial
  | a :: r, h => by rw [Lsts]; exact ⟨h a (by simp), los_of (fun x hx => h x (by simp [hx]))⟩
theorem lo_len {v : V} (h : Lst v) : v.l.length ≤ 900000 := by cases v; rw [Lst] at h; exact h.1
theorem lo_get {v x : V} {q : Nat} (h : Lst v) (hx : v.l[q]? = some x) : Lst x := by cases v; rw [Lst] at h; exact los_mem h.2 (List.mem_of_getElem? hx)
set_option maxRecDepth 100000 in
set_option maxHeartbeats 4000000 in
theorem rcopyL_any : ∀ (N : Nat) (v : V) (sl : Value) (B : Nat → Prop) (w : World), wt v < N → Lst v → IsW B w v sl →
    Calls Try.prog 55 #[.agg #[.int .i64 v.k, .int .i64 v.n, .string ⟨v.t.toArray⟩, sl]] w fun r w' => NewG w v r w' := by
  intro N
  induction N with
  | zero => intro v sl B w h; omega
  | succ N ih =>
    intro v sl B w hN hbig hv
    have hlenL := lo_len hbig
    obtain ⟨ao, cap, rfl, hc1, hc2⟩ := hv.vs.slice
    have hwt := wt_eq v
    have hlen := wts_len v.l
    obtain ⟨w0, hW, hb0, hsz, d0, d1, d2, d3⟩ := boxed w v (.slice ao v.l.length cap)
    obtain ⟨w1, hW1, hb1, hsz1, hr⟩ := rbox w0
    rw [hsz] at hr
    have hB1 : Below w.heap.size w w1 := hb0.trans (hb1.mono (by omega))
    have hs1 : w1.heap.size = w.heap.size + 2 := by omega
    obtain ⟨f1, -⟩ := bcell hb1
    rw [← f1 w.heap.size _ (by omega)] at d0 d1 d2 d3
    clear f1 hsz1
    obtain ⟨wz, hWz, hbz, hszz, hrz⟩ := rbox w1
    rw [hs1] at hrz
    obtain ⟨y0, y1, y2, y3, z0, z1, z2, z3, hzz⟩ := hrz wz (Below.refl _ _)
    obtain ⟨w2, hW2⟩ : ∃ w2, set4 wz (w.heap.size + 2) (.int .i64 v.k) (.int .i64 v.n) (.string ⟨v.t.toArray⟩) (.slice none 0 0) = w2 := ⟨_, rfl⟩
    have hb2 : Below w1.heap.size w1 w2 := by rw [← hW2]; exact below_set4 hbz (by omega) _ _ _ _
    have hs2 : w2.heap.size = w.heap.size + 3 := by rw [← hW2, set4_size]; omega
    have hblk2 : w2.heap[w.heap.size + 2]? = some (.cells #[.int .i64 v.k, .int .i64 v.n, .string ⟨v.t.toArray⟩, .slice none 0 0] 29 (0, 0)) := by rw [← hW2]; exact set4_blk (by rw [← hs1]; exact rbox_blk hWz (Below.refl _ _)) _ _ _ _
    have d3' : w2.cell? ⟨w.heap.size, 3, none⟩ = some (.slice ao v.l.length cap) := ((bcell hb2).1 _ _ (by omega)).trans d3
    clear hrz
    have IH : Hid (∀ (v : V) (sl : Value) (B : Nat → Prop) (w : World), wt v < N → Lst v → IsW B w v sl → Calls Try.prog 55 #[.agg #[.int .i64 v.k, .int .i64 v.n, .string ⟨v.t.toArray⟩, sl]] w fun r w' => NewG w v r w') := ih
    clear ih
    go_enter Try.func55, Try.ntmps55
    go_wp2_with fail
    have hBn : Below w1.heap.size w1 w2 := hb2
    have hround : ∀ (q : Nat) (wr : World), q < v.l.length → Below w1.heap.size w1 wr →
        ∃ x g o ax cx wx, v.l[q]? = some x ∧ ao = some ⟨g, o, none⟩ ∧ g < wr.heap.size ∧ wr.cell? ⟨g, o + q * 4, none⟩ = some (.int .i64 x.k) ∧ wr.cell? ⟨g, o + q * 4 + 1, none⟩ = some (.int .i64 x.n) ∧ wr.cell? ⟨g, o + q * 4 + 2, none⟩ = some (.string ⟨x.t.toArray⟩) ∧ wr.cell? ⟨g, o + q * 4 + 3, none⟩ = some (.slice ax x.l.length cx) ∧
          wr.alloc (.cells #[.int .i64 x.k, .int .i64 x.n, .string ⟨x.t.toArray⟩, .slice ax x.l.length cx] 29) = wx ∧ Below wr.heap.size wr wx ∧ wx.heap.size = wr.heap.size + 1 ∧ wx.cell? ⟨wr.heap.size, 0, none⟩ = some (.int .i64 x.k) ∧ wx.cell? ⟨wr.heap.size, 1, none⟩ = some (.int .i64 x.n) ∧ wx.cell? ⟨wr.heap.size, 2, none⟩ = some (.string ⟨x.t.toArray⟩) ∧ wx.cell? ⟨wr.heap.size, 3, none⟩ = some (.slice ax x.l.length cx) ∧
          ∀ w2, Below wx.heap.size wx w2 → Calls Try.prog 55 #[.agg #[.int .i64 x.k, .int .i64 x.n, .string ⟨x.t.toArray⟩, .slice ax x.l.length cx]] w2 fun r w' => NewG w2 x r w' := by
      intro q wr hq hB
      have hx : v.l[q]? = some v.l[q] := List.getElem?_eq_getElem hq
      have hBw : Below w.heap.size w wr := hB1.trans (hB.mono (by omega))
      obtain ⟨g, o, ax, cx, e, _, hg, c0, c1, c2, c3, hw⟩ := (hv.vs.below hBw).get hx
      obtain ⟨wx, hWx, hbx, hsx, x0, x1, x2, x3⟩ := boxed wr v.l[q] (.slice ax v.l[q].l.length cx)
      refine ⟨v.l[q], g, o, ax, cx, wx, hx, e, hg, c0, c1, c2, c3, hWx, hbx, hsx, x0, x1, x2, x3, fun w2 hb2 => ?_⟩
      have := wts_get hx
      exact IH.out _ _ B w2 (by omega) (lo_get hbig hx) ((hw.below hbx).below hb2)
    have hvr : Hid (v.t.length ≤ maxLen ∧ InR v.k ∧ InR v.n) := ⟨hv.txt, hv.kr, hv.nr⟩
    clear hv IH y0 y1 y2 y3 z0 z1 z2 z3 hzz d0 d1 d2 d3
    go_loopg [16] v.l.length (fun g i wr => ∃ (q : Nat) (sa : Option Addr) (sc : Nat), q ≤ v.l.length ∧ g = v.l.length - q ∧ i = .int .i64 q ∧ Hid (Below w1.heap.size w1 wr ∧ wr.heap[w.heap.size + 2]? = some (.cells #[.int .i64 v.k, .int .i64 v.n, .string ⟨v.t.toArray⟩, .slice sa q sc] 29 (0, 0)) ∧ Gv (From (w.heap.size + 3)) wr (.slice sa q sc) (v.l.take q)))
    case atStart => exact ⟨0, none, 0, Nat.zero_le _, rfl, rfl, hBn, hblk2, Gv.nil _ _⟩
    case round =>
      obtain ⟨q, sa, sc, hq, rfl, rfl, HR⟩ := hrel
      have hBr : Below w1.heap.size w1 wr := HR.out.1
      have hbr := HR.out.2.1
      have hGr := HR.out.2.2
      have hlq : (v.l.take q).length = q := by simp; omega
      have hg3r : w.heap.size + 2 < wr.heap.size := (Array.getElem?_eq_some_iff.1 hbr).1
      obtain ⟨t0, t1, t2, t3, -⟩ := cells_of4 hbr
      clear hBn hblk2 hb2 hW2 hWz hbz hszz d3' hs2
      by_cases hlt : q < v.l.length
      · obtain ⟨x, g, o, ax, cx, wx, hx, rfl, hg, c0, c1, c2, c3, hWx, hbx, hsx, x0, x1, x2, x3, hcall⟩ := hround q wr hlt hBr
        have hltI : (q : Int) < (v.l.length : Int) := by omega
        have hq0 : (0 : Int) ≤ (q : Int) := by omega
        have hx' : Hid (v.l[q]? = some x) := hx
        have tx3 : wx.cell? ⟨w.heap.size + 2, 3, none⟩ = some (.slice sa q sc) := ((bcell hbx).1 _ _ hg3r).trans t3
        have hlr : wr.heap.size < wx.heap.size := by omega
        have hg3x : w.heap.size + 2 < wx.heap.size := by omega
        clear hround hx hr HR t0 t1 t2 t3
        go_wp2_with fail
        refine wpE_begin (S := fun w' => w'.cell? ⟨w.heap.size + 2, 3, none⟩ = some (.slice sa q sc) ∧ w'.cell? ⟨wr.heap.size, 0, none⟩ = some (.int .i64 x.k) ∧ w'.cell? ⟨wr.heap.size, 1, none⟩ = some (.int .i64 x.n) ∧ w'.cell? ⟨wr.heap.size, 2, none⟩ = some (.string ⟨x.t.toArray⟩) ∧ w'.cell? ⟨wr.heap.size, 3, none⟩ = some (.slice ax x.l.length cx)) (N := fun j => decide (j < 5)) (by kernel_rfl) ?_
        have hS0 : wx.drew.cell? ⟨w.heap.size + 2, 3, none⟩ = some (.slice sa q sc) ∧ wx.drew.cell? ⟨wr.heap.size, 0, none⟩ = some (.int .i64 x.k) ∧ wx.drew.cell? ⟨wr.heap.size, 1, none⟩ = some (.int .i64 x.n) ∧ wx.drew.cell? ⟨wr.heap.size, 2, none⟩ = some (.string ⟨x.t.toArray⟩) ∧ wx.drew.cell? ⟨wr.heap.size, 3, none⟩ = some (.slice ax x.l.length cx) := ⟨tx3, x0, x1, x2, x3⟩
        refine wpE_takeX (some 20) (fun j => [1, 5, 6, 7].contains j) (i := 0) (v := .pointer (some ⟨w.heap.size + 2, 3, none⟩)) rfl rfl (by kernel_rfl) (by kernel_rfl) (by kernel_rfl) (by kernel_rfl) (fun j hj => by simp at hj; show j < 8; omega) (fun _ _ _ h => h) rfl (fun w' hS => by obtain ⟨g0, g1, g2, g3, g4⟩ := hS; go_simp) hS0 ?_
        try simp only [Act.put, List.setIfInBounds_toArray, List.set_cons_zero, List.set_cons_succ]
        refine wpE_takeX (some 21) (fun j => [5, 6, 7].contains j) (i := 1) (v := .slice sa q sc) rfl rfl (by kernel_rfl) (by kernel_rfl) (by kernel_rfl) (by kernel_rfl) (fun j hj => by simp at hj; show j < 8; omega) (fun _ _ _ h => h) rfl (fun w' hS => by obtain ⟨g0, g1, g2, g3, g4⟩ := hS; go_simp) hS0 ?_
        try simp only [Act.put, List.setIfInBounds_toArray, List.set_cons_zero, List.set_cons_succ]
        refine wpE_takeX (some 22) (fun j => [3, 4, 5, 6, 7].contains j) (i := 2) (v := .agg #[.int .i64 x.k, .int .i64 x.n, .string ⟨x.t.toArray⟩, .slice ax x.l.length cx]) rfl rfl (by kernel_rfl) (by kernel_rfl) (by kernel_rfl) (by kernel_rfl) (fun j hj => by simp at hj; show j < 8; omega) (fun _ _ _ h => h) rfl (fun w' hS => by obtain ⟨g0, g1, g2, g3, g4⟩ := hS; go_simp) hS0 ?_
        try simp only [Act.put, List.setIfInBounds_toArray, List.set_cons_zero, List.set_cons_succ]
        refine wpE_one (i := 3) (by kernel_rfl) rfl rfl (fun K hK => ?_)
        go_simp
        refine (hcall _ (Below.refl _ _).drew).mono ?_
        rintro e w6 ⟨⟨ay, cy, rfl, hx6, -⟩, hb6⟩
        replace hb6 : Below wx.heap.size wx w6 := below_undrew hb6
        have k0 := ((bcell hb6).1 _ 3 hg3x).trans tx3
        have k1 := ((bcell hb6).1 _ 0 hlr).trans x0
        have k2 := ((bcell hb6).1 _ 1 hlr).trans x1
        have k3 := ((bcell hb6).1 _ 2 hlr).trans x2
        have k4 := ((bcell hb6).1 _ 3 hlr).trans x3
        refine hK _ _ (fun _ => ⟨k0, k1, k2, k3, k4⟩) ?_
        clear hK K hcall
        try simp only [Act.put, List.setIfInBounds_toArray, List.set_cons_zero, List.set_cons_succ]
        obtain ⟨wa, hWa⟩ : ∃ wa, w6.alloc (.cells #[.int .i64 x.k, .int .i64 x.n, .string ⟨x.t.toArray⟩, .slice ay x.l.length cy] 29) = wa := ⟨_, rfl⟩
        have hba : Below w6.heap.size w6 wa := by rw [← hWa]; exact (Below.refl _ _).alloc (Nat.le_refl _) _
        have hblka : wa.heap[w6.heap.size]? = some (.cells #[.int .i64 x.k, .int .i64 x.n, .string ⟨x.t.toArray⟩, .slice ay x.l.length cy] 29) := by rw [← hWa]; exact heap_new _ _
        have hsx6 := hb6.size
        have ka := (bcell hba).1
        have hsa : wa.heap.size = w6.heap.size + 1 := by rw [← hWa]; simp
        refine wpE_one (i := 4) (by kernel_rfl) rfl rfl (fun K hK => ?_)
        go_simp
        refine hK _ _ (fun _ => ⟨(ka _ _ (by omega)).trans k0, (ka _ _ (by omega)).trans k1, (ka _ _ (by omega)).trans k2, (ka _ _ (by omega)).trans k3, (ka _ _ (by omega)).trans k4⟩) ?_
        clear hK K
        try simp only [Act.put, List.setIfInBounds_toArray, List.set_cons_zero, List.set_cons_succ]
        have hGx : Gv (From (w.heap.size + 3)) wx (.slice sa q sc) (v.l.take q) := hGr.below hbx
        have hG6 : Gv (From (w.heap.size + 3)) w6 (.slice sa q sc) (v.l.take q) := hGx.below hb6
        have hGa : Gv (From (w.heap.size + 3)) wa (.slice sa q sc) (v.l.take q) := hG6.below hba
        have hwx3 : w.heap.size + 3 ≤ wx.heap.size := by omega
        obtain ⟨g7, c7, w7, hr7, hG7, hb7, -, -⟩ := hGa.push (l2 := [x]) (ad := ⟨w6.heap.size, 0, none⟩) (by simp) (by simp) (World.news_of_block hblka) (AllV.one (isV_iff.2 ⟨_, rfl, (hx6.below hba).base (B' := fun k => From (w.heap.size + 3) k ∧ (Value.slice sa q sc).ownBlock ≠ some k) (fun k h1 _ => by have h2 : wx.heap.size ≤ k := h1; exact ⟨by show w.heap.size + 3 ≤ k; omega, hGx.apart h2⟩)⟩)) (by rw [hlq]; simp; omega) (fun k hk => by show w.heap.size + 3 ≤ k; omega) 1 22
        replace hb7 : Below (w.heap.size + 3) wa w7 := hb7 _ (by omega) (fun k hk => hk)
        rw [hlq] at hr7 hG7
        refine wpE_one (i := 5) (by kernel_rfl) rfl rfl (fun K hK => ?_)
        refine wp_append_run _ _ 22 rfl _ _ rfl rfl _ _ hr7 ?_
        refine hK _ _ (fun h => by cases h) ?_
        clear hK K
        try simp only [Act.put, List.setIfInBounds_toArray, List.set_cons_zero, List.set_cons_succ]
        have hbr7 : w7.heap[w.heap.size + 2]? = some (.cells #[.int .i64 v.k, .int .i64 v.n, .string ⟨v.t.toArray⟩, .slice sa q sc] 29 (0, 0)) := by
          rw [hb7.block _ (by omega), hba.block _ (by omega), hb6.block _ (by omega), hbx.block _ (by omega)]; exact hbr
        obtain ⟨m0, m1, m2, m3, n0, n1, n2, n3⟩ := cells_of4 hbr7
        refine wpE_one (i := 6) (by kernel_rfl) rfl rfl (fun K hK => ?_)
        go_simp
        refine hK _ _ (fun h => by cases h) ?_
        clear hK K
        try simp only [Act.put, List.setIfInBounds_toArray, List.set_cons_zero, List.set_cons_succ]
        refine wpE_one (i := 7) (by kernel_rfl) rfl rfl (fun K hK => ?_)
        go_simp
        refine hK _ _ (fun h => by cases h) ?_
        clear hK K
        try simp only [Act.put, List.setIfInBounds_toArray, List.set_cons_zero, List.set_cons_succ]
        refine wpE_done (by kernel_rfl) ?_
        obtain ⟨w8, hW8⟩ : ∃ w8, w7.setCell ⟨w.heap.size + 2, 3, none⟩ (.slice (some ⟨g7, 0, none⟩) (q + 1) c7) = w8 := ⟨_, rfl⟩
        have hnew : Hid (Below w1.heap.size w1 w8 ∧ w8.heap[w.heap.size + 2]? = some (.cells #[.int .i64 v.k, .int .i64 v.n, .string ⟨v.t.toArray⟩, .slice (some ⟨g7, 0, none⟩) (q + 1) c7] 29 (0, 0)) ∧ Gv (From (w.heap.size + 3)) w8 (.slice (some ⟨g7, 0, none⟩) (q + 1) c7) (v.l.take (q + 1))) := by
          have hbs := hBr.size
          refine ⟨?_, ?_, ?_⟩
          · rw [← hW8]
            exact ((hBr.trans ((hbx.trans ((hb6.trans (hba.mono hb6.size)).mono hbx.size)).mono hBr.size)).trans (hb7.mono (by omega))).setCell (p := ⟨w.heap.size + 2, 3, none⟩) (by show w1.heap.size ≤ w.heap.size + 2; omega) _
          · rw [← hW8]; exact set_3 hbr7 _
          · rw [List.take_add_one, hx'.out, ← hW8]
            refine Gv.since hG7 ⟨by simp [World.setCell], fun k h1 _ => Below.heap_setCell _ _ _ _ ?_⟩
            show k ≠ w.heap.size + 2
            have : w.heap.size + 3 ≤ k := h1
            omega
        rw [hW8]
        clear hG7 hGa hG6 hGx hx6 hb6 hb7 hba hr7 k0 k1 k2 k3 k4 m0 m1 m2 m3 n0 n1 n2 n3 hW8
        simp only [Exit.inBlock, Exit.then]
        refine ‹∀ (a : Act) (w : World), _ → _› _ _ ?_
        go_wp2_with fail
        go_roundg (v.l.length - (q + 1))
        case measure => omega
        case rel => exact ⟨q + 1, some ⟨g7, 0, none⟩, c7, by omega, rfl, by go_num, hnew⟩
      · have hltI : ¬ (q : Int) < (v.l.length : Int) := by omega
        obtain ⟨r0, r1, r2, r3, s0, s1, s2, s3, hz⟩ := hr wr (by exact hBr)
        obtain rfl : q = v.l.length := by omega
        have hfin : NewG w v (.returned (.agg #[.int .i64 v.k, .int .i64 v.n, .string ⟨v.t.toArray⟩, .slice sa v.l.length sc])) (set4 wr (w.heap.size + 1) (.int .i64 v.k) (.int .i64 v.n) (.string ⟨v.t.toArray⟩) (.slice sa v.l.length sc)) := by
          refine ⟨⟨sa, sc, rfl, ⟨hvr.out.1, hvr.out.2.1, hvr.out.2.2, ?_⟩, ?_⟩, below_set4 (hB1.trans (hBr.mono (by omega))) (by omega) _ _ _ _⟩
          · have h1 := hGr.vs
            rw [List.take_length] at h1
            exact (h1.since (since_set4 (by show ¬ (w.heap.size + 3 ≤ w.heap.size + 1); omega) _ _ _ _)).base (fun k hk _ => by show w.heap.size ≤ k; have : w.heap.size + 3 ≤ k := hk; omega)
          · have h1 := hGr
            rw [List.take_length] at h1
            exact (h1.since (since_set4 (by show ¬ (w.heap.size + 3 ≤ w.heap.size + 1); omega) _ _ _ _)).base (fun k hk _ => by show w.heap.size ≤ k; have : w.heap.size + 3 ≤ k := hk; omega)
        clear hround hr HR hGr
        go_wp2_with fail
        exact bodyPost_ret (v := .agg #[.int .i64 v.k, .int .i64 v.n, .string ⟨v.t.toArray⟩, .slice sa v.l.length sc]) (by simp [results, Try.results55, go_sem, hz, r0, r1, r2, r3]) rfl hfin
end Go.Proofs.Ytndahpcjkcihlaa
