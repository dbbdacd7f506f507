/- Texts of ours, joined: Tv3. -/
import Derived.Test.YtnijcolomoobnaaGreatDoorK41
import Derived.Test.YtnijcolomoobnaaGreatDoorK42
namespace Go.Proofs.YtnijcolomoobnaaGreatDoor
open Go.RowKit
set_option linter.unusedVariables false
set_option linter.unusedSimpArgs false
attribute [local go_sem ↓] Go.wp_at_zero Go.wp_at_succ

structure Kp12 (w16 : World) (S : List V) (v : V) (gv : Nat) (aw : Option Addr) (cw : Nat) (av : Option Addr) (cv : Nat) (w : World) : Prop where
  box : w.heap[gv]? = some (.cells #[.int .i64 v.k, .int .i64 v.n, .string ⟨v.t.toArray⟩, .slice av v.l.length cv] 31)
  gl : w16.heap.size ≤ gv
  ls : IsVs (fun k => w16.heap.size ≤ k ∧ k ≠ gv) w S (.slice aw S.length cw)
  vl : IsW (fun k => w16.heap.size ≤ k ∧ k ≠ gv) w v (.slice av v.l.length cv)
  be : Below w16.heap.size w16 w
theorem Kp12.of {w16 w : World} {S : List V} {v : V} {gv l1 h1 l2 h2 : Nat} {aw av : Option Addr} {cw cv : Nat} (hx : w.heap[gv]? = some (.cells #[.int .i64 0, .int .i64 0, .string ⟨#[]⟩, .slice none 0 0] 31 (0, 0))) (hS : IsVs (Rg l1 h1) w S (.slice aw S.length cw)) (hv : IsW (Rg l2 h2) w v (.slice av v.l.length cv)) (hb : Below w16.heap.size w16 w) (q0 : w16.heap.size ≤ gv) (q1 : w16.heap.size ≤ l1) (q2 : w16.heap.size ≤ l2) (q3 : gv < l1 ∨ h1 ≤ gv) (q4 : gv < l2 ∨ h2 ≤ gv) : Kp12 w16 S v gv aw cw av cv (set4 w gv (.int .i64 v.k) (.int .i64 v.n) (.string ⟨v.t.toArray⟩) (.slice av v.l.length cv)) :=
  ⟨set4_blk hx _ _ _ _, q0, (hS.since (since_set4 (by rintro ⟨a, b⟩; omega) _ _ _ _)).base (fun k hk _ => by have hk' : l1 ≤ k ∧ k < h1 := hk; exact ⟨by omega, by omega⟩), (hv.since (since_set4 (by rintro ⟨a, b⟩; omega) _ _ _ _)).base (fun k hk _ => by have hk' : l2 ≤ k ∧ k < h2 := hk; exact ⟨by omega, by omega⟩), below_set4 hb q0 _ _ _ _⟩
theorem zm15 (w : World) (x0 x1 : Value) : ∃ wz w4, w.alloc (.cells #[.slice none 0 0, .slice none 0 0] 25) = wz ∧ (wz.setCell ⟨w.heap.size, 0, none⟩ x0).setCell ⟨w.heap.size, 1, none⟩ x1 = w4 ∧ Below w.heap.size w w4 ∧ w.heap.size < w4.heap.size ∧ w4.heap[w.heap.size]? = some (.cells #[x0, x1] 25 (0, 0)) ∧ wz.heap[w.heap.size]? = some (.cells #[.slice none 0 0, .slice none 0 0] 25 (0, 0)) := by
  obtain ⟨w0, hW, hb, hs, hx⟩ := box2 w (.slice none 0 0) (.slice none 0 0) 25
  obtain ⟨wN, e1, e2, e3, e4, -⟩ := resW15 hx hb x0 x1
  exact ⟨w0, wN, hW, e1, e3, by omega, e2, hx⟩
set_option maxRecDepth 100000 in
set_option maxHeartbeats 16000000 in
theorem vkeeps_walk {m : Md} {ac af as_ aa : Option Addr} {cc cf cs_ ca : Nat} {states args : List V} {n fuel : Int} {w : World} (hm : IsMd Any' w m (.slice ac m.consts.length cc) (.slice af m.funcs.length cf)) (hz : SzM m) (hs : IsVs Any' w states (.slice as_ states.length cs_)) (ha : IsVs Any' w args (.slice aa args.length ca)) (hzs : SzVs states) (hza : SzVs args) (ht : Tb15 w.heap.size w) :
    Calls Tryz.prog 6 #[.agg #[.slice ac m.consts.length cc, .slice af m.funcs.length cf], .agg #[.slice as_ states.length cs_, .slice aa args.length ca, .int .i64 n, .int .i64 fuel]] w fun e w' => e = .returned (.bool true) ∧ Below w.heap.size w w' := by
  obtain ⟨w1, hW1, hb1, hs1, hx1⟩ := box2 w (.slice ac m.consts.length cc) (.slice af m.funcs.length cf) 25
  obtain ⟨w2, hW2, hb2, hs2, hx2⟩ := box4T w1 (.slice as_ states.length cs_) (.slice aa args.length ca) (.int .i64 n) (.int .i64 fuel) 27
  have l01 : w.heap.size < w1.heap.size := by omega
  have l12 : w1.heap.size < w2.heap.size := by omega
  have hB2 : Below w.heap.size w w2 := hb1.trans (hb2.mono hb1.size)
  have hbx : ∀ wr, Below w2.heap.size w2 wr → wr.heap[w.heap.size]? = some (.cells #[.slice ac m.consts.length cc, .slice af m.funcs.length cf] 25 (0, 0)) ∧ wr.heap[w1.heap.size]? = some (.cells #[.slice as_ states.length cs_, .slice aa args.length ca, .int .i64 n, .int .i64 fuel] 27 (0, 0)) := fun wr hb => ⟨(hb.block _ (by omega)).trans ((hb2.block _ l01).trans hx1), (hb.block _ l12).trans hx2⟩
  have hcel : ∀ wr, Below w2.heap.size w2 wr → wr.cell? ⟨w.heap.size, 0, none⟩ = some (.slice ac m.consts.length cc) ∧ wr.cell? ⟨w.heap.size, 1, none⟩ = some (.slice af m.funcs.length cf) ∧ wr.cell? ⟨w1.heap.size, 0, none⟩ = some (.slice as_ states.length cs_) ∧ wr.cell? ⟨w1.heap.size, 1, none⟩ = some (.slice aa args.length ca) ∧ wr.cell? ⟨w1.heap.size, 2, none⟩ = some (.int .i64 n) ∧ wr.cell? ⟨w1.heap.size, 3, none⟩ = some (.int .i64 fuel) ∧ w.heap.size < wr.heap.size ∧ w1.heap.size < wr.heap.size := fun wr hb => by
    obtain ⟨z0, z1⟩ := hbx wr hb
    obtain ⟨q0, q1, -, -, q2⟩ := cells_k2 z0
    obtain ⟨r0, r1, r2, r3, -⟩ := cells_of4 z1
    exact ⟨q0, q1, r0, r1, r2, r3, q2, (Array.getElem?_eq_some_iff.1 z1).1⟩
  have Hcel : Hid _ := hcel
  have HBf : Hid (∀ wr, Below w2.heap.size w2 wr → Below w.heap.size w wr) := fun wr hb => hB2.trans (hb.mono hB2.size)
  have Hm : Hid (IsMd (fun k => k < w.heap.size) w m (.slice ac m.consts.length cc) (.slice af m.funcs.length cf)) := hm.base (fun k _ h => h)
  have Hs : Hid (IsVs (fun k => k < w.heap.size) w states (.slice as_ states.length cs_)) := hs.base (fun k _ h => h)
  have Ha : Hid (IsVs (fun k => k < w.heap.size) w args (.slice aa args.length ca)) := ha.base (fun k _ h => h)
  have Ht : Hid (Tb15 w.heap.size w) := ht
  have Hzz : Hid (SzM m ∧ SzVs states ∧ SzVs args) := ⟨hz, hzs, hza⟩
  have hK := wakes15_any (ht.at hB2)
  have hmn := min200_run fuel
  generalize up200 fuel = fq at *
  have Hbx : Hid _ := hbx
  have Hw01 : Hid (w.heap.size < w1.heap.size) := l01
  clear hm hz hs ha hzs hza ht hbx hcel hx1 hx2 hb1 hb2 hs1 hs2 hB2 l01 l12
  go_enter Tryz.func6, Tryz.ntmps6
  go_wp2_with fail
  refine hK.mono ?_
  rintro e w3 ⟨rfl, hb3⟩
  obtain ⟨k0, k1, k2, k3, k4, k5, k6, k7⟩ := Hcel.out w3 hb3
  obtain ⟨w4, hW4, hb4, hs4, hx4⟩ := box2 w3 (.slice as_ states.length cs_) (.slice aa args.length ca) 22
  have hB4 : Below w2.heap.size w2 w4 := hb3.trans (hb4.mono hb3.size)
  have hL := large15_any (Hm.out.below (HBf.out w4 hB4)) (Hs.out.below (HBf.out w4 hB4)) (Ha.out.below (HBf.out w4 hB4)) hx4 Hzz.out.1 Hzz.out.2.1 Hzz.out.2.2
  clear hK hW1 hW2 hb3 hs4 hx4 hb4
  go_wp2_with fail
  refine hL.mono ?_
  rintro e w5 ⟨⟨b, rfl, hb⟩, hb5⟩
  have hB5 : Below w2.heap.size w2 w5 := hB4.trans (hb5.mono hB4.size)
  have HL : Hid (b = false → Sm15 m states args) := hb
  clear hL hW4 hb hb5 hB4 k0 k1 k2 k3 k4 k5 k6 k7
  have hfin5 := HBf.out w5 hB5
  cases b with
  | true =>
    clear HL
    go_wp2
    go_ret
    exact ⟨rfl, hfin5⟩
  | false =>
  have HS : Hid (Sm15 m states args) := HL.out rfl
  clear HL hfin5 Hzz
  have hRun : ∀ (wr : World) (fu : Int), Below w2.heap.size w2 wr → Calls Tryz.prog 11 #[.agg #[.slice ac m.consts.length cc, .slice af m.funcs.length cf], .slice as_ states.length cs_, .int .i64 n, .slice aa args.length ca, .int .i64 fu] wr (RunPostW m states n args fu wr) := fun wr fu hb => vrun_any (Hm.out.below (HBf.out wr hb)) HS.out.fit (Hs.out.below (HBf.out wr hb)) (Ha.out.below (HBf.out wr hb)) (fun v hv => by have := HS.out.ws v hv; omega) (fun v hv => by have := HS.out.wa v hv; omega) (by have := HS.out.ls; omega) (Ht.out.at (HBf.out wr hb))
  have HRun : Hid _ := hRun
  clear hRun
  obtain ⟨k0, k1, k2, k3, k4, k5, k6, k7⟩ := Hcel.out w5 hB5
  clear HRun
  have hCc : ∀ wx, Below w5.heap.size w5 wx → Calls Tryz.prog 16 #[.slice ac m.consts.length cc] wx fun r w' => (∃ a' c', r = .returned (.slice a' m.consts.length c') ∧ GvW (From wx.heap.size) 1000002 w' (.slice a' m.consts.length c') m.consts) ∧ Below wx.heap.size wx w' := fun wx hb => rcopyAllW_any ((Hm.out.con.below (HBf.out w5 hB5)).below hb) (fun v hv => by have := HS.out.wc v hv; omega) (by have := HS.out.lc; omega)
  have hCs : ∀ wx, Below w5.heap.size w5 wx → Calls Tryz.prog 16 #[.slice as_ states.length cs_] wx fun r w' => (∃ a' c', r = .returned (.slice a' states.length c') ∧ GvW (From wx.heap.size) 1000002 w' (.slice a' states.length c') states) ∧ Below wx.heap.size wx w' := fun wx hb => rcopyAllW_any ((Hs.out.below (HBf.out w5 hB5)).below hb) (fun v hv => by have := HS.out.ws v hv; omega) (by have := HS.out.ls; omega)
  have hCa : ∀ wx, Below w5.heap.size w5 wx → Calls Tryz.prog 16 #[.slice aa args.length ca] wx fun r w' => (∃ a' c', r = .returned (.slice a' args.length c') ∧ GvW (From wx.heap.size) 1000002 w' (.slice a' args.length c') args) ∧ Below wx.heap.size wx w' := fun wx hb => rcopyAllW_any ((Ha.out.below (HBf.out w5 hB5)).below hb) (fun v hv => by have := HS.out.wa v hv; omega) (by have := HS.out.la; omega)
  have HB5 : Hid (Below w2.heap.size w2 w5) := hB5
  have hd5 : Below w5.heap.size w5 w5.drew := below_drewN w5 1
  go_wp2_with fail
  have hSk : ∀ wr, Below w5.heap.size w5 wr → wr.cell? ⟨w1.heap.size, 0, none⟩ = some (.slice as_ states.length cs_) ∧ wr.cell? ⟨w1.heap.size, 1, none⟩ = some (.slice aa args.length ca) ∧ wr.cell? ⟨w.heap.size, 0, none⟩ = some (.slice ac m.consts.length cc) := fun wr hb => by
    obtain ⟨p0, p1, p2, p3, -⟩ := Hcel.out wr (HB5.out.trans (hb.mono HB5.out.size))
    exact ⟨p2, p3, p0⟩
  refine wpE_begin (S := fun w' => w'.cell? ⟨w1.heap.size, 0, none⟩ = some (.slice as_ states.length cs_) ∧ w'.cell? ⟨w1.heap.size, 1, none⟩ = some (.slice aa args.length ca) ∧ w'.cell? ⟨w.heap.size, 0, none⟩ = some (.slice ac m.consts.length cc)) (N := fun j => decide (j < 12)) (by kernel_rfl) ?_
  have hS0 : w5.drew.cell? ⟨w1.heap.size, 0, none⟩ = some (.slice as_ states.length cs_) ∧ w5.drew.cell? ⟨w1.heap.size, 1, none⟩ = some (.slice aa args.length ca) ∧ w5.drew.cell? ⟨w.heap.size, 0, none⟩ = some (.slice ac m.consts.length cc) := hSk _ hd5
  refine wpE_takeX (some 28) (fun j => [1, 2, 5, 8, 9, 10, 11].contains j) (i := 0) (v := .pointer (some ⟨w1.heap.size, 0, none⟩)) rfl rfl (by kernel_rfl) (by kernel_rfl) (by kernel_rfl) (by kernel_rfl) (fun j hj => by simp at hj; show j < 12; omega) (fun _ _ _ h => h) rfl (fun w' hS => by obtain ⟨g0, g1, g2⟩ := hS; go_simp) hS0 ?_
  try simp only [Act.put, List.setIfInBounds_toArray, List.set_cons_zero, List.set_cons_succ]
  refine wpE_takeX (some 29) (fun j => [2, 5, 8, 9, 10, 11].contains j) (i := 1) (v := .slice as_ states.length cs_) rfl rfl (by kernel_rfl) (by kernel_rfl) (by kernel_rfl) (by kernel_rfl) (fun j hj => by simp at hj; show j < 12; omega) (fun _ _ _ h => h) rfl (fun w' hS => by obtain ⟨g0, g1, g2⟩ := hS; go_simp) hS0 ?_
  try simp only [Act.put, List.setIfInBounds_toArray, List.set_cons_zero, List.set_cons_succ]
  refine wpE_takeX (some 31) (fun j => [4, 5, 8, 9, 10, 11].contains j) (i := 3) (v := .pointer (some ⟨w1.heap.size, 1, none⟩)) rfl rfl (by kernel_rfl) (by kernel_rfl) (by kernel_rfl) (by kernel_rfl) (fun j hj => by simp at hj; show j < 12; omega) (fun _ _ _ h => h) rfl (fun w' hS => by obtain ⟨g0, g1, g2⟩ := hS; go_simp) hS0 ?_
  try simp only [Act.put, List.setIfInBounds_toArray, List.set_cons_zero, List.set_cons_succ]
  refine wpE_takeX (some 32) (fun j => [5, 8, 9, 10, 11].contains j) (i := 4) (v := .slice aa args.length ca) rfl rfl (by kernel_rfl) (by kernel_rfl) (by kernel_rfl) (by kernel_rfl) (fun j hj => by simp at hj; show j < 12; omega) (fun _ _ _ h => h) rfl (fun w' hS => by obtain ⟨g0, g1, g2⟩ := hS; go_simp) hS0 ?_
  try simp only [Act.put, List.setIfInBounds_toArray, List.set_cons_zero, List.set_cons_succ]
  refine wpE_takeX (some 34) (fun j => [7, 8, 9, 10, 11].contains j) (i := 6) (v := .pointer (some ⟨w.heap.size, 0, none⟩)) rfl rfl (by kernel_rfl) (by kernel_rfl) (by kernel_rfl) (by kernel_rfl) (fun j hj => by simp at hj; show j < 12; omega) (fun _ _ _ h => h) rfl (fun w' hS => by obtain ⟨g0, g1, g2⟩ := hS; go_simp) hS0 ?_
  try simp only [Act.put, List.setIfInBounds_toArray, List.set_cons_zero, List.set_cons_succ]
  refine wpE_takeX (some 35) (fun j => [8, 9, 10, 11].contains j) (i := 7) (v := .slice ac m.consts.length cc) rfl rfl (by kernel_rfl) (by kernel_rfl) (by kernel_rfl) (by kernel_rfl) (fun j hj => by simp at hj; show j < 12; omega) (fun _ _ _ h => h) rfl (fun w' hS => by obtain ⟨g0, g1, g2⟩ := hS; go_simp) hS0 ?_
  try simp only [Act.put, List.setIfInBounds_toArray, List.set_cons_zero, List.set_cons_succ]
  refine wpE_one (i := 2) (by kernel_rfl) rfl rfl (fun K hK => ?_)
  go_simp
  refine (hCs _ hd5).mono ?_
  rintro e w6 ⟨⟨a6, c6, rfl, hG6⟩, hb6⟩
  have hb6l := hb6
  replace hb6 : Below w5.heap.size w5 w6 := hd5.trans (hb6.mono hd5.size)
  refine hK _ _ (fun _ => hSk _ hb6) ?_
  clear hK K
  try simp only [Act.put, List.setIfInBounds_toArray, List.set_cons_zero, List.set_cons_succ]
  refine wpE_one (i := 5) (by kernel_rfl) rfl rfl (fun K hK => ?_)
  go_simp
  refine (hCa _ hb6).mono ?_
  rintro e w7 ⟨⟨a7, c7, rfl, hG7⟩, hb7⟩
  have hb7l := hb7
  replace hb7 : Below w5.heap.size w5 w7 := hb6.trans (hb7.mono hb6.size)
  refine hK _ _ (fun _ => hSk _ hb7) ?_
  clear hK K
  try simp only [Act.put, List.setIfInBounds_toArray, List.set_cons_zero, List.set_cons_succ]
  refine wpE_one (i := 8) (by kernel_rfl) rfl rfl (fun K hK => ?_)
  go_simp
  refine (hCc _ hb7).mono ?_
  rintro e w8 ⟨⟨a8, c8, rfl, hG8⟩, hb8⟩
  have hb8l := hb8
  replace hb8 : Below w5.heap.size w5 w8 := hb7.trans (hb8.mono hb7.size)
  refine hK _ _ (fun _ => hSk _ hb8) ?_
  clear hK K
  try simp only [Act.put, List.setIfInBounds_toArray, List.set_cons_zero, List.set_cons_succ]
  refine wpE_one (i := 9) (by kernel_rfl) rfl rfl (fun K hK => ?_)
  go_simp
  refine hK _ _ (fun _ => hSk _ hb8) ?_
  clear hK K
  try simp only [Act.put, List.setIfInBounds_toArray, List.set_cons_zero, List.set_cons_succ]
  refine wpE_one (i := 10) (by kernel_rfl) rfl rfl (fun K hK => ?_)
  go_simp
  refine hK _ _ (fun _ => hSk _ hb8) ?_
  clear hK K
  try simp only [Act.put, List.setIfInBounds_toArray, List.set_cons_zero, List.set_cons_succ]
  refine wpE_one (i := 11) (by kernel_rfl) rfl rfl (fun K hK => ?_)
  go_simp
  refine hK _ _ (fun _ => hSk _ hb8) ?_
  clear hK K
  try simp only [Act.put, List.setIfInBounds_toArray, List.set_cons_zero, List.set_cons_succ]
  refine wpE_done (by kernel_rfl) ?_
  simp only [Exit.then]
  refine ‹∀ (a : Act) (w : World), _ → _› _ _ ?_
  have z56 := hb6.size
  have z67 := hb7l.size
  have z78 := hb8l.size
  have hst8 : GvW (Rg w5.heap.size w8.heap.size) 1000002 w8 (.slice a6 states.length c6) states := ((hG6.base (P' := Rg w5.heap.size w8.heap.size) (fun k hk hl => ⟨hk, by omega⟩)).below hb7l).below hb8l
  have har8 : GvW (Rg w5.heap.size w8.heap.size) 1000002 w8 (.slice a7 args.length c7) args := (hG7.base (P' := Rg w5.heap.size w8.heap.size) (fun k hk hl => ⟨by have hk' : w6.heap.size ≤ k := hk; omega, by omega⟩)).below hb8l
  have hco8 : GvW (Rg w5.heap.size w8.heap.size) 1000002 w8 (.slice a8 m.consts.length c8) m.consts := hG8.base (P' := Rg w5.heap.size w8.heap.size) (fun k hk hl => ⟨by have hk' : w7.heap.size ≤ k := hk; omega, hl⟩)
  obtain ⟨wz9, w9, hWz9, hW9, hb9, hl9, hx9, hzz9⟩ := zm15 w8 (.slice a8 m.consts.length c8) (.slice af m.funcs.length cf)
  have hst9 := hst8.below hb9
  have har9 := har8.below hb9
  have hco9 := hco8.below hb9
  have hB59 : Below w5.heap.size w5 w9 := hb8.trans (hb9.mono hb8.size)
  have hB9 : Below w2.heap.size w2 w9 := HB5.out.trans (hB59.mono HB5.out.size)
  have hbw9 := HBf.out w9 hB9
  have hw01 : w.heap.size < w1.heap.size ∧ w1.heap.size < w5.heap.size := ⟨Hw01.out, (Array.getElem?_eq_some_iff.1 (Hbx.out w5 HB5.out).2).1⟩
  have Hn : Hid (w.heap.size < w1.heap.size ∧ w1.heap.size < w5.heap.size ∧ w5.heap.size ≤ w8.heap.size ∧ w8.heap.size < w9.heap.size) := ⟨hw01.1, hw01.2, by omega, hl9⟩
  have HSame : Hid (∀ wr, Since (fun k => k < w9.heap.size) w9 wr → (wr.cell? ⟨w.heap.size, 0, none⟩ = some (.slice ac m.consts.length cc) ∧ wr.cell? ⟨w1.heap.size, 0, none⟩ = some (.slice as_ states.length cs_) ∧ wr.cell? ⟨w1.heap.size, 1, none⟩ = some (.slice aa args.length ca) ∧ wr.cell? ⟨w1.heap.size, 2, none⟩ = some (.int .i64 n) ∧ w.heap.size < wr.heap.size ∧ w1.heap.size < wr.heap.size) ∧ (Calls Tryz.prog 13 #[.slice a6 states.length c6, .slice as_ states.length cs_] wr fun r w' => r = .returned (.bool true) ∧ Below wr.heap.size wr w') ∧ (Calls Tryz.prog 13 #[.slice a7 args.length c7, .slice aa args.length ca] wr fun r w' => r = .returned (.bool true) ∧ Below wr.heap.size wr w') ∧ Calls Tryz.prog 13 #[.slice a8 m.consts.length c8, .slice ac m.consts.length cc] wr fun r w' => r = .returned (.bool true) ∧ Below wr.heap.size wr w') := fun wr h => by
    obtain ⟨x0, x1⟩ := Hbx.out w9 hB9
    have n0 := Hn.out
    obtain ⟨q0, q1, -, -, q2⟩ := cells_k2 ((h.block w.heap.size (by show _ < _; omega) (by omega)).trans x0)
    have x1' := (h.block w1.heap.size (by show _ < _; omega) (by omega)).trans x1
    obtain ⟨r0, r1, r2, r3, -⟩ := cells_of4 x1'
    have hT : ∀ {l : List V} {sl : Value} {P : Nat → Prop}, (∀ k, P k → k < w9.heap.size) → IsVs P w9 l sl → IsVs Any' wr l sl := fun hP hl => ((hl.base (B' := fun k => k < w9.heap.size) (fun k hk _ => hP k hk)).since h).base (fun _ _ _ => trivial)
    have hR : ∀ k, Rg w5.heap.size w8.heap.size k → k < w9.heap.size := fun k hk => by have := hk.2; omega
    have hO : ∀ k, k < w.heap.size → k < w9.heap.size := fun k hk => by omega
    exact ⟨⟨q0, r0, r1, r2, q2, (Array.getElem?_eq_some_iff.1 x1').1⟩, sameAll_any (hT hR hst9.gv.vs) (hT hO (Hs.out.below hbw9)), sameAll_any (hT hR har9.gv.vs) (hT hO (Ha.out.below hbw9)), sameAll_any (hT hR hco9.gv.vs) (hT hO (Hm.out.con.below hbw9))⟩
  have HRun : Hid (∀ wr (fu : Int), Below w9.heap.size w9 wr → Calls Tryz.prog 11 #[.agg #[.slice a8 m.consts.length c8, .slice af m.funcs.length cf], .slice a6 states.length c6, .int .i64 n, .slice a7 args.length c7, .int .i64 fu] wr (RunPostW m states n args fu wr)) := fun wr fu hb => vrun_any (B := Any') ⟨(hco9.gv.vs.below hb).base (fun _ _ _ => trivial), (((Hm.out.below hbw9).below hb).base (fun _ _ _ => trivial)).fun_⟩ HS.out.fit ((hst9.gv.vs.below hb).base (fun _ _ _ => trivial)) ((har9.gv.vs.below hb).base (fun _ _ _ => trivial)) (fun v hv => by have := HS.out.ws v hv; omega) (fun v hv => by have := HS.out.wa v hv; omega) (by have := HS.out.ls; omega) (Ht.out.at (hbw9.trans (hb.mono hbw9.size)))
  have Hst : Hid (Wf (Rg w5.heap.size w8.heap.size) 1000003 w9 (.slice a6 states.length c6)) := hst9.wf (by have := HS.out.ls; omega)
  have Har : Hid (Wf (Rg w5.heap.size w8.heap.size) 1000003 w9 (.slice a7 args.length c7)) := har9.wf (by have := HS.out.la; omega)
  have Hco : Hid (Wf (Rg w5.heap.size w8.heap.size) 1000003 w9 (.slice a8 m.consts.length c8)) := hco9.wf (by have := HS.out.lc; omega)
  have Hbw9 : Hid (Below w.heap.size w w9) := hbw9
  have HS15 : Hid (Sm15 m states args) := HS
  have hMx : ∀ wr, Below w9.heap.size w9 wr → wr.cell? ⟨w8.heap.size, 0, none⟩ = some (.slice a8 m.consts.length c8) ∧ wr.cell? ⟨w8.heap.size, 1, none⟩ = some (.slice af m.funcs.length cf) ∧ w8.heap.size < wr.heap.size := fun wr hb => by
    obtain ⟨q0, q1, -, -, q2⟩ := cells_k2 ((hb.block _ hl9).trans hx9)
    exact ⟨q0, q1, q2⟩
  have HMx : Hid _ := hMx
  obtain ⟨m0, m1, -, -, ml⟩ := cells_k2 hx9
  obtain ⟨zz0, zz1, yy0, yy1, zzl⟩ := cells_k2 hzz9
  obtain ⟨⟨j0, j1, j2, j3, j4, j5⟩, -, -, -⟩ := HSame.out w9 (Since.refl _ _)
  obtain ⟨i0, i1, i2, i3, i4, i5, i6, i7⟩ := Hcel.out w8 (HB5.out.trans (hb8.mono HB5.out.size))
  have hR1 := HRun.out w9 fq (Below.refl _ _)
  clear hCc hCs hCa hG6 hG7 hG8 hb6l hb7l hb8l hb6 hb7 z56 z67 z78 hst8 har8 hco8 hst9 har9 hco9 hB59 hB9 hbw9 hw01 hMx hx9 hzz9 hb9 hS0 hSk hd5 k0 k1 k2 k3 k4 k5 k6 k7 hb8 HB5 hB5 hl9 Hs Ha Hm Ht HS Hcel HBf Hbx Hw01
  go_wp2_with fail
  refine hR1.mono ?_
  rintro e w10 ⟨S, v, e1, fl, a', c', av, cv, mid, rfl, -, hm1, hm2, -, hSf, -, hvf, hb10⟩
  clear hR1 j0 j1 j2 j3 j4 j5 i0 i1 i2 i3 i4 i5 i6 i7 m0 m1 ml zz0 zz1 yy0 yy1 zzl hWz9 hW9
  obtain ⟨wz, w11, hWz, hW11, hx11, hb11, hl11, hzz⟩ := obox6 w10 (.int .i64 v.k) (.int .i64 v.n) (.string ⟨v.t.toArray⟩) (.slice av v.l.length cv) (.int .i64 e1) (.int .i64 fl)
  have hb911 : Below w9.heap.size w9 w11 := hb10.trans (hb11.mono hb10.size)
  obtain ⟨z0, z1, z2, z3, z4, z5, zl⟩ := cells_k6 hzz
  obtain ⟨y0, y1, y2, y3, y4, y5⟩ := fz6 hzz
  have H1 : Hid (w9.heap.size ≤ w10.heap.size ∧ w10.heap.size < w11.heap.size) := ⟨hb10.size, hl11⟩
  have HSf : Hid (Wf (Rg w9.heap.size w10.heap.size) 1000002 w11 (.slice a' S.length c')) := (hSf.base (P' := Rg w9.heap.size w10.heap.size) (fun k hk hl => ⟨hk.1, hl⟩)).below hb11
  have Hvf : Hid (Wf (Rg w9.heap.size w10.heap.size) 1000001 w11 (.slice av v.l.length cv)) := (hvf.base (P' := Rg w9.heap.size w10.heap.size) (fun k hk hl => ⟨by have := hk.1; omega, hl⟩)).below hb11
  have Hox : Hid (w11.heap[w10.heap.size]? = some (ouO (.int .i64 v.k) (.int .i64 v.n) (.string ⟨v.t.toArray⟩) (.slice av v.l.length cv) (.int .i64 e1) (.int .i64 fl))) := hx11
  have Hb911 : Hid (Below w9.heap.size w9 w11) := hb911
  have hR2 := HRun.out w11 fq hb911
  obtain ⟨⟨j0, j1, j2, j3, j4, j5⟩, -, -, -⟩ := HSame.out w11 (Since.of_below hb911)
  obtain ⟨m0, m1, ml⟩ := HMx.out w11 hb911
  clear hm1 hm2 hSf hvf hb10 hb11 hx11 hzz hb911 hl11 HRun HMx
  go_wp2_with fail
  refine hR2.mono ?_
  rintro e w12 ⟨S2, v2, e2, fl2, a2', c2', av2, cv2, mid2, rfl, hIs2, hm3, hm4, hS2, -, hv2, hv2f, hb12⟩
  clear hR2 j0 j1 j2 j3 j4 j5 m0 m1 ml hWz hW11 z0 z1 z2 z3 z4 z5 zl y0 y1 y2 y3 y4 y5
  obtain ⟨wz, w13, hWz, hW13, hx13, hb13, hl13, hzz⟩ := obox6 w12 (.int .i64 v2.k) (.int .i64 v2.n) (.string ⟨v2.t.toArray⟩) (.slice av2 v2.l.length cv2) (.int .i64 e2) (.int .i64 fl2)
  obtain ⟨z0, z1, z2, z3, z4, z5, zl⟩ := cells_k6 hzz
  obtain ⟨y0, y1, y2, y3, y4, y5⟩ := fz6 hzz
  have hb1113 : Below w11.heap.size w11 w13 := hb12.trans (hb13.mono hb12.size)
  have hb913 : Below w9.heap.size w9 w13 := Hb911.out.trans (hb1113.mono Hb911.out.size)
  have H2 : Hid (w11.heap.size ≤ mid2 ∧ mid2 ≤ w12.heap.size ∧ w12.heap.size < w13.heap.size) := ⟨hm3, hm4, hl13⟩
  have HS2 : Hid (IsVs (Rg w11.heap.size mid2) w13 S2 (.slice a2' S2.length c2')) := hS2.below hb13
  have Hv2 : Hid (IsW (Rg mid2 w12.heap.size) w13 v2 (.slice av2 v2.l.length cv2)) := hv2.below hb13
  have Hv2f : Hid (Wf (Rg mid2 w12.heap.size) 1000001 w13 (.slice av2 v2.l.length cv2)) := hv2f.below hb13
  have Hpx : Hid (w13.heap[w12.heap.size]? = some (ouO (.int .i64 v2.k) (.int .i64 v2.n) (.string ⟨v2.t.toArray⟩) (.slice av2 v2.l.length cv2) (.int .i64 e2) (.int .i64 fl2))) := hx13
  have Hb1113 : Hid (Below w11.heap.size w11 w13) := hb1113
  have Hb913 : Hid (Below w9.heap.size w9 w13) := hb913
  have HwS : Hid ((∀ x ∈ S2, wt x ≤ 800000) ∧ S2.length ≤ 800000 ∧ wt v2 ≤ 800000) := by
    have hls := HS15.out.ls
    have hz0 : wt V.zero ≤ 800000 := by decide
    obtain ⟨-, -, h⟩ := hIs2.facts
    rcases h with ⟨-, rfl, rfl, -⟩ | ⟨-, rfl, rfl, hs, -⟩ | ⟨-, hs, hv, hl⟩
    · exact ⟨fun x hx => by simp at hx, by simp, hz0⟩
    · exact ⟨fun x hx => by have := (hs x hx).1; omega, by omega, hz0⟩
    · exact ⟨fun x hx => by have := (hs x hx).1; omega, by omega, by have := hv.1; omega⟩
  obtain ⟨⟨j0, j1, j2, j3, j4, j5⟩, hs1, -, -⟩ := HSame.out w13 (Since.of_below hb913)
  clear hm3 hm4 hS2 hv2 hv2f hb12 hb13 hx13 hzz hb1113 hb913 hl13 hIs2
  go_wp2_with fail
  refine hs1.mono ?_
  rintro r w14 ⟨rfl, hb14⟩
  have hb914 : Below w9.heap.size w9 w14 := Hb913.out.trans (hb14.mono Hb913.out.size)
  clear hs1 hWz hW13 z0 z1 z2 z3 z4 z5 zl y0 y1 y2 y3 y4 y5 j0 j1 j2 j3 j4 j5
  obtain ⟨⟨j0, j1, j2, j3, j4, j5⟩, -, hs2, -⟩ := HSame.out w14 (Since.of_below hb914)
  have Hb914 : Hid (Below w9.heap.size w9 w14 ∧ Below w13.heap.size w13 w14) := ⟨hb914, hb14⟩
  clear hb914 hb14
  go_wp2_with fail
  refine hs2.mono ?_
  rintro r w15 ⟨rfl, hb15⟩
  have hb915 : Below w9.heap.size w9 w15 := Hb914.out.1.trans (hb15.mono Hb914.out.1.size)
  clear hs2 j0 j1 j2 j3 j4 j5
  obtain ⟨⟨j0, j1, j2, j3, j4, j5⟩, -, -, hs3⟩ := HSame.out w15 (Since.of_below hb915)
  have Hb915 : Hid (Below w9.heap.size w9 w15 ∧ Below w13.heap.size w13 w15) := ⟨hb915, Hb914.out.2.trans (hb15.mono Hb914.out.2.size)⟩
  clear hb915 hb15
  go_wp2_with fail
  refine hs3.mono ?_
  rintro r w16 ⟨rfl, hb16⟩
  have Hb16 : Hid (Below w9.heap.size w9 w16 ∧ Below w13.heap.size w13 w16) := ⟨Hb915.out.1.trans (hb16.mono Hb915.out.1.size), Hb915.out.2.trans (hb16.mono Hb915.out.2.size)⟩
  clear hs3 hb16 j0 j1 j2 j3 j4 j5 Hb915 Hb914
  have hpc : ∀ wr, Below w16.heap.size w16 wr → wr.cell? ⟨w12.heap.size, 0, none⟩ = some (.int .i64 v2.k) ∧ wr.cell? ⟨w12.heap.size, 1, none⟩ = some (.int .i64 v2.n) ∧ wr.cell? ⟨w12.heap.size, 2, none⟩ = some (.string ⟨v2.t.toArray⟩) ∧ wr.cell? ⟨w12.heap.size, 3, none⟩ = some (.slice av2 v2.l.length cv2) := fun wr hb => by
    have hl := (Array.getElem?_eq_some_iff.1 Hpx.out).1
    obtain ⟨q0, q1, q2, q3, -⟩ := cells_k6 ((hb.block _ (Nat.lt_of_lt_of_le hl Hb16.out.2.size)).trans ((Hb16.out.2.block _ hl).trans Hpx.out))
    exact ⟨q0, q1, q2, q3⟩
  have hpl : w12.heap.size < w16.heap.size := Nat.lt_of_lt_of_le H2.out.2.2 Hb16.out.2.size
  have HCb : Hid (∀ wx, Below w16.heap.size w16 wx → Calls Tryz.prog 16 #[.slice a2' S2.length c2'] wx fun r w' => (∃ aw cw, r = .returned (.slice aw S2.length cw) ∧ IsVs (Rg wx.heap.size w'.heap.size) w' S2 (.slice aw S2.length cw)) ∧ Below wx.heap.size wx w') := fun wx hb => by
    refine (rcopyAllW_any ((HS2.out.below Hb16.out.2).below hb) HwS.out.1 HwS.out.2.1).mono ?_
    rintro r w' ⟨⟨aw, cw, rfl, hG⟩, hb'⟩
    exact ⟨⟨aw, cw, rfl, hG.gv.vs.base (fun k hk hl => ⟨hk, hl⟩)⟩, hb'⟩
  have HCv : Hid (∀ wx, Below w16.heap.size w16 wx → Calls Tryz.prog 17 #[.agg #[.int .i64 v2.k, .int .i64 v2.n, .string ⟨v2.t.toArray⟩, .slice av2 v2.l.length cv2]] wx fun r w' => (∃ ax cx, r = .returned (.agg #[.int .i64 v2.k, .int .i64 v2.n, .string ⟨v2.t.toArray⟩, .slice ax v2.l.length cx]) ∧ IsW (Rg wx.heap.size w'.heap.size) w' v2 (.slice ax v2.l.length cx)) ∧ Below wx.heap.size wx w') := fun wx hb => by
    refine (rcopyW_any 1000001 _ _ _ _ (by have := HwS.out.2.2; omega) HwS.out.2.2 ((Hv2.out.below Hb16.out.2).below hb)).mono ?_
    rintro r w' ⟨⟨aw, cw, rfl, hI, -⟩, hb'⟩
    exact ⟨⟨aw, cw, rfl, hI.base (fun k hk hl => ⟨hk, hl⟩)⟩, hb'⟩
  go_wp2_with fail
  refine wp_region_key (fun a a' w' => ∃ (gv : Nat) (aw : Option Addr) (cw : Nat) (ax : Option Addr) (cx : Nat), a' = (((((((a.put (some 80) (.slice a2' S2.length c2')).put (some 82) (.pointer (some ⟨w12.heap.size, 0, none⟩))).put (some 83) (.agg #[.int .i64 v2.k, .int .i64 v2.n, .string ⟨v2.t.toArray⟩, .slice av2 v2.l.length cv2])).put (some 81) (.slice aw S2.length cw)).put (some 84) (.agg #[.int .i64 v2.k, .int .i64 v2.n, .string ⟨v2.t.toArray⟩, .slice ax v2.l.length cx])).put (some 15) (.pointer (some ⟨gv, 0, none⟩))).put (some 14) (.slice aw S2.length cw)) ∧ Hid (Kp12 w16 S2 v2 gv aw cw ax cx w')) ?_ ?_
  · skip
    have hbd : Below w16.heap.size w16 w16.drew := below_drewN w16 1
    refine wpE_begin (S := fun w' => w'.cell? ⟨w12.heap.size, 0, none⟩ = some (.int .i64 v2.k) ∧ w'.cell? ⟨w12.heap.size, 1, none⟩ = some (.int .i64 v2.n) ∧ w'.cell? ⟨w12.heap.size, 2, none⟩ = some (.string ⟨v2.t.toArray⟩) ∧ w'.cell? ⟨w12.heap.size, 3, none⟩ = some (.slice av2 v2.l.length cv2)) (N := fun j => decide (j < 8)) (by kernel_rfl) ?_
    have hS0 : w16.drew.cell? ⟨w12.heap.size, 0, none⟩ = some (.int .i64 v2.k) ∧ w16.drew.cell? ⟨w12.heap.size, 1, none⟩ = some (.int .i64 v2.n) ∧ w16.drew.cell? ⟨w12.heap.size, 2, none⟩ = some (.string ⟨v2.t.toArray⟩) ∧ w16.drew.cell? ⟨w12.heap.size, 3, none⟩ = some (.slice av2 v2.l.length cv2) := hpc _ hbd
    refine wpE_takeX (some 80) (fun j => [1, 4, 6, 7].contains j) (i := 0) (v := .slice a2' S2.length c2') rfl rfl (by kernel_rfl) (by kernel_rfl) (by kernel_rfl) (by kernel_rfl) (fun j hj => by simp at hj; show j < 8; omega) (fun _ _ _ h => h) rfl (fun w' hS => by obtain ⟨g0, g1, g2, g3⟩ := hS; go_simp) hS0 ?_
    try simp only [Act.put, List.setIfInBounds_toArray, List.set_cons_zero, List.set_cons_succ]
    refine wpE_takeX (some 82) (fun j => [3, 4, 6, 7].contains j) (i := 2) (v := .pointer (some ⟨w12.heap.size, 0, none⟩)) rfl rfl (by kernel_rfl) (by kernel_rfl) (by kernel_rfl) (by kernel_rfl) (fun j hj => by simp at hj; show j < 8; omega) (fun _ _ _ h => h) rfl (fun w' hS => by obtain ⟨g0, g1, g2, g3⟩ := hS; go_simp) hS0 ?_
    try simp only [Act.put, List.setIfInBounds_toArray, List.set_cons_zero, List.set_cons_succ]
    refine wpE_takeX (some 83) (fun j => [4, 6, 7].contains j) (i := 3) (v := .agg #[.int .i64 v2.k, .int .i64 v2.n, .string ⟨v2.t.toArray⟩, .slice av2 v2.l.length cv2]) rfl rfl (by kernel_rfl) (by kernel_rfl) (by kernel_rfl) (by kernel_rfl) (fun j hj => by simp at hj; show j < 8; omega) (fun _ _ _ h => h) rfl (fun w' hS => by obtain ⟨g0, g1, g2, g3⟩ := hS; go_simp) hS0 ?_
    try simp only [Act.put, List.setIfInBounds_toArray, List.set_cons_zero, List.set_cons_succ]
    refine wpE_two (i := 1) (j := 5) (by kernel_rfl) rfl rfl rfl rfl (fun K hK => ?_) (fun K hK => ?_)
    · go_simp
      refine (HCb.out _ hbd).mono ?_
      rintro r u1 ⟨⟨aw, cw, rfl, hS⟩, hbS⟩
      have hbu1 : Below w16.heap.size w16 u1 := hbd.trans (hbS.mono hbd.size)
      refine hK _ _ (fun _ => hpc _ hbu1) ?_
      clear hK K
      try simp only [Act.put, List.setIfInBounds_toArray, List.set_cons_zero, List.set_cons_succ]
      refine wpE_two (i := 4) (j := 5) (by kernel_rfl) rfl rfl rfl rfl (fun K hK => ?_) (fun K hK => ?_)
      · go_simp
        refine (HCv.out _ hbu1).mono ?_
        rintro r u14 ⟨⟨ax, cx, rfl, hV⟩, hbV⟩
        have hbu14 : Below w16.heap.size w16 u14 := hbu1.trans (hbV.mono hbu1.size)
        refine hK _ _ (fun _ => hpc _ hbu14) ?_
        clear hK K
        try simp only [Act.put, List.setIfInBounds_toArray, List.set_cons_zero, List.set_cons_succ]
        refine wpE_one (i := 5) (by kernel_rfl) rfl rfl (fun K hK => ?_)
        obtain ⟨u145, hWu145, hbK, hsK, hxK⟩ := boxv u14 (.int .i64 0) (.int .i64 0) (.string ⟨#[]⟩) (.slice none 0 0)
        replace hxK : u145.heap[u14.heap.size]? = some (.cells #[.int .i64 0, .int .i64 0, .string ⟨#[]⟩, .slice none 0 0] 31 (0, 0)) := hxK
        have hbu145 : Below w16.heap.size w16 u145 := hbu14.trans (hbK.mono hbu14.size)
        have hlK : u14.heap.size < u145.heap.size := by rw [hsK]; exact Nat.lt_succ_self _
        clear hsK
        go_simp
        refine hK _ _ (fun _ => hpc _ hbu145) ?_
        clear hK K
        try simp only [Act.put, List.setIfInBounds_toArray, List.set_cons_zero, List.set_cons_succ]
        replace hS := hS.below hbV
        replace hS := hS.below hbK
        replace hV := hV.below hbK
        have s1 := hbS.size
        have s4 := hbV.size
        have s5 := hbK.size
        have s0 : w16.heap.size ≤ w16.drew.heap.size := Nat.le_refl _
        have s00 : w16.drew.heap.size = w16.heap.size := rfl
        have lK := (Array.getElem?_eq_some_iff.1 hxK).1
        obtain ⟨c0, c1, c2, c3, f0, f1, f2, f3⟩ := cells_of4 hxK
        have hKp : Kp12 w16 S2 v2 u14.heap.size aw cw ax cx (set4 u145 u14.heap.size (.int .i64 v2.k) (.int .i64 v2.n) (.string ⟨v2.t.toArray⟩) (.slice ax v2.l.length cx)) := Kp12.of hxK hS hV hbu145 (by omega) (by omega) (by omega) (by omega) (by omega)
        have hbF := hKp.be
        have HKp : Hid _ := hKp
        clear hKp hS hV hxK s00
        refine wpE_one (i := 6) (by kernel_rfl) rfl rfl (fun K hK => ?_)
        go_simp
        refine hK _ _ (fun _ => hpc _ hbu145) ?_
        clear hK K
        try simp only [Act.put, List.setIfInBounds_toArray, List.set_cons_zero, List.set_cons_succ]
        refine wpE_one (i := 7) (by kernel_rfl) rfl rfl (fun K hK => ?_)
        go_simp
        refine hK _ _ (fun _ => hpc _ hbF) ?_
        clear hK K
        try simp only [Act.put, List.setIfInBounds_toArray, List.set_cons_zero, List.set_cons_succ]
        refine wpE_done (by kernel_rfl) ?_
        exact ⟨_, _, _, _, _, rfl, HKp⟩
      · obtain ⟨u15, hWu15, hbK, hsK, hxK⟩ := boxv u1 (.int .i64 0) (.int .i64 0) (.string ⟨#[]⟩) (.slice none 0 0)
        replace hxK : u15.heap[u1.heap.size]? = some (.cells #[.int .i64 0, .int .i64 0, .string ⟨#[]⟩, .slice none 0 0] 31 (0, 0)) := hxK
        have hbu15 : Below w16.heap.size w16 u15 := hbu1.trans (hbK.mono hbu1.size)
        have hlK : u1.heap.size < u15.heap.size := by rw [hsK]; exact Nat.lt_succ_self _
        clear hsK
        go_simp
        refine hK _ _ (fun _ => hpc _ hbu15) ?_
        clear hK K
        try simp only [Act.put, List.setIfInBounds_toArray, List.set_cons_zero, List.set_cons_succ]
        refine wpE_one (i := 4) (by kernel_rfl) rfl rfl (fun K hK => ?_)
        go_simp
        refine (HCv.out _ hbu15).mono ?_
        rintro r u154 ⟨⟨ax, cx, rfl, hV⟩, hbV⟩
        have hbu154 : Below w16.heap.size w16 u154 := hbu15.trans (hbV.mono hbu15.size)
        refine hK _ _ (fun _ => hpc _ hbu154) ?_
        clear hK K
        try simp only [Act.put, List.setIfInBounds_toArray, List.set_cons_zero, List.set_cons_succ]
        replace hS := hS.below hbK
        replace hS := hS.below hbV
        replace hxK := (hbV.block _ (Array.getElem?_eq_some_iff.1 hxK).1).trans hxK
        have s1 := hbS.size
        have s5 := hbK.size
        have s4 := hbV.size
        have s0 : w16.heap.size ≤ w16.drew.heap.size := Nat.le_refl _
        have s00 : w16.drew.heap.size = w16.heap.size := rfl
        have lK := (Array.getElem?_eq_some_iff.1 hxK).1
        obtain ⟨c0, c1, c2, c3, f0, f1, f2, f3⟩ := cells_of4 hxK
        have hKp : Kp12 w16 S2 v2 u1.heap.size aw cw ax cx (set4 u154 u1.heap.size (.int .i64 v2.k) (.int .i64 v2.n) (.string ⟨v2.t.toArray⟩) (.slice ax v2.l.length cx)) := Kp12.of hxK hS hV hbu154 (by omega) (by omega) (by omega) (by omega) (by omega)
        have hbF := hKp.be
        have HKp : Hid _ := hKp
        clear hKp hS hV hxK s00
        refine wpE_one (i := 6) (by kernel_rfl) rfl rfl (fun K hK => ?_)
        go_simp
        refine hK _ _ (fun _ => hpc _ hbu154) ?_
        clear hK K
        try simp only [Act.put, List.setIfInBounds_toArray, List.set_cons_zero, List.set_cons_succ]
        refine wpE_one (i := 7) (by kernel_rfl) rfl rfl (fun K hK => ?_)
        go_simp
        refine hK _ _ (fun _ => hpc _ hbF) ?_
        clear hK K
        try simp only [Act.put, List.setIfInBounds_toArray, List.set_cons_zero, List.set_cons_succ]
        refine wpE_done (by kernel_rfl) ?_
        exact ⟨_, _, _, _, _, rfl, HKp⟩
    · obtain ⟨u5, hWu5, hbK, hsK, hxK⟩ := boxv w16.drew (.int .i64 0) (.int .i64 0) (.string ⟨#[]⟩) (.slice none 0 0)
      replace hxK : u5.heap[w16.heap.size]? = some (.cells #[.int .i64 0, .int .i64 0, .string ⟨#[]⟩, .slice none 0 0] 31 (0, 0)) := hxK
      have hbu5 : Below w16.heap.size w16 u5 := hbd.trans (hbK.mono hbd.size)
      have hlK : w16.heap.size < u5.heap.size := by rw [hsK]; exact Nat.lt_succ_self _
      clear hsK
      go_simp
      refine hK _ _ (fun _ => hpc _ hbu5) ?_
      clear hK K
      try simp only [Act.put, List.setIfInBounds_toArray, List.set_cons_zero, List.set_cons_succ]
      refine wpE_one (i := 1) (by kernel_rfl) rfl rfl (fun K hK => ?_)
      go_simp
      refine (HCb.out _ hbu5).mono ?_
      rintro r u51 ⟨⟨aw, cw, rfl, hS⟩, hbS⟩
      have hbu51 : Below w16.heap.size w16 u51 := hbu5.trans (hbS.mono hbu5.size)
      refine hK _ _ (fun _ => hpc _ hbu51) ?_
      clear hK K
      try simp only [Act.put, List.setIfInBounds_toArray, List.set_cons_zero, List.set_cons_succ]
      refine wpE_one (i := 4) (by kernel_rfl) rfl rfl (fun K hK => ?_)
      go_simp
      refine (HCv.out _ hbu51).mono ?_
      rintro r u514 ⟨⟨ax, cx, rfl, hV⟩, hbV⟩
      have hbu514 : Below w16.heap.size w16 u514 := hbu51.trans (hbV.mono hbu51.size)
      refine hK _ _ (fun _ => hpc _ hbu514) ?_
      clear hK K
      try simp only [Act.put, List.setIfInBounds_toArray, List.set_cons_zero, List.set_cons_succ]
      replace hxK := (hbS.block _ (Array.getElem?_eq_some_iff.1 hxK).1).trans hxK
      replace hxK := (hbV.block _ (Array.getElem?_eq_some_iff.1 hxK).1).trans hxK
      replace hS := hS.below hbV
      have s5 := hbK.size
      have s1 := hbS.size
      have s4 := hbV.size
      have s0 : w16.heap.size ≤ w16.drew.heap.size := Nat.le_refl _
      have s00 : w16.drew.heap.size = w16.heap.size := rfl
      have lK := (Array.getElem?_eq_some_iff.1 hxK).1
      obtain ⟨c0, c1, c2, c3, f0, f1, f2, f3⟩ := cells_of4 hxK
      have hKp : Kp12 w16 S2 v2 w16.heap.size aw cw ax cx (set4 u514 w16.heap.size (.int .i64 v2.k) (.int .i64 v2.n) (.string ⟨v2.t.toArray⟩) (.slice ax v2.l.length cx)) := Kp12.of hxK hS hV hbu514 (by omega) (by omega) (by omega) (by omega) (by omega)
      have hbF := hKp.be
      have HKp : Hid _ := hKp
      clear hKp hS hV hxK s00
      refine wpE_one (i := 6) (by kernel_rfl) rfl rfl (fun K hK => ?_)
      go_simp
      refine hK _ _ (fun _ => hpc _ hbu514) ?_
      clear hK K
      try simp only [Act.put, List.setIfInBounds_toArray, List.set_cons_zero, List.set_cons_succ]
      refine wpE_one (i := 7) (by kernel_rfl) rfl rfl (fun K hK => ?_)
      go_simp
      refine hK _ _ (fun _ => hpc _ hbF) ?_
      clear hK K
      try simp only [Act.put, List.setIfInBounds_toArray, List.set_cons_zero, List.set_cons_succ]
      refine wpE_done (by kernel_rfl) ?_
      exact ⟨_, _, _, _, _, rfl, HKp⟩
  · rintro a17 w17 ⟨gv, aw, cw, ax, cx, rfl, HK⟩
    simp only [Act.put, List.setIfInBounds_toArray, List.set_cons_zero, List.set_cons_succ]
    simp only [Exit.then]
    refine ‹∀ (a : Act) (w : World), _ → _› _ _ ?_
    clear hpc hpl HCb HCv HwS
    have K := HK.out
    have Hb17 : Hid (Below w9.heap.size w9 w17 ∧ Below w11.heap.size w11 w17 ∧ Below w13.heap.size w13 w17) := by
      have a := Hb16.out.2.trans (K.be.mono Hb16.out.2.size)
      have b := Hb1113.out.trans (a.mono Hb1113.out.size)
      exact ⟨Hb911.out.trans (b.mono Hb911.out.size), b, a⟩
    have H3 : Hid (w13.heap.size ≤ w16.heap.size ∧ w16.heap.size ≤ gv ∧ gv < w17.heap.size) := ⟨Hb16.out.2.size, K.gl, (Array.getElem?_eq_some_iff.1 K.box).1⟩
    -- the first answers are written over
    have h18 := spoil15_any (P := Rg w9.heap.size w10.heap.size) 1000002 _ w17 (fun k hk => by have := hk.2; have := H1.out; have := Hb17.out.2.1.size; omega) (HSf.out.below Hb17.out.2.1)
    have hsp : Wf (Rg w9.heap.size w10.heap.size) 1000001 w17 (.slice av v.l.length cv) := Hvf.out.below Hb17.out.2.1
    have Hsp : Hid _ := hsp
    clear hsp K
    go_wp2_with fail
    refine h18.mono ?_
    rintro r w18 ⟨⟨rv, rfl⟩, hS18⟩
    have HS18 : Hid (Spo (Rg w9.heap.size w10.heap.size) w17 w18) := hS18
    have ho18 : w18.heap[w10.heap.size]? = some (ouO (.int .i64 v.k) (.int .i64 v.n) (.string ⟨v.t.toArray⟩) (.slice av v.l.length cv) (.int .i64 e1) (.int .i64 fl)) := by
      have hl := (Array.getElem?_eq_some_iff.1 Hox.out).1
      exact (hS18.block _ (by have := Hb17.out.2.1.size; omega) (fun hk => by have := hk.2; omega)).trans ((Hb17.out.2.1.block _ hl).trans Hox.out)
    obtain ⟨o0, o1, o2, o3, o4, o5, ol⟩ := cells_k6 ho18
    have h19 := spoil15_any (P := Rg w9.heap.size w10.heap.size) 1000001 _ w18 (fun k hk => by have := hk.2; have := H1.out; have := Hb17.out.2.1.size; have := hS18.size; omega) (hS18.lists _ _ Hsp.out)
    clear h18 ho18 hS18 Hsp
    go_wp2_with fail
    refine h19.mono ?_
    rintro r w19 ⟨⟨rv2, rfl⟩, hS19⟩
    clear h19 o0 o1 o2 o3 o4 o5 ol
    have HS19 : Hid (Spo (Rg w9.heap.size w10.heap.size) w17 w19) := HS18.out.trans hS19
    clear hS19 HS18
    have h919 : Since (fun k => k < w9.heap.size) w9 w19 := (Since.of_below Hb17.out.1).trans (HS19.out.since (fun k hk h => by have hk' : k < w9.heap.size := hk; have := h.1; omega))
    have H919 : Hid _ := h919
    obtain ⟨⟨j0, j1, j2, j3, j4, j5⟩, hs1, -, -⟩ := HSame.out w19 h919
    clear h919
    go_wp2_with fail
    refine hs1.mono ?_
    rintro r w20 ⟨rfl, hb20⟩
    have H920 : Hid (Since (fun k => k < w9.heap.size) w9 w20 ∧ Below w19.heap.size w19 w20) := ⟨H919.out.trans (Since.of_below hb20), hb20⟩
    clear hs1 hb20 j0 j1 j2 j3 j4 j5
    obtain ⟨⟨j0, j1, j2, j3, j4, j5⟩, -, hs2, -⟩ := HSame.out w20 H920.out.1
    go_wp2_with fail
    refine hs2.mono ?_
    rintro r w21 ⟨rfl, hb21⟩
    have H921 : Hid (Since (fun k => k < w9.heap.size) w9 w21 ∧ Below w19.heap.size w19 w21) := ⟨H920.out.1.trans (Since.of_below hb21), H920.out.2.trans (hb21.mono H920.out.2.size)⟩
    clear hs2 hb21 j0 j1 j2 j3 j4 j5 H920
    obtain ⟨⟨j0, j1, j2, j3, j4, j5⟩, -, -, hs3⟩ := HSame.out w21 H921.out.1
    go_wp2_with fail
    refine hs3.mono ?_
    rintro r w22 ⟨rfl, hb22⟩
    have H922 : Hid (Since (fun k => k < w9.heap.size) w9 w22 ∧ Below w19.heap.size w19 w22) := ⟨H921.out.1.trans (Since.of_below hb22), H921.out.2.trans (hb22.mono H921.out.2.size)⟩
    clear hs3 hb22 j0 j1 j2 j3 j4 j5 H921
    -- what was handed in is written over
    have hP2 : ∀ wr : World, w22.heap.size ≤ wr.heap.size → ∀ k, Rg w5.heap.size w8.heap.size k → k < wr.heap.size := fun wr hs k hk => by have := hk.2; have := Hn.out; have := H922.out.1.size; omega
    have hWs : ∀ {sl : Value}, Wf (Rg w5.heap.size w8.heap.size) 1000003 w9 sl → Wf (Rg w5.heap.size w8.heap.size) 1000003 w22 sl := fun h => h.since (H922.out.1.mono (fun k hk => by have := hk.2; have := Hn.out; show k < _; omega))
    have h23 := spoil15_any (P := Rg w5.heap.size w8.heap.size) 1000003 _ w22 (hP2 _ (Nat.le_refl _)) (hWs Hst.out)
    have HP2 : Hid _ := hP2
    have HWa : Hid (Wf (Rg w5.heap.size w8.heap.size) 1000003 w22 (.slice a7 args.length c7)) := hWs Har.out
    have HWc : Hid (Wf (Rg w5.heap.size w8.heap.size) 1000003 w22 (.slice a8 m.consts.length c8)) := hWs Hco.out
    clear hP2 hWs
    go_wp2_with fail
    refine h23.mono ?_
    rintro r w23 ⟨⟨rv3, rfl⟩, hS23⟩
    have HS23 : Hid (Spo (Rg w5.heap.size w8.heap.size) w22 w23) := hS23
    have h24 := spoil15_any (P := Rg w5.heap.size w8.heap.size) 1000003 _ w23 (HP2.out _ hS23.size) (hS23.lists _ _ HWa.out)
    clear h23 hS23
    go_wp2_with fail
    refine h24.mono ?_
    rintro r w24 ⟨⟨rv4, rfl⟩, hS24⟩
    have HS24 : Hid (Spo (Rg w5.heap.size w8.heap.size) w22 w24) := HS23.out.trans hS24
    have h25 := spoil15_any (P := Rg w5.heap.size w8.heap.size) 1000003 _ w24 (HP2.out _ HS24.out.size) (HS24.out.lists _ _ HWc.out)
    clear h24 hS24
    go_wp2_with fail
    refine h25.mono ?_
    rintro r w25 ⟨⟨rv5, rfl⟩, hS25⟩
    have HS25 : Hid (Spo (Rg w5.heap.size w8.heap.size) w22 w25) := HS24.out.trans hS25
    clear h25 hS25 HS23 HS24 HWa HWc HP2
    -- what was answered the second time stands
    have HY : Hid (∀ B : Nat → Prop, (∀ k, B k → ¬ Rg w9.heap.size w10.heap.size k ∧ ¬ Rg w5.heap.size w8.heap.size k) → Since B w17 w25) := fun B hB => ((HS19.out.since (fun k hk => (hB k hk).1)).trans (Since.of_below H922.out.2)).trans (HS25.out.since (fun k hk => (hB k hk).2))
    have HB25 : Hid (Below w.heap.size w w25) := by
      have n0 := Hn.out
      have n1 := H1.out
      have a : Below w.heap.size w w17 := Hbw9.out.trans (Hb17.out.1.mono Hbw9.out.size)
      have b : Below w.heap.size w17 w19 := HS19.out.below a.size (fun k hk => by have := hk.1; omega)
      have c : Below w.heap.size w19 w22 := H922.out.2.mono (by have := a.size; have := b.size; omega)
      have d : Below w.heap.size w22 w25 := HS25.out.below (by have := a.size; have := b.size; have := c.size; omega) (fun k hk => by have := hk.1; omega)
      exact ((a.trans b).trans c).trans d
    have hord : w5.heap.size ≤ w8.heap.size ∧ w8.heap.size < w9.heap.size ∧ w9.heap.size ≤ w10.heap.size ∧ w10.heap.size < w11.heap.size ∧ w11.heap.size ≤ mid2 ∧ mid2 ≤ w12.heap.size ∧ w12.heap.size < w13.heap.size ∧ w13.heap.size ≤ w16.heap.size ∧ w16.heap.size ≤ gv ∧ gv < w17.heap.size := by
      have n0 := Hn.out
      have n1 := H1.out
      have n2 := H2.out
      have n3 := H3.out
      omega
    have HSm : Hid (∀ wr, Since (fun k => ¬ Rg mid2 w12.heap.size k) w25 wr → Calls Tryz.prog 13 #[.slice a2' S2.length c2', .slice aw S2.length cw] wr fun r w' => r = .returned (.bool true) ∧ Below wr.heap.size wr w') := fun wr h => by
      have hT : ∀ {sl : Value} {P : Nat → Prop}, (∀ k, P k → ¬ Rg w9.heap.size w10.heap.size k ∧ ¬ Rg w5.heap.size w8.heap.size k ∧ ¬ Rg mid2 w12.heap.size k) → IsVs P w17 S2 sl → IsVs Any' wr S2 sl := fun hP hl => ((hl.since (HY.out _ (fun k hk => ⟨(hP k hk).1, (hP k hk).2.1⟩))).since (h.mono (fun k hk => (hP k hk).2.2))).base (fun _ _ _ => trivial)
      have hLs : IsVs (fun k => w16.heap.size ≤ k ∧ k ≠ gv) w17 S2 (.slice aw S2.length cw) := HK.out.ls
      exact sameAll_any (hT (fun k hk => by
        have hk1 := hk.1
        have hk2 := hk.2
        exact ⟨fun h => by have := h.2; omega, fun h => by have := h.2; omega, fun h => by have := h.1; omega⟩) (HS2.out.below Hb17.out.2.2)) (hT (fun k hk => by
        have hk1 : w16.heap.size ≤ k := hk.1
        exact ⟨fun h => by have := h.2; omega, fun h => by have := h.2; omega, fun h => by have := h.2; omega⟩) hLs)
    have hpx : ∀ wr, Below w25.heap.size w25 wr → (wr.cell? ⟨w12.heap.size, 0, none⟩ = some (.int .i64 v2.k) ∧ wr.cell? ⟨w12.heap.size, 1, none⟩ = some (.int .i64 v2.n) ∧ wr.cell? ⟨w12.heap.size, 2, none⟩ = some (.string ⟨v2.t.toArray⟩) ∧ wr.cell? ⟨w12.heap.size, 3, none⟩ = some (.slice av2 v2.l.length cv2) ∧ w12.heap.size < wr.heap.size) ∧ (wr.cell? ⟨gv, 0, none⟩ = some (.int .i64 v2.k) ∧ wr.cell? ⟨gv, 1, none⟩ = some (.int .i64 v2.n) ∧ wr.cell? ⟨gv, 2, none⟩ = some (.string ⟨v2.t.toArray⟩) ∧ wr.cell? ⟨gv, 3, none⟩ = some (.slice ax v2.l.length cx) ∧ gv < wr.heap.size) ∧ Calls Tryz.prog 15 #[.agg #[.int .i64 v2.k, .int .i64 v2.n, .string ⟨v2.t.toArray⟩, .slice av2 v2.l.length cv2], .agg #[.int .i64 v2.k, .int .i64 v2.n, .string ⟨v2.t.toArray⟩, .slice ax v2.l.length cx]] wr fun r w' => r = .returned (.bool true) ∧ Below wr.heap.size wr w' := fun wr hb => by
      have hs := HY.out (fun k => k = w12.heap.size ∨ k = gv) (fun k hk => ⟨fun h => by have := h.1; have := h.2; omega, fun h => by have := h.2; omega⟩)
      have hz := hs.size
      have x12 : wr.heap[w12.heap.size]? = some (ouO (.int .i64 v2.k) (.int .i64 v2.n) (.string ⟨v2.t.toArray⟩) (.slice av2 v2.l.length cv2) (.int .i64 e2) (.int .i64 fl2)) := (hb.block _ (by omega)).trans ((hs.block _ (Or.inl rfl) (by omega)).trans ((Hb17.out.2.2.block _ (by omega)).trans Hpx.out))
      have xg := (hb.block _ (by omega)).trans ((hs.block _ (Or.inr rfl) (by omega)).trans HK.out.box)
      obtain ⟨q0, q1, q2, q3, -, -, ql⟩ := cells_k6 x12
      obtain ⟨r0, r1, r2, r3, -⟩ := cells_of4 xg
      refine ⟨⟨q0, q1, q2, q3, ql⟩, ⟨r0, r1, r2, r3, (Array.getElem?_eq_some_iff.1 xg).1⟩, same_tt (B := Any') ?_ ?_⟩
      · exact (((Hv2.out.below Hb17.out.2.2).since (HY.out _ (fun k hk => by
          have hk1 := hk.1
          exact ⟨fun h => by have := h.2; omega, fun h => by have := h.2; omega⟩))).below hb).base (fun _ _ _ => trivial)
      · exact ((HK.out.vl.since (HY.out _ (fun k hk => by
          have hk1 : w16.heap.size ≤ k := hk.1
          exact ⟨fun h => by have := h.2; omega, fun h => by have := h.2; omega⟩))).below hb).base (fun _ _ _ => trivial)
    have Hpx2 : Hid _ := hpx
    have HWp : Hid (Wf (Rg mid2 w12.heap.size) 1000001 w25 (.slice av2 v2.l.length cv2)) := (Hv2f.out.below Hb17.out.2.2).since (HY.out _ (fun k hk => by
      have hk1 := hk.1
      exact ⟨fun h => by have := h.2; omega, fun h => by have := h.2; omega⟩))
    have HP3 : Hid (∀ wr : World, w25.heap.size ≤ wr.heap.size → ∀ k, Rg mid2 w12.heap.size k → k < wr.heap.size) := fun wr hs k hk => by
      have := hk.2
      have hz := (HY.out (fun _ => False) (fun k hk => hk.elim)).size
      omega
    have HwB : Hid (w.heap.size ≤ mid2) := by have := Hn.out; show _ ≤ _; omega
    have hS26 := HSm.out w25 (Since.refl _ _)
    clear hord hpx HY HS25 H922 HS19 H919 HSame Hb17 Hb16 Hb913 Hb1113 Hb911 Hbw9 H1 H2 H3 HK Hn Hpx Hox HS2 Hv2 Hv2f HSf Hvf Hst Har Hco HS15
    go_wp2_with fail
    refine hS26.mono ?_
    rintro r w26 ⟨rfl, hb26⟩
    have Hb26 : Hid (Below w25.heap.size w25 w26) := hb26
    obtain ⟨⟨j0, j1, j2, j3, j4⟩, ⟨i0, i1, i2, i3, i4⟩, hSv⟩ := Hpx2.out w26 hb26
    clear hS26 hb26
    go_wp2_with fail
    refine hSv.mono ?_
    rintro r w27 ⟨rfl, hb27⟩
    have Hb27 : Hid (Below w25.heap.size w25 w27) := Hb26.out.trans (hb27.mono Hb26.out.size)
    clear hSv hb27 j0 j1 j2 j3 j4 i0 i1 i2 i3 i4 Hb26
    obtain ⟨⟨j0, j1, j2, j3, j4⟩, -, -⟩ := Hpx2.out w27 Hb27.out
    have h28 := spoil15_any (P := Rg mid2 w12.heap.size) 1000001 _ w27 (HP3.out _ Hb27.out.size) (HWp.out.below Hb27.out)
    clear Hpx2
    go_wp2_with fail
    refine h28.mono ?_
    rintro r w28 ⟨⟨rv6, rfl⟩, hS28⟩
    have hS29 := HSm.out w28 ((Since.of_below Hb27.out).trans (hS28.since (fun k hk => hk)))
    have HB28 : Hid (Below w.heap.size w w28) := by
      have a : Below w.heap.size w w27 := HB25.out.trans (Hb27.out.mono HB25.out.size)
      exact a.trans (hS28.below a.size (fun k hk => by have := hk.1; have := HwB.out; omega))
    clear h28 hS28 HSm HWp HP3 Hb27 HB25 j0 j1 j2 j3 j4 HwB
    go_wp2_with fail
    refine hS29.mono ?_
    rintro r w29 ⟨rfl, hb29⟩
    have hfin : Below w.heap.size w w29 := HB28.out.trans (hb29.mono HB28.out.size)
    clear hS29 hb29 HB28
    go_wp2
    go_ret
    exact ⟨rfl, hfin⟩
end Go.Proofs.YtnijcolomoobnaaGreatDoor
