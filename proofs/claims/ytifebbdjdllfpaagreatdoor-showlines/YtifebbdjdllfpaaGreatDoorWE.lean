import Derived.Test.YtifebbdjdllfpaaGreatDoorWA
/- Writing an expression: a unary mark. -/
namespace Go.Proofs.YtifebbdjdllfpaaGreatDoor
open Go.RowKit
open Px (opL opX dg lv)
set_option linter.unusedSimpArgs false
set_option linter.unusedVariables false

theorem low_un13 (o n : Int) (t : List UInt8) (a : GE) (least : Nat) : gLow (least + 1) (.mk 13 o n t [a]) = decide (5 < least) := by
  simp [gLow, GE.k, GE.o]
  omega
set_option maxRecDepth 100000 in
set_option maxHeartbeats 8000000 in
/-- A unary mark. -/
theorem expr_un13 {base b : Nat} {o n : Int} {t : List UInt8} {a : GE} {least : Nat} {l : List UInt8} {tabs : Nat} {cs : List Value} {w : World} (hW : Wr base b l tabs w) (hx : IsGE (fun k => k < base) w (.mk 13 o n t [a]) cs) (hXa : ExOk base b a) (hle : least ≤ 6) :
    Calls Tryz.prog 111 #[wPtr b, .agg cs.toArray, .int .i64 least] w fun r w' => WPost base b l tabs w ((gE a).map fun x => withinS (gLow (least + 1) (.mk 13 o n t [a])) (45 :: withinS (gLow 6 a) x)) r w' := by
  rw [IsGE] at hx
  obtain ⟨x, p, y, sl, row, rfl, hr, ha⟩ := hx
  obtain ⟨ao, cap, rfl, hm⟩ := hr.slice
  obtain ⟨res, hres⟩ : ∃ res : Option (List UInt8), Aside (res = (gE a).map fun x => withinS (gLow (least + 1) (.mk 13 o n t [a])) (45 :: withinS (gLow 6 a) x)) := ⟨_, show _ = _ from rfl⟩
  rw [← hres.out]
  have hArg := fun (q : Nat) (e : GE) (w' : World) (hq : ([a] : List GE)[q]? = some e) (hF : FW base b w w') => arg_at hr ha hF hq
  clear hr ha hm
  have hE := In.boxes hW (geBox 13 o n t x y (.slice ao 1 cap) p)
  have hA := args_any 13 o n t x y ao 1 cap p
  rw [show nArgs 13 1 = 1 from rfl] at hA
  clear hW
  refine calls_of_post Tryz.func111 rfl ?_
  simp only [Tryz.ntmps111, List.size_toArray, List.length_cons, List.length_nil, Nat.reduceAdd, Nat.reduceSub, Array.replicate_succ, Array.replicate_zero, List.push_toArray, List.append_toArray, List.nil_append, List.cons_append]
  go_upto_region 1 with fail
  generalize ((w.alloc (pBox b)).alloc (xBox (geBox 13 o n t x y (.slice ao 1 cap) p))) = w2 at *
  generalize w.heap.size = g0 at *
  go_cut [] from 6 to 12 (fun wc => In base b (eks b g0 (geBox 13 o n t x y (.slice ao 1 cap) p)) l tabs w wc)
  case first =>
    have l0 : g0 < w2.heap.size := hE.lt (q := (g0, pBox b)) (by simp)
    have l1 : g0 + 1 < w2.heap.size := hE.lt (q := (g0 + 1, xBox _)) (by simp; rfl)
    obtain ⟨x0, x1, x2, x3, x4, x5, x6, x7, _⟩ := cells_of8 (hE.kept _ (List.mem_cons_self))
    go_region_with (first
      | (go_at_call 135; refine (hA _).mono ?_; rintro e w3 ⟨rfl, hb3⟩; have hE3 := hE.drew.call hb3; have l3 : g0 + 1 < w3.heap.size := hE3.lt (q := (g0 + 1, xBox _)) (by simp; rfl); obtain ⟨y0, y1, y2, y3, y4, y5, y6, y7, _⟩ := cells_of8 (hE3.kept _ (List.mem_cons_self)))
      | (go_at_call 57; refine (need_ok _).mono ?_; rintro e w4 ⟨rfl, rfl⟩))
    all_goals (go_wp2_with fail; go_meet; exact hE3)
  case rest =>
    clear hE hA
    have hE := hcut
    have l0 : g0 < wc.heap.size := hE.lt (q := (g0, pBox b)) (by simp)
    have l1 : g0 + 1 < wc.heap.size := hE.lt (q := (g0 + 1, xBox _)) (by simp; rfl)
    have c0 := cell_of_one (hE.kept (g0, pBox b) (by simp))
    obtain ⟨x0, x1, x2, x3, x4, x5, x6, x7, _⟩ := cells_of8 (hE.kept _ (List.mem_cons_self))
    have hL := level_no 13 o n (by decide) t x y ao 1 cap p wc
    rw [if_pos (by decide)] at hL
    go_wp2_with fail
    refine hL.mono ?_
    rintro e w4 ⟨rfl, hb4⟩
    have hE4 := hE.call hb4
    clear l0 l1 c0 x0 x1 x2 x3 x4 x5 x6 x7 hL hE hcut hb4
    have l0 : g0 < w4.heap.size := hE4.lt (q := (g0, pBox b)) (by simp)
    have l1 : g0 + 1 < w4.heap.size := hE4.lt (q := (g0 + 1, xBox _)) (by simp; rfl)
    have c0 := cell_of_one (hE4.kept (g0, pBox b) (by simp))
    obtain ⟨x0, x1, x2, x3, x4, x5, x6, x7, _⟩ := cells_of8 (hE4.kept _ (List.mem_cons_self))
    have hlow0 := low_un13 o n t a least
    by_cases h5 : 5 < least
    · have hltI : (5 : Int) < (least : Int) := by omega
      have hlow : gLow (least + 1) (.mk 13 o n t [a]) = true := by rw [hlow0]; simpa using h5
      clear hlow0 h5
      go_wp2_with fail
      refine (put_l hE4.wr [40] (by simp)).mono ?_
      rintro e w5 ⟨rfl, l5, hw5, h5, hf5⟩
      have hE5 := hE4.step h5 hf5
      clear l0 l1 c0 x0 x1 x2 x3 x4 x5 x6 x7
      have l0 : g0 < w5.heap.size := hE5.lt (q := (g0, pBox b)) (by simp)
      have l1 : g0 + 1 < w5.heap.size := hE5.lt (q := (g0 + 1, xBox _)) (by simp; rfl)
      have c0 := cell_of_one (hE5.kept (g0, pBox b) (by simp))
      obtain ⟨x0, x1, x2, x3, x4, x5, x6, x7, _⟩ := cells_of8 (hE5.kept _ (List.mem_cons_self))
      go_wp2_with fail
      refine (put_l hE5.wr [45] (by simp)).mono ?_
      rintro e w6 ⟨rfl, l6, hw6, h6, hf6⟩
      have hE6 := hE5.step h6 hf6
      clear l0 l1 c0 x0 x1 x2 x3 x4 x5 x6 x7
      have l0 : g0 < w6.heap.size := hE6.lt (q := (g0, pBox b)) (by simp)
      have l1 : g0 + 1 < w6.heap.size := hE6.lt (q := (g0 + 1, xBox _)) (by simp; rfl)
      have c0 := cell_of_one (hE6.kept (g0, pBox b) (by simp))
      obtain ⟨x0, x1, x2, x3, x4, x5, x6, x7, _⟩ := cells_of8 (hE6.kept _ (List.mem_cons_self))
      obtain ⟨g, o', u0, u1, u2, u3, u4, u5, u6, u7, rfl, hg, ⟨e0, e1, e2, e3, e4, e5, e6, e7⟩, hgs⟩ := hArg 0 a w6 rfl hE6.fw
      simp only [Nat.zero_mul, Nat.add_zero] at e0 e1 e2 e3 e4 e5 e6 e7
      have hC := hXa 5 l6 tabs _ w6.drew (by omega) h6.drew (hgs.since (Since.drewN _ w6 1))
      clear hgs
      rcases hqa : gE a with _ | za
      · rw [hqa] at hC
        go_upto_region 23 with fail
        go_region_with (go_at_call 111; refine hC.mono ?_; rintro e w7 ⟨rfl, l7, tabs7, h7, hf7⟩; refine skip_way w7 (fun _ => leave1P h7 (by simp) (fun l8 w8 h8 hf8 => show WPost base b l tabs w res _ _ by rw [hres.out, hqa]; exact ⟨rfl, l8, tabs7, h8, (hE6.fw.trans (FW.from_drewN 1 hf7)).trans hf8⟩)) ?_)
        all_goals trivial
      · rw [hqa] at hC
        go_upto_region 23 with fail
        go_region_with (go_at_call 111; refine hC.mono ?_; rintro e w7 ⟨rfl, l7, hw7, h7, hf7⟩)
        all_goals
          go_wp2
          exact leave1 rfl h7 (by simp) (fun l8 w8 hw8 h8 hf8 => show WPost base b l tabs w res _ _ by rw [hres.out, hqa, Option.map_some, hlow]; exact ⟨rfl, l8, by simpa [withinS] using ((hw5.trans hw6).trans hw7).trans hw8, h8, (hE6.fw.trans (FW.from_drewN 1 hf7)).trans hf8⟩)
    · have hltI : ¬ (5 : Int) < (least : Int) := by omega
      have hlow : gLow (least + 1) (.mk 13 o n t [a]) = false := by rw [hlow0]; simpa using h5
      clear hlow0 h5
      go_wp2_with fail
      refine (put_l hE4.wr [45] (by simp)).mono ?_
      rintro e w6 ⟨rfl, l6, hw6, h6, hf6⟩
      have hE6 := hE4.step h6 hf6
      clear l0 l1 c0 x0 x1 x2 x3 x4 x5 x6 x7
      have l0 : g0 < w6.heap.size := hE6.lt (q := (g0, pBox b)) (by simp)
      have l1 : g0 + 1 < w6.heap.size := hE6.lt (q := (g0 + 1, xBox _)) (by simp; rfl)
      have c0 := cell_of_one (hE6.kept (g0, pBox b) (by simp))
      obtain ⟨x0, x1, x2, x3, x4, x5, x6, x7, _⟩ := cells_of8 (hE6.kept _ (List.mem_cons_self))
      obtain ⟨g, o', u0, u1, u2, u3, u4, u5, u6, u7, rfl, hg, ⟨e0, e1, e2, e3, e4, e5, e6, e7⟩, hgs⟩ := hArg 0 a w6 rfl hE6.fw
      simp only [Nat.zero_mul, Nat.add_zero] at e0 e1 e2 e3 e4 e5 e6 e7
      have hC := hXa 5 l6 tabs _ w6.drew (by omega) h6.drew (hgs.since (Since.drewN _ w6 1))
      clear hgs
      rcases hqa : gE a with _ | za
      · rw [hqa] at hC
        go_upto_region 23 with fail
        go_region_with (go_at_call 111; refine hC.mono ?_; rintro e w7 ⟨rfl, l7, tabs7, h7, hf7⟩; refine skip_way w7 (fun _ => leaveP (show WPost base b l tabs w res _ _ by rw [hres.out, hqa]; exact ⟨rfl, l7, tabs7, h7, hE6.fw.trans (FW.from_drewN 1 hf7)⟩)) ?_)
        all_goals trivial
      · rw [hqa] at hC
        go_upto_region 23 with fail
        go_region_with (go_at_call 111; refine hC.mono ?_; rintro e w7 ⟨rfl, l7, hw7, h7, hf7⟩)
        all_goals
          go_wp2
          exact leave0 rfl (show WPost base b l tabs w res _ _ by rw [hres.out, hqa, Option.map_some, hlow]; exact ⟨rfl, l7, by simpa [withinS] using hw6.trans hw7, h7, hE6.fw.trans (FW.from_drewN 1 hf7)⟩)
end Go.Proofs.YtifebbdjdllfpaaGreatDoor
/- Writing an expression: a unary mark. -/
namespace Go.Proofs.YtifebbdjdllfpaaGreatDoor
open Go.RowKit
open Px (opL opX dg lv)
set_option linter.unusedSimpArgs false
set_option linter.unusedVariables false

theorem low_un14 (o n : Int) (t : List UInt8) (a : GE) (least : Nat) : gLow (least + 1) (.mk 14 o n t [a]) = decide (5 < least) := by
  simp [gLow, GE.k, GE.o]
  omega
set_option maxRecDepth 100000 in
set_option maxHeartbeats 8000000 in
/-- A unary mark. -/
theorem expr_un14 {base b : Nat} {o n : Int} {t : List UInt8} {a : GE} {least : Nat} {l : List UInt8} {tabs : Nat} {cs : List Value} {w : World} (hW : Wr base b l tabs w) (hx : IsGE (fun k => k < base) w (.mk 14 o n t [a]) cs) (hXa : ExOk base b a) (hle : least ≤ 6) :
    Calls Tryz.prog 111 #[wPtr b, .agg cs.toArray, .int .i64 least] w fun r w' => WPost base b l tabs w ((gE a).map fun x => withinS (gLow (least + 1) (.mk 14 o n t [a])) (33 :: withinS (gLow 6 a) x)) r w' := by
  rw [IsGE] at hx
  obtain ⟨x, p, y, sl, row, rfl, hr, ha⟩ := hx
  obtain ⟨ao, cap, rfl, hm⟩ := hr.slice
  obtain ⟨res, hres⟩ : ∃ res : Option (List UInt8), Aside (res = (gE a).map fun x => withinS (gLow (least + 1) (.mk 14 o n t [a])) (33 :: withinS (gLow 6 a) x)) := ⟨_, show _ = _ from rfl⟩
  rw [← hres.out]
  have hArg := fun (q : Nat) (e : GE) (w' : World) (hq : ([a] : List GE)[q]? = some e) (hF : FW base b w w') => arg_at hr ha hF hq
  clear hr ha hm
  have hE := In.boxes hW (geBox 14 o n t x y (.slice ao 1 cap) p)
  have hA := args_any 14 o n t x y ao 1 cap p
  rw [show nArgs 14 1 = 1 from rfl] at hA
  clear hW
  refine calls_of_post Tryz.func111 rfl ?_
  simp only [Tryz.ntmps111, List.size_toArray, List.length_cons, List.length_nil, Nat.reduceAdd, Nat.reduceSub, Array.replicate_succ, Array.replicate_zero, List.push_toArray, List.append_toArray, List.nil_append, List.cons_append]
  go_upto_region 1 with fail
  generalize ((w.alloc (pBox b)).alloc (xBox (geBox 14 o n t x y (.slice ao 1 cap) p))) = w2 at *
  generalize w.heap.size = g0 at *
  go_cut [] from 6 to 12 (fun wc => In base b (eks b g0 (geBox 14 o n t x y (.slice ao 1 cap) p)) l tabs w wc)
  case first =>
    have l0 : g0 < w2.heap.size := hE.lt (q := (g0, pBox b)) (by simp)
    have l1 : g0 + 1 < w2.heap.size := hE.lt (q := (g0 + 1, xBox _)) (by simp; rfl)
    obtain ⟨x0, x1, x2, x3, x4, x5, x6, x7, _⟩ := cells_of8 (hE.kept _ (List.mem_cons_self))
    go_region_with (first
      | (go_at_call 135; refine (hA _).mono ?_; rintro e w3 ⟨rfl, hb3⟩; have hE3 := hE.drew.call hb3; have l3 : g0 + 1 < w3.heap.size := hE3.lt (q := (g0 + 1, xBox _)) (by simp; rfl); obtain ⟨y0, y1, y2, y3, y4, y5, y6, y7, _⟩ := cells_of8 (hE3.kept _ (List.mem_cons_self)))
      | (go_at_call 57; refine (need_ok _).mono ?_; rintro e w4 ⟨rfl, rfl⟩))
    all_goals (go_wp2_with fail; go_meet; exact hE3)
  case rest =>
    clear hE hA
    have hE := hcut
    have l0 : g0 < wc.heap.size := hE.lt (q := (g0, pBox b)) (by simp)
    have l1 : g0 + 1 < wc.heap.size := hE.lt (q := (g0 + 1, xBox _)) (by simp; rfl)
    have c0 := cell_of_one (hE.kept (g0, pBox b) (by simp))
    obtain ⟨x0, x1, x2, x3, x4, x5, x6, x7, _⟩ := cells_of8 (hE.kept _ (List.mem_cons_self))
    have hL := level_no 14 o n (by decide) t x y ao 1 cap p wc
    rw [if_pos (by decide)] at hL
    go_wp2_with fail
    refine hL.mono ?_
    rintro e w4 ⟨rfl, hb4⟩
    have hE4 := hE.call hb4
    clear l0 l1 c0 x0 x1 x2 x3 x4 x5 x6 x7 hL hE hcut hb4
    have l0 : g0 < w4.heap.size := hE4.lt (q := (g0, pBox b)) (by simp)
    have l1 : g0 + 1 < w4.heap.size := hE4.lt (q := (g0 + 1, xBox _)) (by simp; rfl)
    have c0 := cell_of_one (hE4.kept (g0, pBox b) (by simp))
    obtain ⟨x0, x1, x2, x3, x4, x5, x6, x7, _⟩ := cells_of8 (hE4.kept _ (List.mem_cons_self))
    have hlow0 := low_un14 o n t a least
    by_cases h5 : 5 < least
    · have hltI : (5 : Int) < (least : Int) := by omega
      have hlow : gLow (least + 1) (.mk 14 o n t [a]) = true := by rw [hlow0]; simpa using h5
      clear hlow0 h5
      go_wp2_with fail
      refine (put_l hE4.wr [40] (by simp)).mono ?_
      rintro e w5 ⟨rfl, l5, hw5, h5, hf5⟩
      have hE5 := hE4.step h5 hf5
      clear l0 l1 c0 x0 x1 x2 x3 x4 x5 x6 x7
      have l0 : g0 < w5.heap.size := hE5.lt (q := (g0, pBox b)) (by simp)
      have l1 : g0 + 1 < w5.heap.size := hE5.lt (q := (g0 + 1, xBox _)) (by simp; rfl)
      have c0 := cell_of_one (hE5.kept (g0, pBox b) (by simp))
      obtain ⟨x0, x1, x2, x3, x4, x5, x6, x7, _⟩ := cells_of8 (hE5.kept _ (List.mem_cons_self))
      go_wp2_with fail
      refine (put_l hE5.wr [33] (by simp)).mono ?_
      rintro e w6 ⟨rfl, l6, hw6, h6, hf6⟩
      have hE6 := hE5.step h6 hf6
      clear l0 l1 c0 x0 x1 x2 x3 x4 x5 x6 x7
      have l0 : g0 < w6.heap.size := hE6.lt (q := (g0, pBox b)) (by simp)
      have l1 : g0 + 1 < w6.heap.size := hE6.lt (q := (g0 + 1, xBox _)) (by simp; rfl)
      have c0 := cell_of_one (hE6.kept (g0, pBox b) (by simp))
      obtain ⟨x0, x1, x2, x3, x4, x5, x6, x7, _⟩ := cells_of8 (hE6.kept _ (List.mem_cons_self))
      obtain ⟨g, o', u0, u1, u2, u3, u4, u5, u6, u7, rfl, hg, ⟨e0, e1, e2, e3, e4, e5, e6, e7⟩, hgs⟩ := hArg 0 a w6 rfl hE6.fw
      simp only [Nat.zero_mul, Nat.add_zero] at e0 e1 e2 e3 e4 e5 e6 e7
      have hC := hXa 5 l6 tabs _ w6.drew (by omega) h6.drew (hgs.since (Since.drewN _ w6 1))
      clear hgs
      rcases hqa : gE a with _ | za
      · rw [hqa] at hC
        go_upto_region 26 with fail
        go_region_with (go_at_call 111; refine hC.mono ?_; rintro e w7 ⟨rfl, l7, tabs7, h7, hf7⟩; refine skip_way w7 (fun _ => leave1P h7 (by simp) (fun l8 w8 h8 hf8 => show WPost base b l tabs w res _ _ by rw [hres.out, hqa]; exact ⟨rfl, l8, tabs7, h8, (hE6.fw.trans (FW.from_drewN 1 hf7)).trans hf8⟩)) ?_)
        all_goals trivial
      · rw [hqa] at hC
        go_upto_region 26 with fail
        go_region_with (go_at_call 111; refine hC.mono ?_; rintro e w7 ⟨rfl, l7, hw7, h7, hf7⟩)
        all_goals
          go_wp2
          exact leave1 rfl h7 (by simp) (fun l8 w8 hw8 h8 hf8 => show WPost base b l tabs w res _ _ by rw [hres.out, hqa, Option.map_some, hlow]; exact ⟨rfl, l8, by simpa [withinS] using ((hw5.trans hw6).trans hw7).trans hw8, h8, (hE6.fw.trans (FW.from_drewN 1 hf7)).trans hf8⟩)
    · have hltI : ¬ (5 : Int) < (least : Int) := by omega
      have hlow : gLow (least + 1) (.mk 14 o n t [a]) = false := by rw [hlow0]; simpa using h5
      clear hlow0 h5
      go_wp2_with fail
      refine (put_l hE4.wr [33] (by simp)).mono ?_
      rintro e w6 ⟨rfl, l6, hw6, h6, hf6⟩
      have hE6 := hE4.step h6 hf6
      clear l0 l1 c0 x0 x1 x2 x3 x4 x5 x6 x7
      have l0 : g0 < w6.heap.size := hE6.lt (q := (g0, pBox b)) (by simp)
      have l1 : g0 + 1 < w6.heap.size := hE6.lt (q := (g0 + 1, xBox _)) (by simp; rfl)
      have c0 := cell_of_one (hE6.kept (g0, pBox b) (by simp))
      obtain ⟨x0, x1, x2, x3, x4, x5, x6, x7, _⟩ := cells_of8 (hE6.kept _ (List.mem_cons_self))
      obtain ⟨g, o', u0, u1, u2, u3, u4, u5, u6, u7, rfl, hg, ⟨e0, e1, e2, e3, e4, e5, e6, e7⟩, hgs⟩ := hArg 0 a w6 rfl hE6.fw
      simp only [Nat.zero_mul, Nat.add_zero] at e0 e1 e2 e3 e4 e5 e6 e7
      have hC := hXa 5 l6 tabs _ w6.drew (by omega) h6.drew (hgs.since (Since.drewN _ w6 1))
      clear hgs
      rcases hqa : gE a with _ | za
      · rw [hqa] at hC
        go_upto_region 26 with fail
        go_region_with (go_at_call 111; refine hC.mono ?_; rintro e w7 ⟨rfl, l7, tabs7, h7, hf7⟩; refine skip_way w7 (fun _ => leaveP (show WPost base b l tabs w res _ _ by rw [hres.out, hqa]; exact ⟨rfl, l7, tabs7, h7, hE6.fw.trans (FW.from_drewN 1 hf7)⟩)) ?_)
        all_goals trivial
      · rw [hqa] at hC
        go_upto_region 26 with fail
        go_region_with (go_at_call 111; refine hC.mono ?_; rintro e w7 ⟨rfl, l7, hw7, h7, hf7⟩)
        all_goals
          go_wp2
          exact leave0 rfl (show WPost base b l tabs w res _ _ by rw [hres.out, hqa, Option.map_some, hlow]; exact ⟨rfl, l7, by simpa [withinS] using hw6.trans hw7, h7, hE6.fw.trans (FW.from_drewN 1 hf7)⟩)
end Go.Proofs.YtifebbdjdllfpaaGreatDoor
