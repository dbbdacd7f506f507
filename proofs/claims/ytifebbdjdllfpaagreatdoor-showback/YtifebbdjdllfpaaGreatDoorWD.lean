import Derived.Test.YtifebbdjdllfpaaGreatDoorWA
/- Writing an expression: an element. -/
namespace Go.Proofs.YtifebbdjdllfpaaGreatDoor
open Go.RowKit
open Px (opL opX dg lv)
set_option linter.unusedSimpArgs false
set_option linter.unusedVariables false

set_option maxRecDepth 100000 in
set_option maxHeartbeats 8000000 in
/-- An element. -/
theorem expr_at {base b : Nat} {o n : Int} {t : List UInt8} {a c : GE} {least : Nat} {l : List UInt8} {tabs : Nat} {cs : List Value} {w : World} (hW : Wr base b l tabs w) (hx : IsGE (fun k => k < base) w (.mk 12 o n t [a, c]) cs) (hXa : ExOk base b a) (hXc : ExOk base b c) (hle : least ≤ 6) :
    Calls Tryz.prog 111 #[wPtr b, .agg cs.toArray, .int .i64 least] w fun r w' => WPost base b l tabs w ((gE a).bind fun x => (gE c).map fun y => withinS (gLow 7 a) x ++ 91 :: (y ++ [93])) r w' := by
  rw [IsGE] at hx
  obtain ⟨x, p, y, sl, row, rfl, hr, ha⟩ := hx
  obtain ⟨ao, cap, rfl, hm⟩ := hr.slice
  obtain ⟨res, hres⟩ : ∃ res : Option (List UInt8), Aside (res = (gE a).bind fun x => (gE c).map fun y => withinS (gLow 7 a) x ++ 91 :: (y ++ [93])) := ⟨_, show _ = _ from rfl⟩
  rw [← hres.out]
  have hArg := fun (q : Nat) (e : GE) (w' : World) (hq : ([a, c] : List GE)[q]? = some e) (hF : FW base b w w') => arg_at hr ha hF hq
  clear hr ha hm
  have hE := In.boxes hW (geBox 12 o n t x y (.slice ao 2 cap) p)
  have hA := args_any 12 o n t x y ao 2 cap p
  rw [show nArgs 12 2 = 2 from rfl] at hA
  clear hW
  refine calls_of_post Tryz.func111 rfl ?_
  simp only [Tryz.ntmps111, List.size_toArray, List.length_cons, List.length_nil, Nat.reduceAdd, Nat.reduceSub, Array.replicate_succ, Array.replicate_zero, List.push_toArray, List.append_toArray, List.nil_append, List.cons_append]
  go_upto_region 1 with fail
  generalize ((w.alloc (pBox b)).alloc (xBox (geBox 12 o n t x y (.slice ao 2 cap) p))) = w2 at *
  generalize w.heap.size = g0 at *
  go_cut [] from 6 to 12 (fun wc => In base b (eks b g0 (geBox 12 o n t x y (.slice ao 2 cap) p)) l tabs w wc)
  case first =>
    have l0 : g0 < w2.heap.size := hE.lt (q := (g0, pBox b)) (by simp)
    have l1 : g0 + 1 < w2.heap.size := hE.lt (q := (g0 + 1, xBox _)) (by simp; rfl)
    obtain ⟨x0, x1, x2, x3, x4, x5, x6, x7, _⟩ := cells_of8 (hE.kept _ (List.mem_cons_self))
    go_region_with (first
      | (go_at_call 135; refine (hA _).mono ?_; rintro e w3 ⟨rfl, hb3⟩; have hE3 := hE.drew.call hb3; have l3 : g0 + 1 < w3.heap.size := hE3.lt (q := (g0 + 1, xBox _)) (by simp; rfl); obtain ⟨y0, y1, y2, y3, y4, y5, y6, y7, _⟩ := cells_of8 (hE3.kept _ (List.mem_cons_self)))
      | (go_at_call 57; refine (need_ok _).mono ?_; rintro e w4 ⟨rfl, rfl⟩))
    all_goals (go_wp2_with fail; go_meet; exact hE3)
  case rest =>
    clear hE hA
    have hE := hcut
    have l0 : g0 < wc.heap.size := hE.lt (q := (g0, pBox b)) (by simp)
    have l1 : g0 + 1 < wc.heap.size := hE.lt (q := (g0 + 1, xBox _)) (by simp; rfl)
    have c0 := cell_of_one (hE.kept (g0, pBox b) (by simp))
    obtain ⟨x0, x1, x2, x3, x4, x5, x6, x7, _⟩ := cells_of8 (hE.kept _ (List.mem_cons_self))
    have hL := level_no 12 o n (by decide) t x y ao 2 cap p wc
    rw [if_neg (by decide)] at hL
    have hltI : ¬ (6 : Int) < (least : Int) := by omega
    go_wp2_with fail
    refine hL.mono ?_
    rintro e w4 ⟨rfl, hb4⟩
    have hE4 := hE.call hb4
    clear l0 l1 c0 x0 x1 x2 x3 x4 x5 x6 x7 hL hE hcut hb4
    have l0 : g0 < w4.heap.size := hE4.lt (q := (g0, pBox b)) (by simp)
    have l1 : g0 + 1 < w4.heap.size := hE4.lt (q := (g0 + 1, xBox _)) (by simp; rfl)
    have c0 := cell_of_one (hE4.kept (g0, pBox b) (by simp))
    obtain ⟨x0, x1, x2, x3, x4, x5, x6, x7, _⟩ := cells_of8 (hE4.kept _ (List.mem_cons_self))
    obtain ⟨g, o', u0, u1, u2, u3, u4, u5, u6, u7, rfl, hg, ⟨e0, e1, e2, e3, e4, e5, e6, e7⟩, hgs⟩ := hArg 0 a w4 rfl hE4.fw
    simp only [Nat.zero_mul, Nat.add_zero] at e0 e1 e2 e3 e4 e5 e6 e7
    have hC := hXa 6 l tabs _ w4.drew (by omega) hE4.wr.drew (hgs.since (Since.drewN _ w4 1))
    clear hgs
    rcases hqa : gE a with _ | za
    · rw [hqa] at hC
      go_upto_region 19 with fail
      go_region_with (go_at_call 111; refine hC.mono ?_; rintro e w5 ⟨rfl, l5, tabs5, h5, hf5⟩; refine skip_way w5 (fun _ => leaveP (show WPost base b l tabs w res _ _ by rw [hres.out, hqa]; exact ⟨rfl, l5, tabs5, h5, hE4.fw.trans (FW.from_drewN 1 hf5)⟩)) ?_)
      all_goals trivial
    · rw [hqa] at hC
      go_upto_region 19 with fail
      go_cut [] from 66 to 71 (fun wc => ∃ l5, wrote l (withinS (gLow 7 a) za) l5 ∧ In base b (eks b g0 (geBox 12 o n t x y (.slice (some ⟨g, o', none⟩) 2 cap) p)) l5 tabs w wc)
      case first =>
        go_region_with (go_at_call 111; refine hC.mono ?_; rintro e w5 ⟨rfl, l5, hw5, h5, hf5⟩)
        all_goals (go_wp2_with fail; go_meet; exact ⟨l5, hw5, hE4.step h5 (FW.from_drewN 1 hf5)⟩)
      case rest =>
        clear l0 l1 c0 x0 x1 x2 x3 x4 x5 x6 x7 e0 e1 e2 e3 e4 e5 e6 e7 hC hE4 hg
        obtain ⟨l5, hw5, hE5⟩ := hcut
        have l0 : g0 < wc.heap.size := hE5.lt (q := (g0, pBox b)) (by simp)
        have l1 : g0 + 1 < wc.heap.size := hE5.lt (q := (g0 + 1, xBox _)) (by simp; rfl)
        have c0 := cell_of_one (hE5.kept (g0, pBox b) (by simp))
        obtain ⟨x0, x1, x2, x3, x4, x5, x6, x7, _⟩ := cells_of8 (hE5.kept _ (List.mem_cons_self))
        obtain ⟨g, o', u0, u1, u2, u3, u4, u5, u6, u7, hao, hg, ⟨e0, e1, e2, e3, e4, e5, e6, e7⟩, hgs⟩ := hArg 1 c wc rfl hE5.fw
        simp only [Option.some.injEq, Addr.mk.injEq, and_true] at hao
        obtain ⟨rfl, rfl⟩ := hao
        simp only [Nat.one_mul, Nat.add_assoc, Nat.reduceAdd] at e0 e1 e2 e3 e4 e5 e6 e7
        have hC := place_any hXc hE5.wr.drew (hgs.since (Since.drewN _ wc 1))
        clear hgs
        rcases hqc : gE c with _ | zc
        · rw [hqc] at hC
          go_upto_region 20 with fail
          go_region_with (go_at_call 109; refine hC.mono ?_; rintro e w6 ⟨rfl, l6, tabs6, h6, hf6⟩; refine skip_way w6 (fun _ => leaveP (show WPost base b l tabs w res _ _ by rw [hres.out, hqa, hqc]; exact ⟨rfl, l6, tabs6, h6, hE5.fw.trans (FW.from_drewN 1 hf6)⟩)) ?_)
          all_goals trivial
        · rw [hqc] at hC
          go_upto_region 20 with fail
          go_region_with (go_at_call 109; refine hC.mono ?_; rintro e w6 ⟨rfl, l6, hw6, h6, hf6⟩)
          all_goals
            go_wp2
            exact leave0 rfl (show WPost base b l tabs w res _ _ by rw [hres.out, hqa, hqc]; exact ⟨rfl, l6, hw5.trans hw6, h6, hE5.fw.trans (FW.from_drewN 1 hf6)⟩)
end Go.Proofs.YtifebbdjdllfpaaGreatDoor
/- Writing an expression: an operator. -/
namespace Go.Proofs.YtifebbdjdllfpaaGreatDoor
open Go.RowKit
open Px (opL opX dg lv)
set_option linter.unusedSimpArgs false
set_option linter.unusedVariables false

/-- An operator with its sides. -/
def bnT (m : Nat) (a c : GE) : Option (List UInt8) := (gE a).bind fun x => (gE c).map fun y => withinS (gLow (lv m) a) x ++ 32 :: (opX m ++ 32 :: withinS (gLow (opL m + 1) c) y)
theorem low_bin (m n : Int) (t : List UInt8) (a c : GE) (least : Nat) : gLow (least + 1) (.mk 15 m n t [a, c]) = decide (gL m < least + 1) := by
  simp [gLow, GE.k, GE.o]
  rfl
set_option maxRecDepth 100000 in
set_option maxHeartbeats 8000000 in
/-- An operator. -/
theorem expr_bin {base b : Nat} {n : Int} {t : List UInt8} {m : Nat} {a c : GE} {least : Nat} {l : List UInt8} {tabs : Nat} {cs : List Value} {w : World} (hW : Wr base b l tabs w) (hx : IsGE (fun k => k < base) w (.mk 15 m n t [a, c]) cs) (h1 : 1 ≤ m) (h2 : m ≤ 13) (hXa : ExOk base b a) (hXc : ExOk base b c) (hle : least ≤ 6) :
    Calls Tryz.prog 111 #[wPtr b, .agg cs.toArray, .int .i64 least] w fun r w' => WPost base b l tabs w ((bnT m a c).map fun x => withinS (gLow (least + 1) (.mk 15 m n t [a, c])) x) r w' := by
  rw [IsGE] at hx
  obtain ⟨x, p, y, sl, row, rfl, hr, ha⟩ := hx
  obtain ⟨ao, cap, rfl, hm⟩ := hr.slice
  obtain ⟨res, hres⟩ : ∃ res : Option (List UInt8), Aside (res = (bnT m a c).map fun x => withinS (gLow (least + 1) (.mk 15 m n t [a, c])) x) := ⟨_, show _ = _ from rfl⟩
  rw [← hres.out]
  have hop : gL (m : Int) ≠ 0 := by rw [gL_nat]; have := (opL_le m h1 h2).1; omega
  have hBx : ∀ (w' : World), FW base b w w' → IsGE (fun k => k < base) w' (.mk 15 m n t [a, c]) (geBox 15 m n t x y (.slice ao 2 cap) p).toList := by
    intro w' hF
    rw [IsGE]
    exact ⟨x, p, y, _, row, rfl, hr.since hF.since, ha.since hF.since⟩
  clear hr ha hm
  have hE := In.boxes hW (geBox 15 m n t x y (.slice ao 2 cap) p)
  have hA := args_any 15 m n t x y ao 2 cap p
  rw [show nArgs 15 2 = 2 from rfl] at hA
  clear hW
  refine calls_of_post Tryz.func111 rfl ?_
  simp only [Tryz.ntmps111, List.size_toArray, List.length_cons, List.length_nil, Nat.reduceAdd, Nat.reduceSub, Array.replicate_succ, Array.replicate_zero, List.push_toArray, List.append_toArray, List.nil_append, List.cons_append]
  go_upto_region 1 with fail
  generalize ((w.alloc (pBox b)).alloc (xBox (geBox 15 m n t x y (.slice ao 2 cap) p))) = w2 at *
  generalize w.heap.size = g0 at *
  go_cut [] from 6 to 12 (fun wc => In base b (eks b g0 (geBox 15 m n t x y (.slice ao 2 cap) p)) l tabs w wc)
  case first =>
    have l0 : g0 < w2.heap.size := hE.lt (q := (g0, pBox b)) (by simp)
    have l1 : g0 + 1 < w2.heap.size := hE.lt (q := (g0 + 1, xBox _)) (by simp; rfl)
    obtain ⟨x0, x1, x2, x3, x4, x5, x6, x7, _⟩ := cells_of8 (hE.kept _ (List.mem_cons_self))
    go_region_with (first
      | (go_at_call 135; refine (hA _).mono ?_; rintro e w3 ⟨rfl, hb3⟩; have hE3 := hE.drew.call hb3; have l3 : g0 + 1 < w3.heap.size := hE3.lt (q := (g0 + 1, xBox _)) (by simp; rfl); obtain ⟨y0, y1, y2, y3, y4, y5, y6, y7, _⟩ := cells_of8 (hE3.kept _ (List.mem_cons_self)))
      | (go_at_call 57; refine (need_ok _).mono ?_; rintro e w4 ⟨rfl, rfl⟩))
    all_goals (go_wp2_with fail; go_meet; exact hE3)
  case rest =>
    clear hE hA
    have hE := hcut
    have l0 : g0 < wc.heap.size := hE.lt (q := (g0, pBox b)) (by simp)
    have l1 : g0 + 1 < wc.heap.size := hE.lt (q := (g0 + 1, xBox _)) (by simp; rfl)
    have c0 := cell_of_one (hE.kept (g0, pBox b) (by simp))
    obtain ⟨x0, x1, x2, x3, x4, x5, x6, x7, _⟩ := cells_of8 (hE.kept _ (List.mem_cons_self))
    have hL := level_bin m n t x y ao 2 cap p wc
    rw [if_neg hop] at hL
    go_wp2_with fail
    refine hL.mono ?_
    rintro e w4 ⟨rfl, hb4⟩
    have hE4 := hE.call hb4
    clear l0 l1 c0 x0 x1 x2 x3 x4 x5 x6 x7 hL hE hcut hb4
    have l0 : g0 < w4.heap.size := hE4.lt (q := (g0, pBox b)) (by simp)
    have l1 : g0 + 1 < w4.heap.size := hE4.lt (q := (g0 + 1, xBox _)) (by simp; rfl)
    have c0 := cell_of_one (hE4.kept (g0, pBox b) (by simp))
    obtain ⟨x0, x1, x2, x3, x4, x5, x6, x7, _⟩ := cells_of8 (hE4.kept _ (List.mem_cons_self))
    have hlow0 := low_bin m n t a c least
    have hgm : gL (m : Int) = opL m := gL_nat m
    obtain ⟨hl1, hl5⟩ := opL_le m h1 h2
    generalize hgq : gL (m : Int) = q at *
    by_cases h5 : q < least + 1
    · have hltI : (((q - 1 : Nat)) : Int) < (least : Int) := by omega
      have hlow : gLow (least + 1) (.mk 15 m n t [a, c]) = true := by rw [hlow0]; simpa using h5
      clear hlow0 h5
      go_wp2_with fail
      refine (put_l hE4.wr [40] (by simp)).mono ?_
      rintro e w5 ⟨rfl, l5, hw5, h5, hf5⟩
      have hE5 := hE4.step h5 hf5
      clear l0 l1 c0 x0 x1 x2 x3 x4 x5 x6 x7
      have l0 : g0 < w5.heap.size := hE5.lt (q := (g0, pBox b)) (by simp)
      have l1 : g0 + 1 < w5.heap.size := hE5.lt (q := (g0 + 1, xBox _)) (by simp; rfl)
      have c0 := cell_of_one (hE5.kept (g0, pBox b) (by simp))
      obtain ⟨x0, x1, x2, x3, x4, x5, x6, x7, _⟩ := cells_of8 (hE5.kept _ (List.mem_cons_self))
      have hC := binary_any h1 h2 hXa hXc hE5.wr (hBx w5 hE5.fw)
      change Calls _ _ _ _ (fun r w' => WPost base b l5 tabs w5 (bnT m a c) r w') at hC
      clear hBx
      rcases hqa : bnT m a c with _ | z
      · rw [hqa] at hC
        go_wp2_with fail
        refine hC.mono ?_
        rintro e w6 ⟨rfl, l6, tabs6, h6, hf6⟩
        exact fun _ => leave1P h6 (by simp) (fun l8 w8 h8 hf8 => show WPost base b l tabs w res _ _ by rw [hres.out, hqa]; exact ⟨rfl, l8, tabs6, h8, (hE5.fw.trans hf6).trans hf8⟩)
      · rw [hqa] at hC
        go_wp2_with fail
        refine hC.mono ?_
        rintro e w6 ⟨rfl, l6, hw6, h6, hf6⟩
        go_wp2
        exact leave1 rfl h6 (by simp) (fun l8 w8 hw8 h8 hf8 => show WPost base b l tabs w res _ _ by rw [hres.out, hqa, Option.map_some, hlow]; exact ⟨rfl, l8, by simpa [withinS] using (hw5.trans hw6).trans hw8, h8, (hE5.fw.trans hf6).trans hf8⟩)
    · have hltI : ¬ (((q - 1 : Nat)) : Int) < (least : Int) := by omega
      have hlow : gLow (least + 1) (.mk 15 m n t [a, c]) = false := by rw [hlow0]; simpa using h5
      clear hlow0 h5
      have hC := binary_any h1 h2 hXa hXc hE4.wr (hBx w4 hE4.fw)
      change Calls _ _ _ _ (fun r w' => WPost base b l tabs w4 (bnT m a c) r w') at hC
      clear hBx
      rcases hqa : bnT m a c with _ | z
      · rw [hqa] at hC
        go_wp2_with fail
        refine hC.mono ?_
        rintro e w6 ⟨rfl, l6, tabs6, h6, hf6⟩
        exact fun _ => leaveP (show WPost base b l tabs w res _ _ by rw [hres.out, hqa]; exact ⟨rfl, l6, tabs6, h6, hE4.fw.trans hf6⟩)
      · rw [hqa] at hC
        go_wp2_with fail
        refine hC.mono ?_
        rintro e w6 ⟨rfl, l6, hw6, h6, hf6⟩
        go_wp2
        exact leave0 rfl (show WPost base b l tabs w res _ _ by rw [hres.out, hqa, Option.map_some, hlow]; exact ⟨rfl, l6, by simpa [withinS] using hw6, h6, hE4.fw.trans hf6⟩)
end Go.Proofs.YtifebbdjdllfpaaGreatDoor
