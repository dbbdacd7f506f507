import Derived.Test.YtifebbdjdllfpaaGreatDoorWA
/- Writing an expression: the kinds that have no parts. -/
namespace Go.Proofs.YtifebbdjdllfpaaGreatDoor
open Go.RowKit
open Px (opL opX dg)
set_option linter.unusedSimpArgs false
set_option linter.unusedVariables false

set_option maxRecDepth 100000 in
set_option maxHeartbeats 8000000 in
/-- A number. -/
theorem expr_int {base b : Nat} {o n : Int} {t : List UInt8} {least : Nat} {l : List UInt8} {tabs : Nat} {cs : List Value} {w : World} (hW : Wr base b l tabs w) (hx : IsGE (fun k => k < base) w (.mk 1 o n t []) cs) (hle : least ≤ 6) (h1 : n ≤ 9223372036854775807) :
    Calls Tryz.prog 111 #[wPtr b, .agg cs.toArray, .int .i64 least] w fun r w' => WPost base b l tabs w (if 0 ≤ n then some (dg n.toNat) else none) r w' := by
  rw [IsGE] at hx
  obtain ⟨x, p, y, sl, row, rfl, hr, ha⟩ := hx
  obtain ⟨ao, cap, rfl, hm⟩ := hr.slice
  obtain ⟨res, hres⟩ : ∃ res, Aside (res = if 0 ≤ n then some (dg n.toNat) else none) := ⟨_, show _ = _ from rfl⟩
  rw [← hres.out]
  clear ha hr hm
  have hE := In.boxes hW (geBox 1 o n t x y (.slice ao 0 cap) p)
  have hA := args_any 1 o n t x y ao 0 cap p
  rw [show nArgs 1 0 = 0 from rfl] at hA
  clear hW
  refine calls_of_post Tryz.func111 rfl ?_
  simp only [Tryz.ntmps111, List.size_toArray, List.length_cons, List.length_nil, Nat.reduceAdd, Nat.reduceSub, Array.replicate_succ, Array.replicate_zero, List.push_toArray, List.append_toArray, List.nil_append, List.cons_append]
  go_upto_region 1 with fail
  generalize ((w.alloc (pBox b)).alloc (xBox (geBox 1 o n t x y (.slice ao 0 cap) p))) = w2 at *
  generalize w.heap.size = g0 at *
  go_cut [] from 6 to 12 (fun wc => In base b (eks b g0 (geBox 1 o n t x y (.slice ao 0 cap) p)) l tabs w wc)
  case first =>
    have l0 : g0 < w2.heap.size := hE.lt (q := (g0, pBox b)) (by simp)
    have l1 : g0 + 1 < w2.heap.size := hE.lt (q := (g0 + 1, xBox _)) (by simp; rfl)
    obtain ⟨x0, x1, x2, x3, x4, x5, x6, x7, _⟩ := cells_of8 (hE.kept _ (List.mem_cons_self))
    go_region_with (first
      | (go_at_call 135; refine (hA _).mono ?_; rintro e w3 ⟨rfl, hb3⟩; have hE3 := hE.drew.call hb3; have l3 : g0 + 1 < w3.heap.size := hE3.lt (q := (g0 + 1, xBox _)) (by simp; rfl); obtain ⟨y0, y1, y2, y3, y4, y5, y6, y7, _⟩ := cells_of8 (hE3.kept _ (List.mem_cons_self)))
      | (go_at_call 57; refine (need_ok _).mono ?_; rintro e w4 ⟨rfl, rfl⟩))
    all_goals (go_wp2_with fail; go_meet; exact hE3)
  case rest =>
    clear hE hA
    have hE := hcut
    have l0 : g0 < wc.heap.size := hE.lt (q := (g0, pBox b)) (by simp)
    have l1 : g0 + 1 < wc.heap.size := hE.lt (q := (g0 + 1, xBox _)) (by simp; rfl)
    have c0 := cell_of_one (hE.kept (g0, pBox b) (by simp))
    obtain ⟨x0, x1, x2, x3, x4, x5, x6, x7, _⟩ := cells_of8 (hE.kept _ (List.mem_cons_self))
    have hL := level_no 1 o n (by decide) t x y ao 0 cap p wc
    rw [if_neg (by decide)] at hL
    have hltI : ¬ (6 : Int) < (least : Int) := by omega
    go_wp2_with fail
    refine hL.mono ?_
    rintro e w4 ⟨rfl, hb4⟩
    have hE4 := hE.call hb4
    clear l0 l1 c0 x0 x1 x2 x3 x4 x5 x6 x7 hL hE hcut hb4
    have l0 : g0 < w4.heap.size := hE4.lt (q := (g0, pBox b)) (by simp)
    have l1 : g0 + 1 < w4.heap.size := hE4.lt (q := (g0 + 1, xBox _)) (by simp; rfl)
    have c0 := cell_of_one (hE4.kept (g0, pBox b) (by simp))
    obtain ⟨x0, x1, x2, x3, x4, x5, x6, x7, _⟩ := cells_of8 (hE4.kept _ (List.mem_cons_self))
    have hN : Calls Tryz.prog 39 #[.int .i64 n] w4.drew fun e w' => TPost w4.drew res e w' := by
      rw [hres.out]
      exact number_any n w4.drew hE4.drew.wr.tab h1
    go_upto_region 8 with fail
    rcases hq : res with _ | z
    · rw [hq] at hN
      clear hres
      go_region_with (go_at_call 39; refine hN.mono ?_; rintro e w5 ⟨rfl, hb5⟩; have hE5 := hE4.drew.call hb5; refine skip_way w5 (fun _ => leaveP (show WPost base b l tabs w res _ _ by rw [hq]; exact ⟨rfl, l, tabs, hE5.wr, hE5.fw⟩)) ?_)
      all_goals trivial
    · rw [hq] at hN
      have hzl : z.length ≤ 1099511627776 := by
        have := hres.out
        rw [hq] at this
        split at this
        · simp only [Option.some.injEq] at this
          subst this
          have := dg_len n.toNat (by omega)
          omega
        · cases this
      clear hres
      go_region_with (first
        | (go_at_call 39; refine hN.mono ?_; rintro e w5 ⟨rfl, hb5⟩; have hE5 := hE4.drew.call hb5; have l5 : g0 < w5.heap.size := hE5.lt (q := (g0, pBox b)) (by simp); have c5 := cell_of_one (hE5.kept (g0, pBox b) (by simp)))
        | (go_at_call 38; refine (put_l hE5.wr z hzl).mono ?_; rintro e w6 ⟨rfl, l6, hw6, h6, hf6⟩))
      all_goals
        go_wp2
        exact leave0 rfl (show WPost base b l tabs w res _ _ by rw [hq]; exact ⟨rfl, l6, hw6, h6, hE5.fw.trans hf6⟩)
end Go.Proofs.YtifebbdjdllfpaaGreatDoor
/- Writing an expression: the kinds that have no parts. -/
namespace Go.Proofs.YtifebbdjdllfpaaGreatDoor
open Go.RowKit
open Px (opL opX dg)
set_option linter.unusedSimpArgs false
set_option linter.unusedVariables false

set_option maxRecDepth 100000 in
set_option maxHeartbeats 8000000 in
/-- A truth. -/
theorem expr_bool {base b : Nat} {o n : Int} {t : List UInt8} {least : Nat} {l : List UInt8} {tabs : Nat} {cs : List Value} {w : World} (hW : Wr base b l tabs w) (hx : IsGE (fun k => k < base) w (.mk 2 o n t []) cs) (hle : least ≤ 6)  :
    Calls Tryz.prog 111 #[wPtr b, .agg cs.toArray, .int .i64 least] w fun r w' => WPost base b l tabs w (if 0 ≤ n ∧ n ≤ 1 then some (if n = 1 then [116, 114, 117, 101] else [102, 97, 108, 115, 101]) else none) r w' := by
  rw [IsGE] at hx
  obtain ⟨x, p, y, sl, row, rfl, hr, ha⟩ := hx
  obtain ⟨ao, cap, rfl, hm⟩ := hr.slice
  obtain ⟨res, hres⟩ : ∃ res : Option (List UInt8), Aside (res = if 0 ≤ n ∧ n ≤ 1 then some (if n = 1 then [116, 114, 117, 101] else [102, 97, 108, 115, 101]) else none) := ⟨_, show _ = _ from rfl⟩
  rw [← hres.out]
  clear ha hr hm
  have hE := In.boxes hW (geBox 2 o n t x y (.slice ao 0 cap) p)
  have hA := args_any 2 o n t x y ao 0 cap p
  rw [show nArgs 2 0 = 0 from rfl] at hA
  clear hW
  refine calls_of_post Tryz.func111 rfl ?_
  simp only [Tryz.ntmps111, List.size_toArray, List.length_cons, List.length_nil, Nat.reduceAdd, Nat.reduceSub, Array.replicate_succ, Array.replicate_zero, List.push_toArray, List.append_toArray, List.nil_append, List.cons_append]
  go_upto_region 1 with fail
  generalize ((w.alloc (pBox b)).alloc (xBox (geBox 2 o n t x y (.slice ao 0 cap) p))) = w2 at *
  generalize w.heap.size = g0 at *
  go_cut [] from 6 to 12 (fun wc => In base b (eks b g0 (geBox 2 o n t x y (.slice ao 0 cap) p)) l tabs w wc)
  case first =>
    have l0 : g0 < w2.heap.size := hE.lt (q := (g0, pBox b)) (by simp)
    have l1 : g0 + 1 < w2.heap.size := hE.lt (q := (g0 + 1, xBox _)) (by simp; rfl)
    obtain ⟨x0, x1, x2, x3, x4, x5, x6, x7, _⟩ := cells_of8 (hE.kept _ (List.mem_cons_self))
    go_region_with (first
      | (go_at_call 135; refine (hA _).mono ?_; rintro e w3 ⟨rfl, hb3⟩; have hE3 := hE.drew.call hb3; have l3 : g0 + 1 < w3.heap.size := hE3.lt (q := (g0 + 1, xBox _)) (by simp; rfl); obtain ⟨y0, y1, y2, y3, y4, y5, y6, y7, _⟩ := cells_of8 (hE3.kept _ (List.mem_cons_self)))
      | (go_at_call 57; refine (need_ok _).mono ?_; rintro e w4 ⟨rfl, rfl⟩))
    all_goals (go_wp2_with fail; go_meet; exact hE3)
  case rest =>
    clear hE hA
    have hE := hcut
    have l0 : g0 < wc.heap.size := hE.lt (q := (g0, pBox b)) (by simp)
    have l1 : g0 + 1 < wc.heap.size := hE.lt (q := (g0 + 1, xBox _)) (by simp; rfl)
    have c0 := cell_of_one (hE.kept (g0, pBox b) (by simp))
    obtain ⟨x0, x1, x2, x3, x4, x5, x6, x7, _⟩ := cells_of8 (hE.kept _ (List.mem_cons_self))
    have hL := level_no 2 o n (by decide) t x y ao 0 cap p wc
    rw [if_neg (by decide)] at hL
    have hltI : ¬ (6 : Int) < (least : Int) := by omega
    go_wp2_with fail
    refine hL.mono ?_
    rintro e w4 ⟨rfl, hb4⟩
    have hE4 := hE.call hb4
    clear l0 l1 c0 x0 x1 x2 x3 x4 x5 x6 x7 hL hE hcut hb4
    have l0 : g0 < w4.heap.size := hE4.lt (q := (g0, pBox b)) (by simp)
    have l1 : g0 + 1 < w4.heap.size := hE4.lt (q := (g0 + 1, xBox _)) (by simp; rfl)
    have c0 := cell_of_one (hE4.kept (g0, pBox b) (by simp))
    obtain ⟨x0, x1, x2, x3, x4, x5, x6, x7, _⟩ := cells_of8 (hE4.kept _ (List.mem_cons_self))
    have hN : Calls Tryz.prog 137 #[.int .i64 n] w4.drew fun e w' => TPost w4.drew res e w' := by
      rw [hres.out]
      exact truth_any n w4.drew
    go_upto_region 10 with fail
    rcases hq : res with _ | z
    · rw [hq] at hN
      clear hres
      go_region_with (go_at_call 137; refine hN.mono ?_; rintro e w5 ⟨rfl, hb5⟩; have hE5 := hE4.drew.call hb5; refine skip_way w5 (fun _ => leaveP (show WPost base b l tabs w res _ _ by rw [hq]; exact ⟨rfl, l, tabs, hE5.wr, hE5.fw⟩)) ?_)
      all_goals trivial
    · rw [hq] at hN
      have hzl : z.length ≤ 1099511627776 := by
        have := hres.out
        rw [hq] at this
        split at this
        · simp only [Option.some.injEq] at this
          subst this
          split <;> simp
        · cases this
      clear hres
      go_region_with (first
        | (go_at_call 137; refine hN.mono ?_; rintro e w5 ⟨rfl, hb5⟩; have hE5 := hE4.drew.call hb5; have l5 : g0 < w5.heap.size := hE5.lt (q := (g0, pBox b)) (by simp); have c5 := cell_of_one (hE5.kept (g0, pBox b) (by simp)))
        | (go_at_call 38; refine (put_l hE5.wr z hzl).mono ?_; rintro e w6 ⟨rfl, l6, hw6, h6, hf6⟩))
      all_goals
        go_wp2
        exact leave0 rfl (show WPost base b l tabs w res _ _ by rw [hq]; exact ⟨rfl, l6, hw6, h6, hE5.fw.trans hf6⟩)
end Go.Proofs.YtifebbdjdllfpaaGreatDoor
/- Writing an expression: the kinds that have no parts. -/
namespace Go.Proofs.YtifebbdjdllfpaaGreatDoor
open Go.RowKit
open Px (opL opX dg)
set_option linter.unusedSimpArgs false
set_option linter.unusedVariables false

set_option maxRecDepth 100000 in
set_option maxHeartbeats 8000000 in
/-- A text. -/
theorem expr_text {base b : Nat} {o n : Int} {t : List UInt8} {least : Nat} {l : List UInt8} {tabs : Nat} {cs : List Value} {w : World} (hW : Wr base b l tabs w) (hx : IsGE (fun k => k < base) w (.mk 3 o n t []) cs) (hle : least ≤ 6) (h1 : t.length ≤ maxLen) :
    Calls Tryz.prog 111 #[wPtr b, .agg cs.toArray, .int .i64 least] w fun r w' => WPost base b l tabs w (if plainB t then some (quoteT t) else none) r w' := by
  rw [IsGE] at hx
  obtain ⟨x, p, y, sl, row, rfl, hr, ha⟩ := hx
  obtain ⟨ao, cap, rfl, hm⟩ := hr.slice
  obtain ⟨res, hres⟩ : ∃ res, Aside (res = if plainB t then some (quoteT t) else none) := ⟨_, show _ = _ from rfl⟩
  rw [← hres.out]
  clear ha hr hm
  have hE := In.boxes hW (geBox 3 o n t x y (.slice ao 0 cap) p)
  have hA := args_any 3 o n t x y ao 0 cap p
  rw [show nArgs 3 0 = 0 from rfl] at hA
  clear hW
  refine calls_of_post Tryz.func111 rfl ?_
  simp only [Tryz.ntmps111, List.size_toArray, List.length_cons, List.length_nil, Nat.reduceAdd, Nat.reduceSub, Array.replicate_succ, Array.replicate_zero, List.push_toArray, List.append_toArray, List.nil_append, List.cons_append]
  go_upto_region 1 with fail
  generalize ((w.alloc (pBox b)).alloc (xBox (geBox 3 o n t x y (.slice ao 0 cap) p))) = w2 at *
  generalize w.heap.size = g0 at *
  go_cut [] from 6 to 12 (fun wc => In base b (eks b g0 (geBox 3 o n t x y (.slice ao 0 cap) p)) l tabs w wc)
  case first =>
    have l0 : g0 < w2.heap.size := hE.lt (q := (g0, pBox b)) (by simp)
    have l1 : g0 + 1 < w2.heap.size := hE.lt (q := (g0 + 1, xBox _)) (by simp; rfl)
    obtain ⟨x0, x1, x2, x3, x4, x5, x6, x7, _⟩ := cells_of8 (hE.kept _ (List.mem_cons_self))
    go_region_with (first
      | (go_at_call 135; refine (hA _).mono ?_; rintro e w3 ⟨rfl, hb3⟩; have hE3 := hE.drew.call hb3; have l3 : g0 + 1 < w3.heap.size := hE3.lt (q := (g0 + 1, xBox _)) (by simp; rfl); obtain ⟨y0, y1, y2, y3, y4, y5, y6, y7, _⟩ := cells_of8 (hE3.kept _ (List.mem_cons_self)))
      | (go_at_call 57; refine (need_ok _).mono ?_; rintro e w4 ⟨rfl, rfl⟩))
    all_goals (go_wp2_with fail; go_meet; exact hE3)
  case rest =>
    clear hE hA
    have hE := hcut
    have l0 : g0 < wc.heap.size := hE.lt (q := (g0, pBox b)) (by simp)
    have l1 : g0 + 1 < wc.heap.size := hE.lt (q := (g0 + 1, xBox _)) (by simp; rfl)
    have c0 := cell_of_one (hE.kept (g0, pBox b) (by simp))
    obtain ⟨x0, x1, x2, x3, x4, x5, x6, x7, _⟩ := cells_of8 (hE.kept _ (List.mem_cons_self))
    have hL := level_no 3 o n (by decide) t x y ao 0 cap p wc
    rw [if_neg (by decide)] at hL
    have hltI : ¬ (6 : Int) < (least : Int) := by omega
    go_wp2_with fail
    refine hL.mono ?_
    rintro e w4 ⟨rfl, hb4⟩
    have hE4 := hE.call hb4
    clear l0 l1 c0 x0 x1 x2 x3 x4 x5 x6 x7 hL hE hcut hb4
    have l0 : g0 < w4.heap.size := hE4.lt (q := (g0, pBox b)) (by simp)
    have l1 : g0 + 1 < w4.heap.size := hE4.lt (q := (g0 + 1, xBox _)) (by simp; rfl)
    have c0 := cell_of_one (hE4.kept (g0, pBox b) (by simp))
    obtain ⟨x0, x1, x2, x3, x4, x5, x6, x7, _⟩ := cells_of8 (hE4.kept _ (List.mem_cons_self))
    have hN : Calls Tryz.prog 138 #[.string ⟨t.toArray⟩] w4.drew fun e w' => TPost w4.drew res e w' := by
      rw [hres.out]
      exact quotet_any t w4.drew h1
    go_upto_region 12 with fail
    rcases hq : res with _ | z
    · rw [hq] at hN
      clear hres
      go_region_with (go_at_call 138; refine hN.mono ?_; rintro e w5 ⟨rfl, hb5⟩; have hE5 := hE4.drew.call hb5; refine skip_way w5 (fun _ => leaveP (show WPost base b l tabs w res _ _ by rw [hq]; exact ⟨rfl, l, tabs, hE5.wr, hE5.fw⟩)) ?_)
      all_goals trivial
    · rw [hq] at hN
      have hzl : z.length ≤ 1099511627776 := by
        have := hres.out
        rw [hq] at this
        split at this
        · rename_i hpl
          simp only [Option.some.injEq] at this
          subst this
          simp only [plainB, Bool.and_eq_true, decide_eq_true_eq] at hpl
          have := escT_len t
          simp [quoteT]; omega
        · cases this
      clear hres
      go_region_with (first
        | (go_at_call 138; refine hN.mono ?_; rintro e w5 ⟨rfl, hb5⟩; have hE5 := hE4.drew.call hb5; have l5 : g0 < w5.heap.size := hE5.lt (q := (g0, pBox b)) (by simp); have c5 := cell_of_one (hE5.kept (g0, pBox b) (by simp)))
        | (go_at_call 38; refine (put_l hE5.wr z hzl).mono ?_; rintro e w6 ⟨rfl, l6, hw6, h6, hf6⟩))
      all_goals
        go_wp2
        exact leave0 rfl (show WPost base b l tabs w res _ _ by rw [hq]; exact ⟨rfl, l6, hw6, h6, hE5.fw.trans hf6⟩)
end Go.Proofs.YtifebbdjdllfpaaGreatDoor
