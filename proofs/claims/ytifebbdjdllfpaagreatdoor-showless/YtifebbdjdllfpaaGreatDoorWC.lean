import Derived.Test.YtifebbdjdllfpaaGreatDoorWA
/- Writing an expression: the kinds that have no parts. -/
namespace Go.Proofs.YtifebbdjdllfpaaGreatDoor
open Go.RowKit
open Px (opL opX dg)
set_option linter.unusedSimpArgs false
set_option linter.unusedVariables false

theorem name_post (x : List UInt8) (w : World) (hs : x.length ≤ maxLen) : Calls Tryz.prog 59 #[.string ⟨x.toArray⟩] w fun e w' => TPost w (if gName x then some x else none) e w' := by
  refine (name_any x w hs).mono ?_
  rintro e w' ⟨rfl, rfl⟩
  cases gName x
  · exact ⟨rfl, Below.refl _ _⟩
  · exact ⟨rfl, Below.refl _ _⟩
theorem gName_len {x : List UInt8} (h : gName x = true) : x.length ≤ 16 := by
  cases x with
  | nil => simp
  | cons c r => simp [gName, wordB] at h; simp; omega
set_option maxRecDepth 100000 in
set_option maxHeartbeats 8000000 in
/-- A name. -/
theorem expr_name {base b : Nat} {o n : Int} {t : List UInt8} {least : Nat} {l : List UInt8} {tabs : Nat} {cs : List Value} {w : World} (hW : Wr base b l tabs w) (hx : IsGE (fun k => k < base) w (.mk 6 o n t []) cs) (hle : least ≤ 6) (h1 : t.length ≤ maxLen) :
    Calls Tryz.prog 111 #[wPtr b, .agg cs.toArray, .int .i64 least] w fun r w' => WPost base b l tabs w (if gName t then some t else none) r w' := by
  rw [IsGE] at hx
  obtain ⟨x, p, y, sl, row, rfl, hr, ha⟩ := hx
  obtain ⟨ao, cap, rfl, hm⟩ := hr.slice
  obtain ⟨res, hres⟩ : ∃ res, Aside (res = if gName t then some t else none) := ⟨_, show _ = _ from rfl⟩
  rw [← hres.out]
  clear ha hr hm
  have hE := In.boxes hW (geBox 6 o n t x y (.slice ao 0 cap) p)
  have hA := args_any 6 o n t x y ao 0 cap p
  rw [show nArgs 6 0 = 0 from rfl] at hA
  clear hW
  refine calls_of_post Tryz.func111 rfl ?_
  simp only [Tryz.ntmps111, List.size_toArray, List.length_cons, List.length_nil, Nat.reduceAdd, Nat.reduceSub, Array.replicate_succ, Array.replicate_zero, List.push_toArray, List.append_toArray, List.nil_append, List.cons_append]
  go_upto_region 1 with fail
  generalize ((w.alloc (pBox b)).alloc (xBox (geBox 6 o n t x y (.slice ao 0 cap) p))) = w2 at *
  generalize w.heap.size = g0 at *
  go_cut [] from 6 to 12 (fun wc => In base b (eks b g0 (geBox 6 o n t x y (.slice ao 0 cap) p)) l tabs w wc)
  case first =>
    have l0 : g0 < w2.heap.size := hE.lt (q := (g0, pBox b)) (by simp)
    have l1 : g0 + 1 < w2.heap.size := hE.lt (q := (g0 + 1, xBox _)) (by simp; rfl)
    obtain ⟨x0, x1, x2, x3, x4, x5, x6, x7, _⟩ := cells_of8 (hE.kept _ (List.mem_cons_self))
    go_region_with (first
      | (go_at_call 135; refine (hA _).mono ?_; rintro e w3 ⟨rfl, hb3⟩; have hE3 := hE.drew.call hb3; have l3 : g0 + 1 < w3.heap.size := hE3.lt (q := (g0 + 1, xBox _)) (by simp; rfl); obtain ⟨y0, y1, y2, y3, y4, y5, y6, y7, _⟩ := cells_of8 (hE3.kept _ (List.mem_cons_self)))
      | (go_at_call 57; refine (need_ok _).mono ?_; rintro e w4 ⟨rfl, rfl⟩))
    all_goals (go_wp2_with fail; go_meet; exact hE3)
  case rest =>
    clear hE hA
    have hE := hcut
    have l0 : g0 < wc.heap.size := hE.lt (q := (g0, pBox b)) (by simp)
    have l1 : g0 + 1 < wc.heap.size := hE.lt (q := (g0 + 1, xBox _)) (by simp; rfl)
    have c0 := cell_of_one (hE.kept (g0, pBox b) (by simp))
    obtain ⟨x0, x1, x2, x3, x4, x5, x6, x7, _⟩ := cells_of8 (hE.kept _ (List.mem_cons_self))
    have hL := level_no 6 o n (by decide) t x y ao 0 cap p wc
    rw [if_neg (by decide)] at hL
    have hltI : ¬ (6 : Int) < (least : Int) := by omega
    go_wp2_with fail
    refine hL.mono ?_
    rintro e w4 ⟨rfl, hb4⟩
    have hE4 := hE.call hb4
    clear l0 l1 c0 x0 x1 x2 x3 x4 x5 x6 x7 hL hE hcut hb4
    have l0 : g0 < w4.heap.size := hE4.lt (q := (g0, pBox b)) (by simp)
    have l1 : g0 + 1 < w4.heap.size := hE4.lt (q := (g0 + 1, xBox _)) (by simp; rfl)
    have c0 := cell_of_one (hE4.kept (g0, pBox b) (by simp))
    obtain ⟨x0, x1, x2, x3, x4, x5, x6, x7, _⟩ := cells_of8 (hE4.kept _ (List.mem_cons_self))
    have hN : Calls Tryz.prog 59 #[.string ⟨t.toArray⟩] w4.drew fun e w' => TPost w4.drew res e w' := by
      rw [hres.out]
      exact name_post t w4.drew h1
    go_upto_region 14 with fail
    rcases hq : res with _ | z
    · rw [hq] at hN
      clear hres
      go_region_with (go_at_call 59; refine hN.mono ?_; rintro e w5 ⟨rfl, hb5⟩; have hE5 := hE4.drew.call hb5; refine skip_way w5 (fun _ => leaveP (show WPost base b l tabs w res _ _ by rw [hq]; exact ⟨rfl, l, tabs, hE5.wr, hE5.fw⟩)) ?_)
      all_goals trivial
    · rw [hq] at hN
      have hzl : z.length ≤ 1099511627776 := by
        have := hres.out
        rw [hq] at this
        split at this
        · rename_i hpl
          simp only [Option.some.injEq] at this
          subst this
          have := gName_len hpl
          omega
        · cases this
      clear hres
      go_region_with (first
        | (go_at_call 59; refine hN.mono ?_; rintro e w5 ⟨rfl, hb5⟩; have hE5 := hE4.drew.call hb5; have l5 : g0 < w5.heap.size := hE5.lt (q := (g0, pBox b)) (by simp); have c5 := cell_of_one (hE5.kept (g0, pBox b) (by simp)))
        | (go_at_call 38; refine (put_l hE5.wr z hzl).mono ?_; rintro e w6 ⟨rfl, l6, hw6, h6, hf6⟩))
      all_goals
        go_wp2
        exact leave0 rfl (show WPost base b l tabs w res _ _ by rw [hq]; exact ⟨rfl, l6, hw6, h6, hE5.fw.trans hf6⟩)
end Go.Proofs.YtifebbdjdllfpaaGreatDoor
/- Writing an expression: a call. -/
namespace Go.Proofs.YtifebbdjdllfpaaGreatDoor
open Go.RowKit
open Px (opL opX dg lv)
set_option linter.unusedSimpArgs false
set_option linter.unusedVariables false

theorem eArgE (args : Array Value) (w : World) : (callFunc 139 args).run Tryz.prog w = .ok (.enter 139 args) w := enters_of Tryz.func139 (by kernel_rfl) rfl args w
set_option maxRecDepth 100000 in
set_option maxHeartbeats 8000000 in
/-- A call. -/
theorem expr_call {base b : Nat} {o n : Int} {t : List UInt8} {args : List GE} {least : Nat} {l : List UInt8} {tabs : Nat} {cs : List Value} {w : World} (hW : Wr base b l tabs w) (hx : IsGE (fun k => k < base) w (.mk 7 o n t args) cs) (h1 : t.length ≤ maxLen) (hX : ∀ e ∈ args, ExOk base b e) (hle : least ≤ 6) :
    Calls Tryz.prog 111 #[wPtr b, .agg cs.toArray, .int .i64 least] w fun r w' => WPost base b l tabs w (if gName t then (allS (args.map gE)).map fun xs => t ++ 40 :: (commasS xs ++ [41]) else none) r w' := by
  rw [IsGE] at hx
  obtain ⟨x, p, y, sl, row, rfl, hr, ha⟩ := hx
  obtain ⟨ao, cap, rfl, hm⟩ := hr.slice
  obtain ⟨res, hres⟩ : ∃ res : Option (List UInt8), Aside (res = if gName t then (allS (args.map gE)).map fun xs => t ++ 40 :: (commasS xs ++ [41]) else none) := ⟨_, show _ = _ from rfl⟩
  rw [← hres.out]
  have hgt := hW.lt
  unfold maxLen at hm
  have hE := In.boxes hW (geBox 7 o n t x y (.slice ao args.length cap) p)
  have hA := args_any 7 o n t x y ao args.length cap p
  rw [show nArgs 7 args.length = args.length by simp [nArgs]] at hA
  clear hW
  refine calls_of_post Tryz.func111 rfl ?_
  simp only [Tryz.ntmps111, List.size_toArray, List.length_cons, List.length_nil, Nat.reduceAdd, Nat.reduceSub, Array.replicate_succ, Array.replicate_zero, List.push_toArray, List.append_toArray, List.nil_append, List.cons_append]
  go_upto_region 1 with fail
  generalize ((w.alloc (pBox b)).alloc (xBox (geBox 7 o n t x y (.slice ao args.length cap) p))) = w2 at *
  generalize w.heap.size = g0 at *
  go_cut [] from 6 to 12 (fun wc => In base b (eks b g0 (geBox 7 o n t x y (.slice ao args.length cap) p)) l tabs w wc)
  case first =>
    have l0 : g0 < w2.heap.size := hE.lt (q := (g0, pBox b)) (by simp)
    have l1 : g0 + 1 < w2.heap.size := hE.lt (q := (g0 + 1, xBox _)) (by simp; rfl)
    obtain ⟨x0, x1, x2, x3, x4, x5, x6, x7, _⟩ := cells_of8 (hE.kept _ (List.mem_cons_self))
    go_region_with (first
      | (go_at_call 135; refine (hA _).mono ?_; rintro e w3 ⟨rfl, hb3⟩; have hE3 := hE.drew.call hb3; have l3 : g0 + 1 < w3.heap.size := hE3.lt (q := (g0 + 1, xBox _)) (by simp; rfl); obtain ⟨y0, y1, y2, y3, y4, y5, y6, y7, _⟩ := cells_of8 (hE3.kept _ (List.mem_cons_self)))
      | (go_at_call 57; refine (need_ok _).mono ?_; rintro e w4 ⟨rfl, rfl⟩))
    all_goals (go_wp2_with fail; go_meet; exact hE3)
  case rest =>
    clear hE hA
    have hE := hcut
    have l0 : g0 < wc.heap.size := hE.lt (q := (g0, pBox b)) (by simp)
    have l1 : g0 + 1 < wc.heap.size := hE.lt (q := (g0 + 1, xBox _)) (by simp; rfl)
    have c0 := cell_of_one (hE.kept (g0, pBox b) (by simp))
    obtain ⟨x0, x1, x2, x3, x4, x5, x6, x7, _⟩ := cells_of8 (hE.kept _ (List.mem_cons_self))
    have hL := level_no 7 o n (by decide) t x y ao args.length cap p wc
    rw [if_neg (by decide)] at hL
    have hltI : ¬ (6 : Int) < (least : Int) := by omega
    go_wp2_with fail
    refine hL.mono ?_
    rintro e w4 ⟨rfl, hb4⟩
    have hE4 := hE.call hb4
    clear l0 l1 c0 x0 x1 x2 x3 x4 x5 x6 x7 hL hE hcut hb4
    have l0 : g0 < w4.heap.size := hE4.lt (q := (g0, pBox b)) (by simp)
    have l1 : g0 + 1 < w4.heap.size := hE4.lt (q := (g0 + 1, xBox _)) (by simp; rfl)
    have c0 := cell_of_one (hE4.kept (g0, pBox b) (by simp))
    obtain ⟨x0, x1, x2, x3, x4, x5, x6, x7, _⟩ := cells_of8 (hE4.kept _ (List.mem_cons_self))
    have hN := name_post t w4.drew h1
    have hmf : ∀ (fn : Fn) (first cap : Array Value) (w : World), (Instr.makeFunc fn first cap).run Tryz.prog w = .ok (.func fn first cap) w := fun _ _ _ _ => rfl
    rcases hgn : gName t with _ | _
    · rw [hgn] at hN
      go_upto_region 16 with fail
      go_region_with (go_at_call 59; refine hN.mono ?_; rintro e w5 ⟨rfl, hb5⟩; have hE5 := hE4.drew.call hb5; refine skip_way w5 (fun _ => leaveP (show WPost base b l tabs w res _ _ by rw [hres.out, hgn]; exact ⟨rfl, l, tabs, hE5.wr, hE5.fw⟩)) ?_)
      all_goals trivial
    · rw [hgn] at hN
      have htl := gName_len hgn
      go_upto_region 16 with fail
      go_cut [] from 53 to 57 (fun wc => ∃ l5, wrote l t l5 ∧ In base b (eks b g0 (geBox 7 o n t x y (.slice ao args.length cap) p)) l5 tabs w wc)
      case first =>
        go_region_with (first
          | (go_at_call 59; refine hN.mono ?_; rintro e w5 ⟨rfl, hb5⟩; have hE5 := hE4.drew.call hb5; have l5 : g0 < w5.heap.size := hE5.lt (q := (g0, pBox b)) (by simp); have c5 := cell_of_one (hE5.kept (g0, pBox b) (by simp)))
          | (go_at_call 38; refine (put_l hE5.wr t (by omega)).mono ?_; rintro e w6 ⟨rfl, l6, hw6, h6, hf6⟩))
        all_goals (go_wp2_with fail; go_meet; exact ⟨l6, hw6, hE5.step h6 hf6⟩)
      case rest =>
        clear l0 l1 c0 x0 x1 x2 x3 x4 x5 x6 x7 hN hE4
        obtain ⟨l5, hw5, hE5⟩ := hcut
        have l0 : g0 < wc.heap.size := hE5.lt (q := (g0, pBox b)) (by simp)
        have l1 : g0 + 1 < wc.heap.size := hE5.lt (q := (g0 + 1, xBox _)) (by simp; rfl)
        have c0 := cell_of_one (hE5.kept (g0, pBox b) (by simp))
        obtain ⟨x0, x1, x2, x3, x4, x5, x6, x7, _⟩ := cells_of8 (hE5.kept _ (List.mem_cons_self))
        have hC := wlisted_any (K := 139) (caps := #[.pointer (some ⟨g0, 0, none⟩), .pointer (some ⟨g0 + 1, 0, none⟩)]) (xs := args.map gE) (Inv := CallIn base b g0 (geBox 7 o n t x y (.slice ao args.length cap) p) w) hE5.wr (by simp; omega) eArgE (argfn_any hr ha hX) (fun _ _ h hf => h.step hf) ⟨hE5.kept (g0, pBox b) (by simp), hE5.kept _ (List.mem_cons_self), hgt, hE5.fw⟩
        rw [List.length_map] at hC
        rcases hqa : allS (args.map gE) with _ | zs
        · rw [hqa] at hC
          go_wp2_with fail
          refine hC.mono ?_
          rintro e w6 ⟨rfl, l6, tabs6, h6, hf6⟩
          exact fun _ => leaveP (show WPost base b l tabs w res _ _ by rw [hres.out, hgn, if_pos rfl, hqa]; exact ⟨rfl, l6, tabs6, h6, hE5.fw.trans hf6⟩)
        · rw [hqa] at hC
          go_wp2_with fail
          refine hC.mono ?_
          rintro e w6 ⟨rfl, l6, hw6, h6, hf6⟩
          go_wp2
          exact leave0 rfl (show WPost base b l tabs w res _ _ by rw [hres.out, hgn, if_pos rfl, hqa]; exact ⟨rfl, l6, hw5.trans hw6, h6, hE5.fw.trans hf6⟩)
end Go.Proofs.YtifebbdjdllfpaaGreatDoor
/- Writing an expression: what can't stand in a text. -/
namespace Go.Proofs.YtifebbdjdllfpaaGreatDoor
open Go.RowKit
open Px (opL opX dg lv)
set_option linter.unusedSimpArgs false
set_option linter.unusedVariables false

set_option maxRecDepth 100000 in
set_option maxHeartbeats 8000000 in
/-- No such kind. -/
theorem expr_none {base b : Nat} {o n : Int} {t : List UInt8} {k : Int} {least : Nat} {l : List UInt8} {tabs : Nat} {cs : List Value} {w : World} (hW : Wr base b l tabs w) (hx : IsGE (fun k => k < base) w (.mk k o n t []) cs) (hk : k ≠ 1 ∧ k ≠ 2 ∧ k ≠ 3 ∧ k ≠ 6 ∧ k ≠ 7 ∧ k ≠ 12 ∧ k ≠ 13 ∧ k ≠ 14 ∧ k ≠ 15) (hle : least ≤ 6) :
    Calls Tryz.prog 111 #[wPtr b, .agg cs.toArray, .int .i64 least] w fun r w' => WPost base b l tabs w (none) r w' := by
  rw [IsGE] at hx
  obtain ⟨x, p, y, sl, row, rfl, hr, ha⟩ := hx
  obtain ⟨ao, cap, rfl, hm⟩ := hr.slice
  obtain ⟨res, hres⟩ : ∃ res : Option (List UInt8), Aside (res = none) := ⟨_, show _ = _ from rfl⟩
  rw [← hres.out]
  have q1 : (k == 1) = false := by simpa using hk.1
  have q2 : (k == 2) = false := by simpa using hk.2.1
  have q3 : (k == 3) = false := by simpa using hk.2.2.1
  have q6 : (k == 6) = false := by simpa using hk.2.2.2.1
  have q7 : (k == 7) = false := by simpa using hk.2.2.2.2.1
  have q12 : (k == 12) = false := by simpa using hk.2.2.2.2.2.1
  have q13 : (k == 13) = false := by simpa using hk.2.2.2.2.2.2.1
  have q14 : (k == 14) = false := by simpa using hk.2.2.2.2.2.2.2.1
  have q15 : (k == 15) = false := by simpa using hk.2.2.2.2.2.2.2.2
  clear ha hr hm
  have hE := In.boxes hW (geBox k o n t x y (.slice ao 0 cap) p)
  have hA := args_any k o n t x y ao 0 cap p
  rw [show nArgs k 0 = 0 by unfold nArgs; rw [if_neg hk.2.2.2.2.1, if_neg (by omega), if_neg (by omega)]] at hA
  clear hW
  refine calls_of_post Tryz.func111 rfl ?_
  simp only [Tryz.ntmps111, List.size_toArray, List.length_cons, List.length_nil, Nat.reduceAdd, Nat.reduceSub, Array.replicate_succ, Array.replicate_zero, List.push_toArray, List.append_toArray, List.nil_append, List.cons_append]
  go_upto_region 1 with fail
  generalize ((w.alloc (pBox b)).alloc (xBox (geBox k o n t x y (.slice ao 0 cap) p))) = w2 at *
  generalize w.heap.size = g0 at *
  go_cut [] from 6 to 12 (fun wc => In base b (eks b g0 (geBox k o n t x y (.slice ao 0 cap) p)) l tabs w wc)
  case first =>
    have l0 : g0 < w2.heap.size := hE.lt (q := (g0, pBox b)) (by simp)
    have l1 : g0 + 1 < w2.heap.size := hE.lt (q := (g0 + 1, xBox _)) (by simp; rfl)
    obtain ⟨x0, x1, x2, x3, x4, x5, x6, x7, _⟩ := cells_of8 (hE.kept _ (List.mem_cons_self))
    go_region_with (first
      | (go_at_call 135; refine (hA _).mono ?_; rintro e w3 ⟨rfl, hb3⟩; have hE3 := hE.drew.call hb3; have l3 : g0 + 1 < w3.heap.size := hE3.lt (q := (g0 + 1, xBox _)) (by simp; rfl); obtain ⟨y0, y1, y2, y3, y4, y5, y6, y7, _⟩ := cells_of8 (hE3.kept _ (List.mem_cons_self)))
      | (go_at_call 57; refine (need_ok _).mono ?_; rintro e w4 ⟨rfl, rfl⟩))
    all_goals (go_wp2_with fail; go_meet; exact hE3)
  case rest =>
    clear hE hA
    have hE := hcut
    have l0 : g0 < wc.heap.size := hE.lt (q := (g0, pBox b)) (by simp)
    have l1 : g0 + 1 < wc.heap.size := hE.lt (q := (g0 + 1, xBox _)) (by simp; rfl)
    have c0 := cell_of_one (hE.kept (g0, pBox b) (by simp))
    obtain ⟨x0, x1, x2, x3, x4, x5, x6, x7, _⟩ := cells_of8 (hE.kept _ (List.mem_cons_self))
    have hL := level_no k o n hk.2.2.2.2.2.2.2.2 t x y ao 0 cap p wc
    rw [if_neg (by omega)] at hL
    have hltI : ¬ (6 : Int) < (least : Int) := by omega
    go_wp2_with fail
    refine hL.mono ?_
    rintro e w4 ⟨rfl, hb4⟩
    have hE4 := hE.call hb4
    clear l0 l1 c0 x0 x1 x2 x3 x4 x5 x6 x7 hL hE hcut hb4
    have l0 : g0 < w4.heap.size := hE4.lt (q := (g0, pBox b)) (by simp)
    have l1 : g0 + 1 < w4.heap.size := hE4.lt (q := (g0 + 1, xBox _)) (by simp; rfl)
    have c0 := cell_of_one (hE4.kept (g0, pBox b) (by simp))
    obtain ⟨x0, x1, x2, x3, x4, x5, x6, x7, _⟩ := cells_of8 (hE4.kept _ (List.mem_cons_self))
    clear hk
    go_wp2_with fail
    refine (need_no _).mono ?_
    rintro e w5 ⟨rfl, rfl⟩
    exact fun _ => leaveP (show WPost base b l tabs w res _ _ by rw [hres.out]; exact ⟨rfl, l, tabs, hE4.wr, hE4.fw⟩)
set_option maxRecDepth 100000 in
set_option maxHeartbeats 8000000 in
/-- No such operator. -/
theorem expr_noop {base b : Nat} {o n : Int} {t : List UInt8} {a c : GE} {least : Nat} {l : List UInt8} {tabs : Nat} {cs : List Value} {w : World} (hW : Wr base b l tabs w) (hx : IsGE (fun k => k < base) w (.mk 15 o n t [a, c]) cs) (hop : gL o = 0) (hle : least ≤ 6) :
    Calls Tryz.prog 111 #[wPtr b, .agg cs.toArray, .int .i64 least] w fun r w' => WPost base b l tabs w (none) r w' := by
  rw [IsGE] at hx
  obtain ⟨x, p, y, sl, row, rfl, hr, ha⟩ := hx
  obtain ⟨ao, cap, rfl, hm⟩ := hr.slice
  obtain ⟨res, hres⟩ : ∃ res : Option (List UInt8), Aside (res = none) := ⟨_, show _ = _ from rfl⟩
  rw [← hres.out]
  clear ha hr hm
  have hE := In.boxes hW (geBox 15 o n t x y (.slice ao 2 cap) p)
  have hA := args_any 15 o n t x y ao 2 cap p
  rw [show nArgs 15 2 = 2 from rfl] at hA
  clear hW
  refine calls_of_post Tryz.func111 rfl ?_
  simp only [Tryz.ntmps111, List.size_toArray, List.length_cons, List.length_nil, Nat.reduceAdd, Nat.reduceSub, Array.replicate_succ, Array.replicate_zero, List.push_toArray, List.append_toArray, List.nil_append, List.cons_append]
  go_upto_region 1 with fail
  generalize ((w.alloc (pBox b)).alloc (xBox (geBox 15 o n t x y (.slice ao 2 cap) p))) = w2 at *
  generalize w.heap.size = g0 at *
  go_cut [] from 6 to 12 (fun wc => In base b (eks b g0 (geBox 15 o n t x y (.slice ao 2 cap) p)) l tabs w wc)
  case first =>
    have l0 : g0 < w2.heap.size := hE.lt (q := (g0, pBox b)) (by simp)
    have l1 : g0 + 1 < w2.heap.size := hE.lt (q := (g0 + 1, xBox _)) (by simp; rfl)
    obtain ⟨x0, x1, x2, x3, x4, x5, x6, x7, _⟩ := cells_of8 (hE.kept _ (List.mem_cons_self))
    go_region_with (first
      | (go_at_call 135; refine (hA _).mono ?_; rintro e w3 ⟨rfl, hb3⟩; have hE3 := hE.drew.call hb3; have l3 : g0 + 1 < w3.heap.size := hE3.lt (q := (g0 + 1, xBox _)) (by simp; rfl); obtain ⟨y0, y1, y2, y3, y4, y5, y6, y7, _⟩ := cells_of8 (hE3.kept _ (List.mem_cons_self)))
      | (go_at_call 57; refine (need_ok _).mono ?_; rintro e w4 ⟨rfl, rfl⟩))
    all_goals (go_wp2_with fail; go_meet; exact hE3)
  case rest =>
    clear hE hA
    have hE := hcut
    have l0 : g0 < wc.heap.size := hE.lt (q := (g0, pBox b)) (by simp)
    have l1 : g0 + 1 < wc.heap.size := hE.lt (q := (g0 + 1, xBox _)) (by simp; rfl)
    have c0 := cell_of_one (hE.kept (g0, pBox b) (by simp))
    obtain ⟨x0, x1, x2, x3, x4, x5, x6, x7, _⟩ := cells_of8 (hE.kept _ (List.mem_cons_self))
    have hL := level_bin o n t x y ao 2 cap p wc
    rw [if_pos hop] at hL
    go_wp2_with fail
    refine hL.mono ?_
    rintro e w4 ⟨rfl, hb4⟩
    exact fun _ => leaveP (show WPost base b l tabs w res _ _ by rw [hres.out]; exact ⟨rfl, l, tabs, (hE.call hb4).wr, (hE.call hb4).fw⟩)
end Go.Proofs.YtifebbdjdllfpaaGreatDoor
