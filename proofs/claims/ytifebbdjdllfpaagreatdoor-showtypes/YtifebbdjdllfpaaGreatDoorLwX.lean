import Derived.Test.YtifebbdjdllfpaaGreatDoorWH
import Derived.Test.YtifebbdjdllfpaaGreatDoorSmA
import Derived.Test.YtifebbdjdllfpaaGreatDoorLexFn
import Derived.Test.YtifebbdjdllfpaaGreatDoorRows
import Derived.ProofKit
import Derived.LaidMore
import Derived.OpenShut
import Derived.ShutString
import Derived.ChangeOld
import Derived.Below
import Derived.Stop.Joined
import Derived.Stop.LaidErr
import Derived.Lib.LaidTab
import Derived.SizedLaws
import Derived.SliceStrings
/- There and back: the statement, walked. -/
namespace Go.Proofs.YtifebbdjdllfpaaGreatDoor
open Go.RowKit
open Px (WfP prT)
set_option linter.unusedSimpArgs false
set_option linter.unusedVariables false

theorem parse_er {l : List UInt8} {a er : Nat} (h : Px.parse l = .inr (a, er)) : er ≠ 0 := by
  rcases parse_bad_cases h with h | ⟨ts, h1, h2⟩
  · exact h.2.1
  · omega
set_option maxRecDepth 100000 in
set_option maxHeartbeats 8000000 in
theorem showback_walk (s : ByteArray) (w : World) (he : Env8 w) (hm : s.size ≤ maxLen) : Calls Tryz.prog 4 #[.string s] w fun e w' => e = .returned (.bool true) ∧ Below w.heap.size w w' := by
  have hw0 := wakes8_any w he
  go_enter Tryz.func4, Tryz.ntmps4
  go_wp2_with fail
  refine hw0.mono ?_
  rintro e w1 ⟨rfl, hb1⟩
  have he1 := he.below hb1
  clear hw0
  have hL := parse_done s w1 he1.env hm
  rcases hpr : Px.parse s.data.toList with p | ⟨a, er⟩
  rotate_left
  · rw [hpr] at hL
    replace hL : Calls Tryz.prog 10 #[.string s] w1 fun e w' => e = .returned (.tuple #[zeroPr, .int .i64 a, .int .i64 er]) ∧ Below w1.heap.size w1 w' := hL
    have her : er ≠ 0 := parse_er hpr
    have hne : ((er : Int) != 0) = true := by simp; omega
    go_wp2_with fail
    refine hL.mono ?_
    rintro e w2 ⟨rfl, hb2⟩
    have hB2 := hb1.trans (hb2.mono hb1.size)
    go_wp2
    go_ret
    exact ⟨rfl, hB2.alloc hB2.size _⟩
  rw [hpr] at hL
  replace hL : Calls Tryz.prog 10 #[.string s] w1 fun e w' => (∃ v, e = .returned (.tuple #[v, .int .i64 0, .int .i64 0]) ∧ IsPr (From w1.heap.size) w' p v) ∧ Below w1.heap.size w1 w' := hL
  obtain ⟨hw, hc⟩ := read_wf hpr
  go_wp2_with fail
  refine hL.mono ?_
  rintro e w2 ⟨⟨v, rfl, hx0⟩, hb2⟩
  obtain ⟨sa, sn, sc, fa, fn, fc, hv⟩ := hx0.cells
  subst hv
  have hB2 : Below w.heap.size w w2 := hb1.trans (hb2.mono hb1.size)
  have hbx2 : Below w2.heap.size w2 (w2.alloc (.cells #[.int .i64 p.version, .slice sa sn sc, .slice fa fn fc] 31)) := (Below.refl _ _).alloc (Nat.le_refl _) _
  have hB3 := hB2.trans (hbx2.mono hB2.size)
  have hx := (hx0.since (Since.of_below hbx2)).base (B' := fun _ => True) (fun _ _ => trivial)
  have d := heap_new w2 (.cells #[.int .i64 p.version, .slice sa sn sc, .slice fa fn fc] 31)
  have lt : w2.heap.size < (w2.alloc (.cells #[.int .i64 p.version, .slice sa sn sc, .slice fa fn fc] 31)).heap.size := by simp
  have hC := show_read hw hc (he.below hB3) hx
  obtain ⟨q0, q1, q2, _⟩ := cells_of3 d
  clear hL hx0 hbx2
  go_wp2_with fail
  generalize w2.alloc (.cells #[.int .i64 p.version, .slice sa sn sc, .slice fa fn fc] 31) = w3 at *
  generalize w2.heap.size = g at *
  refine hC.mono ?_
  rintro e w4 ⟨rfl, hb4⟩
  have hB4 := hB3.trans (hb4.mono hB3.size)
  by_cases hl : 16384 < (prS p).length
  · rw [show shT p = ([], 3) by unfold shT; rw [if_pos hl]]
    go_wp2
    go_ret
    exact ⟨rfl, hB4⟩
  rw [show shT p = (prS p, 0) by unfold shT; rw [if_neg hl]]
  obtain ⟨us, q, _, _, hpq, her⟩ := show_again hw hc (by omega)
  have hL := parse_done ⟨(prS p).toArray⟩ w4 (he.below hB4).env (by show (prS p).toArray.size ≤ maxLen; unfold maxLen; simp; omega)
  simp only [List.toList_toArray] at hL
  have d4 := (hb4.block g lt).trans d
  have lt4 : g < w4.heap.size := by have := hb4.size; omega
  have hx4 := hx.since (Since.of_below hb4)
  clear hC d lt hx q0 q1 q2
  rw [hpq] at hL
  replace hL : Calls Tryz.prog 10 #[.string ⟨(prS p).toArray⟩] w4 fun e w' => (∃ v, e = .returned (.tuple #[v, .int .i64 0, .int .i64 0]) ∧ IsPr (From w4.heap.size) w' q v) ∧ Below w4.heap.size w4 w' := hL
  obtain ⟨yhw, yhc⟩ := read_wf hpq
  go_wp2_with fail
  refine hL.mono ?_
  rintro e w5 ⟨⟨v, rfl, yhx0⟩, hb5⟩
  obtain ⟨ysa, ysn, ysc, yfa, yfn, yfc, hv⟩ := yhx0.cells
  subst hv
  have hB5 : Below w.heap.size w w5 := hB4.trans (hb5.mono hB4.size)
  have hbx5 : Below w5.heap.size w5 (w5.alloc (.cells #[.int .i64 q.version, .slice ysa ysn ysc, .slice yfa yfn yfc] 31)) := (Below.refl _ _).alloc (Nat.le_refl _) _
  have hB6 := hB5.trans (hbx5.mono hB5.size)
  have yhx := (yhx0.since (Since.of_below hbx5)).base (B' := fun _ => True) (fun _ _ => trivial)
  have yd := heap_new w5 (.cells #[.int .i64 q.version, .slice ysa ysn ysc, .slice yfa yfn yfc] 31)
  have ylt : w5.heap.size < (w5.alloc (.cells #[.int .i64 q.version, .slice ysa ysn ysc, .slice yfa yfn yfc] 31)).heap.size := by simp
  have d6 := (hbx5.block g (by have := hb5.size; omega)).trans ((hb5.block g lt4).trans d4)
  have hx6 := (hx4.since (Since.of_below hb5)).since (Since.of_below hbx5)
  have lt6 : g < (w5.alloc (.cells #[.int .i64 q.version, .slice ysa ysn ysc, .slice yfa yfn yfc] 31)).heap.size := by have := hb5.size; simp; omega
  have hgne : g ≠ w5.heap.size := by have := hb5.size; omega
  obtain ⟨q0, q1, q2, _⟩ := cells_of3 d6
  obtain ⟨z0, z1, z2, _⟩ := cells_of3 yd
  have hS := same_any p q _ _ false (fun _ => True) _ hx6 yhx (by show p.er = q.er; exact her.symm)
  have hC := fun w' (h : Below (w5.alloc (.cells #[.int .i64 q.version, .slice ysa ysn ysc, .slice yfa yfn yfc] 31)).heap.size (w5.alloc (.cells #[.int .i64 q.version, .slice ysa ysn ysc, .slice yfa yfn yfc] 31)) w') => show_read yhw yhc (he.below (hB6.trans (h.mono hB6.size))) (yhx.since (Since.of_below h))
  have hsq : shT q = (prS p, 0) := by unfold shT; rw [prS_same her, if_neg hl]
  rw [hsq] at hC
  clear hL yhx0 hbx5 hb5 hx4 d4 lt4
  go_wp2_with fail
  generalize w5.alloc (.cells #[.int .i64 q.version, .slice ysa ysn ysc, .slice yfa yfn yfc] 31) = w6 at *
  generalize w5.heap.size = yg at *
  refine hS.mono ?_
  rintro e w7 ⟨rfl, hb7⟩
  have hB7 := hB6.trans (hb7.mono hB6.size)
  have k0 := (hb7.cell (p := ⟨yg, 0, none⟩) ylt).trans z0
  have k1 := (hb7.cell (p := ⟨yg, 1, none⟩) ylt).trans z1
  have k2 := (hb7.cell (p := ⟨yg, 2, none⟩) ylt).trans z2
  have klt : yg < w7.heap.size := by have := hb7.size; omega
  go_wp2_with fail
  refine (hC w7 hb7).mono ?_
  rintro e w8 ⟨rfl, hb8⟩
  go_wp2
  go_ret
  exact ⟨rfl, hB7.trans (hb8.mono hB7.size)⟩
end Go.Proofs.YtifebbdjdllfpaaGreatDoor
/- Shown, no more tokens: the statement, walked. -/
namespace Go.Proofs.YtifebbdjdllfpaaGreatDoor
open Go.RowKit
open Px (WfP prT)
set_option linter.unusedSimpArgs false
set_option linter.unusedVariables false

set_option maxRecDepth 100000 in
set_option maxHeartbeats 8000000 in
theorem showless_walk (s : ByteArray) (w : World) (he : Env8 w) (hm : s.size ≤ maxLen) : Calls Tryz.prog 5 #[.string s] w fun e w' => e = .returned (.bool true) ∧ Below w.heap.size w w' := by
  have hw0 := wakes8_any w he
  go_enter Tryz.func5, Tryz.ntmps5
  go_wp2_with fail
  refine hw0.mono ?_
  rintro e w1 ⟨rfl, hb1⟩
  have he1 := he.below hb1
  clear hw0
  have hL := parse_done s w1 he1.env hm
  rcases hpr : Px.parse s.data.toList with p | ⟨a, er⟩
  rotate_left
  · rw [hpr] at hL
    replace hL : Calls Tryz.prog 10 #[.string s] w1 fun e w' => e = .returned (.tuple #[zeroPr, .int .i64 a, .int .i64 er]) ∧ Below w1.heap.size w1 w' := hL
    have her : er ≠ 0 := parse_er hpr
    have hne : ((er : Int) != 0) = true := by simp; omega
    go_wp2_with fail
    refine hL.mono ?_
    rintro e w2 ⟨rfl, hb2⟩
    have hB2 := hb1.trans (hb2.mono hb1.size)
    go_wp2
    go_ret
    exact ⟨rfl, hB2.alloc hB2.size _⟩
  rw [hpr] at hL
  replace hL : Calls Tryz.prog 10 #[.string s] w1 fun e w' => (∃ v, e = .returned (.tuple #[v, .int .i64 0, .int .i64 0]) ∧ IsPr (From w1.heap.size) w' p v) ∧ Below w1.heap.size w1 w' := hL
  obtain ⟨hw, hc⟩ := read_wf hpr
  go_wp2_with fail
  refine hL.mono ?_
  rintro e w2 ⟨⟨v, rfl, hx0⟩, hb2⟩
  obtain ⟨sa, sn, sc, fa, fn, fc, hv⟩ := hx0.cells
  subst hv
  have hB2 : Below w.heap.size w w2 := hb1.trans (hb2.mono hb1.size)
  have hbx2 : Below w2.heap.size w2 (w2.alloc (.cells #[.int .i64 p.version, .slice sa sn sc, .slice fa fn fc] 31)) := (Below.refl _ _).alloc (Nat.le_refl _) _
  have hB3 := hB2.trans (hbx2.mono hB2.size)
  have hx := (hx0.since (Since.of_below hbx2)).base (B' := fun _ => True) (fun _ _ => trivial)
  have d := heap_new w2 (.cells #[.int .i64 p.version, .slice sa sn sc, .slice fa fn fc] 31)
  have lt : w2.heap.size < (w2.alloc (.cells #[.int .i64 p.version, .slice sa sn sc, .slice fa fn fc] 31)).heap.size := by simp
  have hC := show_read hw hc (he.below hB3) hx
  obtain ⟨q0, q1, q2, _⟩ := cells_of3 d
  obtain ⟨_, ts, hts, hle, hfew⟩ := show_reads hpr
  clear hL hx0 hbx2
  go_wp2_with fail
  generalize w2.alloc (.cells #[.int .i64 p.version, .slice sa sn sc, .slice fa fn fc] 31) = w3 at *
  generalize w2.heap.size = g at *
  refine hC.mono ?_
  rintro e w4 ⟨rfl, hb4⟩
  have hB4 := hB3.trans (hb4.mono hB3.size)
  by_cases hl : 16384 < (prS p).length
  · rw [show shT p = ([], 3) by unfold shT; rw [if_pos hl]]
    go_wp2
    go_ret
    exact ⟨rfl, hB4⟩
  rw [show shT p = (prS p, 0) by unfold shT; rw [if_neg hl]]
  obtain ⟨us, q, hus, hul, _, _⟩ := show_again hw hc (by omega)
  have hx1 := lex_any s w4 (he.below hB4).env hm
  rw [show dotC = true from rfl, hts] at hx1
  replace hx1 : Calls Tryz.prog 17 #[.string s] w4 fun e w' => (∃ v, e = .returned (.tuple #[v, .int .i64 0, .int .i64 0]) ∧ w'.ownsRow w4.heap.size 81 4 v ts.length (rowOf ts)) ∧ Below w4.heap.size w4 w' := hx1
  go_wp2_with fail
  refine hx1.mono ?_
  rintro e w5 ⟨⟨v, rfl, ho⟩, hb5⟩
  obtain ⟨ao, cap, rfl⟩ := slice_of ho
  have hB5 := hB4.trans (hb5.mono hB4.size)
  have hx2 := lex_any ⟨(prS p).toArray⟩ w5 (he.below hB5).env (by show (prS p).toArray.size ≤ maxLen; unfold maxLen; simp; omega)
  simp only [List.toList_toArray] at hx2
  rw [show dotC = true from rfl, hus] at hx2
  replace hx2 : Calls Tryz.prog 17 #[.string ⟨(prS p).toArray⟩] w5 fun e w' => (∃ v, e = .returned (.tuple #[v, .int .i64 0, .int .i64 0]) ∧ w'.ownsRow w5.heap.size 81 4 v us.length (rowOf us)) ∧ Below w5.heap.size w5 w' := hx2
  go_wp2_with fail
  refine hx2.mono ?_
  rintro e w6 ⟨⟨v2, rfl, ho2⟩, hb6⟩
  obtain ⟨ao2, cap2, rfl⟩ := slice_of ho2
  have hfin : (us.length : Int) ≤ (ts.length : Int) := by omega
  go_wp2
  go_ret
  exact ⟨rfl, hB5.trans (hb6.mono hB5.size)⟩
end Go.Proofs.YtifebbdjdllfpaaGreatDoor
/- What is handed in stays: the statement, walked. -/
namespace Go.Proofs.YtifebbdjdllfpaaGreatDoor
open Go.RowKit
open Px (WfP prT)
set_option linter.unusedSimpArgs false
set_option linter.unusedVariables false

/-- What was read; of a text at fault nothing. -/
def prOf (l : List UInt8) : Px.Pr := match Px.parse l with | .inl p => p | .inr _ => ⟨0, [], []⟩
theorem okp_prOf (l : List UInt8) : OkP (ofPr (prOf l)) := by
  unfold prOf
  rcases h : Px.parse l with p | x
  · obtain ⟨h1, h2⟩ := read_wf h
    exact okp_of h1 h2
  · exact ⟨by show ((0 : Nat) : Int) ≤ _; omega, fun s hs => by simp [ofPr] at hs, fun s hs => by simp [ofPr] at hs⟩
theorem parse_pr (s : ByteArray) (w : World) (he : Env w) (hm : s.size ≤ maxLen) : Calls Tryz.prog 10 #[.string s] w fun e w' => (∃ (v : Value) (a er : Int), e = .returned (.tuple #[v, .int .i64 a, .int .i64 er]) ∧ IsPr (fun _ => True) w' (prOf s.data.toList) v) ∧ Below w.heap.size w w' := by
  refine (parse_done s w he hm).mono ?_
  intro e w' h
  unfold prOf
  rcases hp : Px.parse s.data.toList with p | ⟨a, er⟩
  · rw [hp] at h
    obtain ⟨⟨v, rfl, hx⟩, hb⟩ := h
    exact ⟨⟨v, 0, 0, rfl, hx.base (fun _ _ => trivial)⟩, hb⟩
  · rw [hp] at h
    obtain ⟨rfl, hb⟩ := h
    exact ⟨⟨_, a, er, rfl, zero_pr _ _⟩, hb⟩
set_option maxRecDepth 100000 in
set_option maxHeartbeats 8000000 in
theorem showkeeps_walk (s : ByteArray) (w : World) (he : Env8 w) (hm : s.size ≤ maxLen) : Calls Tryz.prog 7 #[.string s] w fun e w' => e = .returned (.bool true) ∧ Below w.heap.size w w' := by
  have hw0 := wakes8_any w he
  have hO := okp_prOf s.data.toList
  have hP := fun w' h => parse_pr s w' h hm
  generalize prOf s.data.toList = p at *
  generalize hsx : gShow 11 (ofPr p) = sx at *
  obtain ⟨st, se⟩ := sx
  go_enter Tryz.func7, Tryz.ntmps7
  go_wp2_with fail
  refine hw0.mono ?_
  rintro e w1 ⟨rfl, hB1⟩
  clear hw0
  go_wp2_with fail
  refine (hP w1 (he.below hB1).env).mono ?_
  rintro e w2 ⟨⟨v, a, er, rfl, hx0⟩, hb2⟩
  obtain ⟨sa, sn, sc, fa, fn, fc, hv⟩ := hx0.cells
  subst hv
  have hB2 := hB1.trans (hb2.mono hB1.size)
  have hbx2 : Below w2.heap.size w2 (w2.alloc (.cells #[.int .i64 p.version, .slice sa sn sc, .slice fa fn fc] 31)) := (Below.refl _ _).alloc (Nat.le_refl _) _
  have hB3 := hB2.trans (hbx2.mono hB2.size)
  have hx := hx0.since (Since.of_below hbx2)
  have d := heap_new w2 (.cells #[.int .i64 p.version, .slice sa sn sc, .slice fa fn fc] 31)
  have lt : w2.heap.size < (w2.alloc (.cells #[.int .i64 p.version, .slice sa sn sc, .slice fa fn fc] 31)).heap.size := by simp
  clear hx0 hbx2 hb2
  go_wp2_with fail
  generalize w2.alloc (.cells #[.int .i64 p.version, .slice sa sn sc, .slice fa fn fc] 31) = w3 at *
  generalize w2.heap.size = g at *
  refine (hP w3 (he.below hB3).env).mono ?_
  rintro e w4 ⟨⟨v, a2, er2, rfl, yx0⟩, hb4⟩
  obtain ⟨ysa, ysn, ysc, yfa, yfn, yfc, hv⟩ := yx0.cells
  subst hv
  have hB4 := hB3.trans (hb4.mono hB3.size)
  have hbx4 : Below w4.heap.size w4 (w4.alloc (.cells #[.int .i64 p.version, .slice ysa ysn ysc, .slice yfa yfn yfc] 31)) := (Below.refl _ _).alloc (Nat.le_refl _) _
  have hB5 := hB4.trans (hbx4.mono hB4.size)
  have yx := yx0.since (Since.of_below hbx4)
  have yd := heap_new w4 (.cells #[.int .i64 p.version, .slice ysa ysn ysc, .slice yfa yfn yfc] 31)
  have ylt : w4.heap.size < (w4.alloc (.cells #[.int .i64 p.version, .slice ysa ysn ysc, .slice yfa yfn yfc] 31)).heap.size := by simp
  have d5 := (hbx4.block g (by have := hb4.size; omega)).trans ((hb4.block g lt).trans d)
  have hx5 := (hx.since (Since.of_below hb4)).since (Since.of_below hbx4)
  have lt5 : g < (w4.alloc (.cells #[.int .i64 p.version, .slice ysa ysn ysc, .slice yfa yfn yfc] 31)).heap.size := by have := hb4.size; simp; omega
  have hgne : g ≠ w4.heap.size := by have := hb4.size; omega
  clear yx0 hbx4 hb4 hx d lt hP
  obtain ⟨q0, q1, q2, _⟩ := cells_of3 d5
  have hC := show_any hO (he.below hB5).tab hx5.any.under
  rw [hsx] at hC
  go_wp2_with fail
  generalize w4.alloc (.cells #[.int .i64 p.version, .slice ysa ysn ysc, .slice yfa yfn yfc] 31) = w5 at *
  generalize w4.heap.size = yg at *
  refine hC.mono ?_
  rintro e w6 ⟨rfl, hb6⟩
  have hB6 := hB5.trans (hb6.mono hB5.size)
  have d6 := (hb6.block g lt5).trans d5
  have yd6 := (hb6.block yg ylt).trans yd
  have hx6 := hx5.since (Since.of_below hb6)
  have yx6 := yx.since (Since.of_below hb6)
  have lt6 : g < w6.heap.size := by have := hb6.size; omega
  have ylt6 : yg < w6.heap.size := by have := hb6.size; omega
  clear hC q0 q1 q2 hx5 yx d5 yd lt5 ylt hb6
  obtain ⟨q0, q1, q2, _⟩ := cells_of3 d6
  have hC := show_any hO (he.below hB6).tab hx6.any.under
  rw [hsx] at hC
  go_wp2_with fail
  refine hC.mono ?_
  rintro e w7 ⟨rfl, hb7⟩
  have hB7 := hB6.trans (hb7.mono hB6.size)
  have d7 := (hb7.block g lt6).trans d6
  have yd7 := (hb7.block yg ylt6).trans yd6
  have hx7 := hx6.since (Since.of_below hb7)
  have yx7 := yx6.since (Since.of_below hb7)
  have lt7 : g < w7.heap.size := by have := hb7.size; omega
  have ylt7 : yg < w7.heap.size := by have := hb7.size; omega
  clear hC q0 q1 q2 hx6 yx6 d6 yd6 lt6 ylt6 hb7
  obtain ⟨q0, q1, q2, _⟩ := cells_of3 d7
  obtain ⟨z0, z1, z2, _⟩ := cells_of3 yd7
  have hS := same_any p p _ _ true (fun _ => True) _ hx7 yx7 rfl
  go_wp2_with fail
  refine hS.mono ?_
  rintro e w8 ⟨rfl, hb8⟩
  go_wp2
  go_ret
  exact ⟨rfl, hB7.trans (hb8.mono hB7.size)⟩
end Go.Proofs.YtifebbdjdllfpaaGreatDoor
/- Types within types: the statement, walked. -/
namespace Go.Proofs.YtifebbdjdllfpaaGreatDoor
open Go.RowKit
open Px (Just IsTy)
set_option linter.unusedSimpArgs false
set_option linter.unusedVariables false

/-- How the truths lie in memory. -/
def BoolsP (w : World) (ao : Option Addr) (len : Nat) : Prop := len ≤ maxLen ∧ (len = 0 ∨ ∃ g o, ao = some ⟨g, o, none⟩ ∧ g < w.heap.size ∧ ∀ i, i < len → ∃ q : Bool, w.cell? ⟨g, o + i, none⟩ = some (.bool q))
theorem Just.type {d : Nat} {y : List UInt8} (h : Just d y) : gType y = decide (d ≤ 4) := by
  unfold gType
  by_cases hd : d ≤ 4
  · rw [if_pos (h.iff.2 hd), decide_eq_true hd]
  · rw [if_neg (fun hh => hd (h.iff.1 hh)), decide_eq_false hd]
theorem no_type {y : List UInt8} (h : ¬ IsTy 4 y) : gType y = false := by unfold gType; rw [if_neg h]
theorem first_of (a : Int) : ∃ y : List UInt8, Just 1 y ∧ y.length ≤ 7 ∧ ∀ w1 : World, (Instr.index 51 (.agg #[.string ⟨#[105, 110, 116]⟩, .string ⟨#[98, 111, 111, 108]⟩, .string ⟨#[116, 101, 120, 116]⟩]) (.int .u64 ((IntKind.u64.wrap a).tmod 3))).run Tryz.prog w1 = .ok (.string ⟨y.toArray⟩) w1 := by
  have h0 : 0 ≤ IntKind.u64.wrap a := by
    rw [IntKind.wrap_u64]
    omega
  have hm : (IntKind.u64.wrap a).tmod 3 = 0 ∨ (IntKind.u64.wrap a).tmod 3 = 1 ∨ (IntKind.u64.wrap a).tmod 3 = 2 := by
    rw [Int.tmod_eq_emod_of_nonneg h0]
    omega
  rcases hm with h | h | h
  · exact ⟨[105, 110, 116], Px.Just.base (Or.inl rfl), by simp, fun w1 => by rw [h]; kernel_rfl⟩
  · exact ⟨[98, 111, 111, 108], Px.Just.base (Or.inr (Or.inl rfl)), by simp, fun w1 => by rw [h]; kernel_rfl⟩
  · exact ⟨[116, 101, 120, 116], Px.Just.base (Or.inr (Or.inr rfl)), by simp, fun w1 => by rw [h]; kernel_rfl⟩
theorem cat8_list (y : List UInt8) : ((⟨#[91]⟩ ++ ⟨y.toArray⟩ ++ ⟨#[93]⟩ : ByteArray)) = ⟨([91] ++ y ++ [93]).toArray⟩ := by
  apply ByteArray.ext
  simp [ByteArray.data_append]
theorem cat8_map (y : List UInt8) : ((⟨#[123, 116, 101, 120, 116, 58]⟩ ++ ⟨y.toArray⟩ ++ ⟨#[125]⟩ : ByteArray)) = ⟨([123, 116, 101, 120, 116, 58] ++ y ++ [125]).toArray⟩ := by
  apply ByteArray.ext
  simp [ByteArray.data_append]
theorem cat8_key (y : List UInt8) : ((⟨#[123, 98, 111, 111, 108, 58]⟩ ++ ⟨y.toArray⟩ ++ ⟨#[125]⟩ : ByteArray)) = ⟨([123, 98, 111, 111, 108, 58] ++ (y ++ [125])).toArray⟩ := by
  apply ByteArray.ext
  simp [ByteArray.data_append]
theorem cat8_two (a c : List UInt8) : ((⟨a.toArray⟩ ++ ⟨c.toArray⟩ : ByteArray)) = ⟨(a ++ c).toArray⟩ := by
  apply ByteArray.ext
  simp [ByteArray.data_append]
theorem type_l (y : List UInt8) (hy : y.length ≤ 1099511627776) (w : World) : Calls Tryz.prog 14 #[.string ⟨y.toArray⟩] w fun e w' => e = .returned (.bool (gType y)) ∧ w' = w := by
  have := stype_any ⟨y.toArray⟩ w (by show y.toArray.size ≤ maxLen; unfold maxLen; simp; omega)
  simpa only [List.toList_toArray] using this
set_option maxRecDepth 100000 in
set_option maxHeartbeats 8000000 in
theorem showtypes_walk (a : Int) (ao : Option Addr) (len cap : Nat) (j : ByteArray) (w : World) (he : Env8 w) (hW : BoolsP w ao len) (hj : j.size ≤ maxLen) :
    Calls Tryz.prog 6 #[.int .i64 a, .slice ao len cap, .string j] w fun e w' => e = .returned (.bool true) ∧ Below w.heap.size w w' := by
  have hw0 := wakes8_any w he
  obtain ⟨hlen, hrow⟩ := hW
  obtain ⟨y0, hJ0, hl0, hix⟩ := first_of a
  unfold maxLen at hlen hj
  have hjl : j = ⟨j.data.toList.toArray⟩ := by simp
  have hjn : j.data.toList.length = j.size := by simp
  have hjs : j.data.toList.length ≤ 9223372036854775807 := by omega
  clear hj hjn
  generalize j.data.toList = jl at *
  subst hjl
  go_enter Tryz.func6, Tryz.ntmps6
  go_wp2_with fail
  refine hw0.mono ?_
  rintro e w1 ⟨rfl, hB1⟩
  clear hw0
  go_wp2_with fail
  go_loopg [7, 8, 20] len (fun g sv dv i wr => ∃ (k : Nat) (y : List UInt8), k ≤ len ∧ k ≤ 6 ∧ g = len - k ∧ sv = .string ⟨y.toArray⟩ ∧ dv = .int .i64 (k + 1 : Nat) ∧ i = .int .i64 k ∧ Just (k + 1) y ∧ y.length ≤ 7 * (k + 1) ∧ wr = w1)
  case atStart => exact ⟨0, y0, by omega, by omega, rfl, rfl, rfl, rfl, hJ0, by omega, rfl⟩
  case round =>
    clear hJ0 hl0 hix
    obtain ⟨k, y, hk, hk6, rfl, rfl, rfl, rfl, hJ, hyl, rfl⟩ := hrel
    have hT := type_l y (by omega)
    rw [Just.type hJ] at hT
    have hdd : decide (((k + 1 : Nat) : Int) ≤ 4) = decide (k + 1 ≤ 4) := decide_eq_decide.2 (by omega)
    simp only [Int.natCast_add, Int.cast_ofNat_Int] at hdd
    by_cases hlt : k < len
    · have hltI : (k : Int) < (len : Int) := by omega
      rcases hrow with h | ⟨g, o, rfl, hg, hcell⟩
      · omega
      obtain ⟨q, hq⟩ := hcell k hlt
      have hq1 := (hB1.cell (p := ⟨g, o + k, none⟩) hg).trans hq
      have hg1 : g < wr.heap.size := by have := hB1.size; omega
      clear hcell hq
      by_cases h6 : 6 < k + 1
      · have h6I : (6 : Int) < (k : Int) + 1 := by omega
        simp only [Int.natCast_add, Int.cast_ofNat_Int]
        go_wp2
        go_ret
        exact ⟨rfl, hB1⟩
      have h6I : ¬ (6 : Int) < (k : Int) + 1 := by omega
      simp only [Int.natCast_add, Int.cast_ofNat_Int]
      go_wp2_with fail
      refine (hT _).mono ?_
      rintro e w2 ⟨rfl, rfl⟩
      have hq' := hJ.list
      have hq'' := hJ.map
      cases q
      · go_wp2_with fail
        rw [cat8_map]
        go_roundg (len - (k + 1))
        case measure => omega
        case rel => exact ⟨k + 1, _, by omega, by omega, rfl, rfl, by simp, by simp, hq'', by simp; omega, rfl⟩
      · go_wp2_with fail
        rw [cat8_list]
        go_roundg (len - (k + 1))
        case measure => omega
        case rel => exact ⟨k + 1, _, by omega, by omega, rfl, rfl, by simp, by simp, hq', by simp; omega, rfl⟩
    · have hltI : ¬ (k : Int) < (len : Int) := by omega
      have hB := type_l (y ++ [32]) (by simp; omega)
      rw [no_type (hJ.behind (by simp))] at hB
      have hA := type_l (32 :: y) (by simp; omega)
      rw [no_type Px.not_blank] at hA
      have hK := type_l ([123, 98, 111, 111, 108, 58] ++ (y ++ [125])) (by simp; omega)
      rw [no_type Px.not_key] at hK
      simp only [Int.natCast_add, Int.cast_ofNat_Int]
      go_wp2_with fail
      refine (hT _).mono ?_
      rintro e w2 ⟨rfl, rfl⟩
      by_cases hjj : 1024 < jl.length
      · have hjI : (1024 : Int) < (jl.length : Int) := by omega
        go_wp2
        go_ret
        exact ⟨rfl, hB1⟩
      have hjI : ¬ (1024 : Int) < (jl.length : Int) := by omega
      go_wp2_with fail
      rw [show ((⟨y.toArray⟩ ++ ⟨#[32]⟩ : ByteArray)) = ⟨(y ++ [32]).toArray⟩ from cat8_two y [32]]
      refine (hB _).mono ?_
      rintro e w3 ⟨rfl, rfl⟩
      go_wp2_with fail
      rw [show ((⟨#[32]⟩ ++ ⟨y.toArray⟩ : ByteArray)) = ⟨(32 :: y).toArray⟩ from cat8_two [32] y]
      refine (hA _).mono ?_
      rintro e w4 ⟨rfl, rfl⟩
      go_wp2_with fail
      rw [cat8_key]
      refine (hK _).mono ?_
      rintro e w5 ⟨rfl, rfl⟩
      have hyb : y.length ≤ 49 := by omega
      have hjb : jl.length ≤ 1024 := by omega
      by_cases hje : jl = []
      · subst hje
        go_wp2
        go_ret
        exact ⟨rfl, hB1⟩
      · have hQ := type_l (y ++ jl) (by simp; omega)
        rw [no_type (hJ.behind hje)] at hQ
        have hqe : ((⟨jl.toArray⟩ : ByteArray).toList == []) = false := by
          rw [ByteArray.toList_eq]
          simpa using hje
        clear hjI hjj hyl hjs hJ hk6
        go_wp2_with fail
        rw [cat8_two]
        refine (hQ _).mono ?_
        rintro e w6 ⟨rfl, rfl⟩
        go_wp2
        go_ret
        exact ⟨rfl, hB1⟩
end Go.Proofs.YtifebbdjdllfpaaGreatDoor
/- From what a row lists of the library's variables to what the walks ask: the sentinel for numbers out of range, and the table of powers of ten, lie there. -/
namespace Go.Proofs.YtifebbdjdllfpaaGreatDoor
open Go.ChangeShapes Go.WideShapes Go.ChangeAt Go.RowKit

theorem own : ownKnob Tryz.prog.godebug = none := by kernel_rfl
theorem laidOut : laidOutB Tryz.prog = true := by kernel_rfl
def laidT : List (String × DataW Unit) := Rows.showBackRow.laid
theorem door_met (os : Os) (args : Array Value) : laidMetH Tryz.prog laidT ((World.doorLaid Tryz.prog 400 os).forCall (fun _ _ => 0) ⟨#[], args, []⟩).memory :=
  laidMetH_of_parts3 (fuel := 8) (laidMet_of_run' 8 (by kernel_rfl) (by kernel_rfl)) (by kernel_rfl) (by kernel_rfl)
theorem gER : Tryz.prog.globalNamed "strconv.ErrRange" = some 2 := by kernel_rfl
theorem tER : (Tryz.prog.globals[2]?).map (·.type) = some 106 := by kernel_rfl
theorem starES : "*" ++ "errors.errorString" = "*errors.errorString" := by decide
theorem rowES : ∀ u, Tryz.prog.typeName? 3 u = some "*errors.errorString" → u = 175 := fun u h =>
  typeName_ptr_named (nm := "errors.errorString") (by rw [starES]; kernel_rfl) (by kernel_rfl) (by decide) u (by rw [starES]; exact h)
theorem gPT : Tryz.prog.globalNamed "internal/strconv.uint64pow10" = some 0 := by kernel_rfl
theorem tPT : (Tryz.prog.globals[0]?).map (·.type) = some 163 := by kernel_rfl
theorem env8_of_laid {W : World} (h : laidMetH Tryz.prog laidT W) : Env8 W := by
  rw [MakeChecks.laidMetH_plain _ _ _ (by kernel_rfl)] at h
  have h2 : laidMet Tryz.prog (("internal/strconv.uint64pow10", Lib.tabData .u64 Lib.pow10Tab) :: [("strconv.ErrRange", Rows.laid_strconv_ErrRange), ("strconv.ErrSyntax", Rows.laid_strconv_ErrSyntax)]) W := h.tail.tail
  have h3 : laidMet Tryz.prog (("strconv.ErrRange", Rows.laid_strconv_ErrRange) :: [("strconv.ErrSyntax", Rows.laid_strconv_ErrSyntax)]) W := h.tail.tail.tail
  obtain ⟨a1, s1, hv1, -, -, -⟩ := laid_sentinel h3 gER tER Tryz.underlying106 rowES Tryz.underlying175 Tryz.underlying177 rfl rfl Tryz.underlying9 (by kernel_rfl) (by kernel_rfl)
  exact ⟨⟨_, _, by have h0 := World.var?_cell gER hv1 0; simpa using h0⟩, Lib.tabIs_of_head gPT tPT Tryz.underlying163 Tryz.underlying146 (by kernel_rfl) (by kernel_rfl) h2⟩
end Go.Proofs.YtifebbdjdllfpaaGreatDoor
/- From how an argument of truths is read to what the walk of the statement on types asks. -/
namespace Go.Proofs.YtifebbdjdllfpaaGreatDoor
open Go.ChangeShapes Go.WideShapes Go.ChangeAt Go.RowKit

theorem bools_of_trod {H : Type} {enc : TypeId × Value → H} {w : World} {fuel : Nat} {t e : TypeId} {a : Option Addr} {len cap : Nat} {x : DataW H × List MemPlace}
    (ht : Tryz.prog.underlying t = some (.slice e)) (he : Tryz.prog.underlying e = some .bool) (hc : Tryz.prog.cellsOf e = 1)
    (h : DataW.trod enc Tryz.prog w 0 (fun _ => true) true fuel t [.slice a len cap] = some x) : BoolsP w a len := by
  rcases DataW.trod_slice ht h with ⟨hcs, _⟩ | ⟨y, l, c, elems, rest, n, _, hcs, rfl, hb, hl, hm, hlen, hel, hsp, hns⟩
  · simp only [List.cons.injEq, Value.slice.injEq, and_true] at hcs
    obtain ⟨rfl, rfl, rfl⟩ := hcs
    exact ⟨by unfold maxLen; omega, Or.inl rfl⟩
  · simp only [List.cons.injEq, Value.slice.injEq, and_true] at hcs
    obtain ⟨rfl, rfl, rfl⟩ := hcs
    have hcell : ∀ i, i < len → ∃ q : Bool, w.cell? (y.add i) = some (.bool q) := by
      intro i hi
      obtain ⟨z, hz⟩ : ∃ z, elems[i]? = some z := ⟨_, List.getElem?_eq_getElem (by omega)⟩
      have hb' := hel i hi
      rw [hz, hc, Nat.mul_one, Option.bind_eq_some_iff] at hb'
      obtain ⟨cs', hcs', hy'⟩ := hb'
      obtain ⟨q, rfl, _⟩ := DataW.trod_bool he hy'
      exact ⟨q, cell_of_cells?_one hcs'⟩
    refine ⟨by omega, ?_⟩
    by_cases h0 : len = 0
    · exact Or.inl h0
    · obtain ⟨b, o, sp⟩ := y
      obtain ⟨q0, hq0⟩ := hcell 0 (by omega)
      have hspn : sp = none := by simpa [Addr.add] using World.cell?_spot hq0
      subst hspn
      have e : ∀ i, (⟨b, o, none⟩ : Addr).add i = ⟨b, o + i, none⟩ := by
        intro i
        by_cases h : i = 0 <;> simp [Addr.add, h]
      refine Or.inr ⟨b, o, rfl, ?_, ?_⟩
      · rw [e] at hq0
        exact Lib.lt_of_cell hq0
      · intro i hi
        obtain ⟨q, hq⟩ := hcell i hi
        rw [e] at hq
        exact ⟨q, hq⟩
end Go.Proofs.YtifebbdjdllfpaaGreatDoor
