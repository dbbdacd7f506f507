/- Texts of ours, joined: Jb, Jc, Jd. -/
import Derived.Test.YtndahpcjkcihlaaG06
import Derived.Test.YtndahpcjkcihlaaG25
import Derived.Test.YtndahpcjkcihlaaG17
/- What an instruction may name, pops and pushes; a function's numbers: the program's. -/
namespace Go.Proofs.Ytndahpcjkcihlaa
open Go.RowKit
set_option linter.unusedVariables false
set_option linter.unusedSimpArgs false
attribute [local go_sem ↓] Go.wp_at_zero Go.wp_at_succ

def wn (x lo hi : Int) : Bool := decide (lo ≤ x) && decide (x ≤ hi)
theorem wn_iff {x lo hi : Int} : wn x lo hi = true ↔ lo ≤ x ∧ x ≤ hi := by unfold wn; simp
set_option maxRecDepth 100000 in
set_option maxHeartbeats 1000000 in
theorem within_any (x lo hi : Int) (w : World) : Calls Try.prog 36 #[.int .i64 x, .int .i64 lo, .int .i64 hi] w fun e w' => e = .returned (.bool (wn x lo hi)) ∧ w' = w := by
  by_cases h1 : lo ≤ x
  · by_cases h2 : x ≤ hi
    · have hr : wn x lo hi = true := by unfold wn; simp [h1, h2]
      rw [hr]
      go_enter Try.func36, Try.ntmps36
      go_wp2
      go_ret
      exact ⟨by simp [h1, h2], rfl⟩
    · have hr : wn x lo hi = false := by unfold wn; simp [h1, h2]
      rw [hr]
      go_enter Try.func36, Try.ntmps36
      go_wp2
      go_ret
      exact ⟨by simp [h1, h2], rfl⟩
  · have hr : wn x lo hi = false := by unfold wn; simp [h1]
    rw [hr]
    go_enter Try.func36, Try.ntmps36
    go_wp2
    go_ret
    exact ⟨by simp [h1], rfl⟩
/-- A box of eight cells. -/
theorem box8 (w : World) (x0 x1 x2 x3 x4 x5 x6 x7 : Value) (T : TypeId) : ∃ w0, w.alloc (.cells #[x0, x1, x2, x3, x4, x5, x6, x7] T) = w0 ∧ Below w.heap.size w w0 ∧ w0.heap.size = w.heap.size + 1 ∧ w0.heap[w.heap.size]? = some (.cells #[x0, x1, x2, x3, x4, x5, x6, x7] T (0, 0)) :=
  ⟨_, rfl, (Below.refl _ _).alloc (Nat.le_refl _) _, by simp, heap_new _ _⟩
theorem cells_k8 {w : World} {g : Nat} {y0 y1 y2 y3 y4 y5 y6 y7 : Value} {T : TypeId} (h : w.heap[g]? = some (.cells #[y0, y1, y2, y3, y4, y5, y6, y7] T (0, 0))) : w.cell? ⟨g, 0, none⟩ = some y0 ∧ w.cell? ⟨g, 1, none⟩ = some y1 ∧ w.cell? ⟨g, 2, none⟩ = some y2 ∧ w.cell? ⟨g, 3, none⟩ = some y3 ∧ w.cell? ⟨g, 4, none⟩ = some y4 ∧ w.cell? ⟨g, 5, none⟩ = some y5 ∧ w.cell? ⟨g, 6, none⟩ = some y6 ∧ w.cell? ⟨g, 7, none⟩ = some y7 ∧ g < w.heap.size := by
  refine ⟨?_, ?_, ?_, ?_, ?_, ?_, ?_, ?_, (Array.getElem?_eq_some_iff.1 h).1⟩
  all_goals simp [World.cell?, h]
def pshL (op : Int) : Int := if op == 3 || op == 5 || op == 6 || op == 7 || op == 8 || op == 10 || op == 11 then 0 else 1
theorem pshL_eq {op : Int} (h1 : 1 ≤ op) (h2 : op ≤ 21) : pshL op = psh op := by
  have : op = 1 ∨ op = 2 ∨ op = 3 ∨ op = 4 ∨ op = 5 ∨ op = 6 ∨ op = 7 ∨ op = 8 ∨ op = 9 ∨ op = 10 ∨ op = 11 ∨ op = 12 ∨ op = 13 ∨ op = 14 ∨ op = 15 ∨ op = 16 ∨ op = 17 ∨ op = 18 ∨ op = 19 ∨ op = 20 ∨ op = 21 := by omega
  rcases this with rfl | rfl | rfl | rfl | rfl | rfl | rfl | rfl | rfl | rfl | rfl | rfl | rfl | rfl | rfl | rfl | rfl | rfl | rfl | rfl | rfl <;> rfl
set_option maxRecDepth 100000 in
set_option maxHeartbeats 4000000 in
theorem lpushes_any (op : Int) (w : World) : Calls Try.prog 70 #[.int .i64 op] w fun e w' => e = .returned (.int .i64 (pshL op)) ∧ w' = w := by
  obtain ⟨r, hr⟩ : ∃ r, Hid (pshL op = r) := ⟨_, rfl⟩
  rw [hr.out]
  go_enter Try.func70, Try.ntmps70
  go_wp2
  all_goals (try go_ret)
  all_goals (refine ⟨?_, rfl⟩; rw [← hr.out]; unfold pshL; simp_all)
set_option maxRecDepth 100000 in
set_option maxHeartbeats 4000000 in
theorem lpops_other {f : Fu} {cd bl : Value} {nc st : Int} {fs : List Fu} {i : In} {w : World} (h9 : (i.op == 9) = false) : Calls Try.prog 69 #[.agg #[.int .i64 f.params, .int .i64 f.locals, .int .i64 f.zero, .int .i64 f.stack, cd, .int .i64 nc, .int .i64 st, bl], .agg #[.int .i64 i.op, .int .i64 i.a]] w fun e w' => e = .returned (.int .i64 (popN fs i)) ∧ Below w.heap.size w w' := by
  obtain ⟨w0, hW0, hb0, hl0, hx0⟩ := box8 w (.int .i64 f.params) (.int .i64 f.locals) (.int .i64 f.zero) (.int .i64 f.stack) cd (.int .i64 nc) (.int .i64 st) bl 68
  obtain ⟨w1, hW, hb, hl, hx⟩ := box2 w0 (.int .i64 i.op) (.int .i64 i.a) 46
  obtain ⟨c0, c1, -, -, hlt⟩ := cells_k2 hx
  have hB : Below w.heap.size w w1 := hb0.trans (hb.mono (by omega))
  obtain ⟨r, hr⟩ : ∃ r, Hid (popN fs i = r) := ⟨_, rfl⟩
  rw [hr.out]
  obtain ⟨op, a⟩ := i
  simp only at *
  clear hx hl hx0 hl0
  go_enter Try.func69, Try.ntmps69
  go_wp2
  all_goals (try go_ret)
  all_goals (refine ⟨?_, hB⟩; rw [← hr.out]; unfold popN pop1 pop2; simp_all)
set_option maxRecDepth 100000 in
set_option maxHeartbeats 4000000 in
theorem lpops_call {B : Nat → Prop} {fs : List Fu} {f0 : Fu} {cd : Value} {nc st : Int} {af : Option Addr} {cf : Nat} {i : In} {w : World} {n : Nat} {f : Fu} (hm : IsFus B w fs (.slice af fs.length cf)) (h9 : i.op = 9) (hn : i.a = (n : Int)) (hf : fs[n]? = some f) : Calls Try.prog 69 #[.agg #[.int .i64 f0.params, .int .i64 f0.locals, .int .i64 f0.zero, .int .i64 f0.stack, cd, .int .i64 nc, .int .i64 st, .slice af fs.length cf], .agg #[.int .i64 i.op, .int .i64 i.a]] w fun e w' => e = .returned (.int .i64 (popN fs i)) ∧ Below w.heap.size w w' := by
  obtain ⟨w0, hW0, hb0, hl0, hx0⟩ := box8 w (.int .i64 f0.params) (.int .i64 f0.locals) (.int .i64 f0.zero) (.int .i64 f0.stack) cd (.int .i64 nc) (.int .i64 st) (.slice af fs.length cf) 68
  obtain ⟨w1, hW, hb, hl, hx⟩ := box2 w0 (.int .i64 i.op) (.int .i64 i.a) 46
  obtain ⟨c0, c1, -, -, hlt⟩ := cells_k2 hx
  obtain ⟨-, -, -, -, -, -, -, d7, hlt0⟩ := cells_k8 ((hb.block _ (by omega)).trans hx0)
  have hB : Below w.heap.size w w1 := hb0.trans (hb.mono (by omega))
  obtain ⟨g, o, ac, cc, rfl, -, hg, e0, -⟩ := (hm.since (Since.of_below hB)).get hf
  have hr : popN fs i = f.params := by
    unfold popN pop1 pop2
    rw [h9, hn]
    simp [hf]
  rw [hr]
  have hnl := (List.getElem?_eq_some_iff.1 hf).1
  have hI : (n : Int) < (fs.length : Int) := by omega
  have h0 : (0 : Int) ≤ (n : Int) := by omega
  rw [h9] at c0
  rw [hn] at c1
  rw [h9, hn] at hW
  rw [h9, hn]
  clear hx hl hx0 hl0 hr hf hm hnl h9 hn
  go_enter Try.func69, Try.ntmps69
  go_wp2
  go_ret
  exact ⟨rfl, hB⟩
def enHi (nc : Nat) (states : Int) (n : Nat) (f : Fu) (op : Int) : Int :=
  if op == 1 then nc - 1 else if op == 2 || op == 3 then f.locals - 1 else if op == 4 || op == 5 then states - 1 else if op == 7 || op == 8 then f.code.length - 1
  else if op == 9 then n - 1 else if op == 11 then 1099511627776 else if op == 12 then 13 else if op == 6 || op == 10 || op == 13 || op == 14 || op == 15 || op == 16 || op == 17 || op == 18 || op == 19 || op == 20 || op == 21 then 0 else -1
theorem en_inB {nc : Nat} {states : Int} {n : Nat} {f : Fu} {i : In} : wn i.a (inLow i.op) (enHi nc states n f i.op) = inB nc states n f i := by
  obtain ⟨op, a⟩ := i
  rw [Bool.eq_iff_iff, wn_iff]
  show _ ↔ InOk nc states n f ⟨op, a⟩
  rw [inOk_iff]
  show inLow op ≤ a ∧ a ≤ enHi nc states n f op ↔ 1 ≤ op ∧ op ≤ 21 ∧ inLow op ≤ a ∧ a < inTop nc states n f op
  by_cases h : 1 ≤ op ∧ op ≤ 21
  · obtain ⟨h1, h2⟩ := h
    have h3 : enHi nc states n f op = inTop nc states n f op - 1 := by
      have : op = 1 ∨ op = 2 ∨ op = 3 ∨ op = 4 ∨ op = 5 ∨ op = 6 ∨ op = 7 ∨ op = 8 ∨ op = 9 ∨ op = 10 ∨ op = 11 ∨ op = 12 ∨ op = 13 ∨ op = 14 ∨ op = 15 ∨ op = 16 ∨ op = 17 ∨ op = 18 ∨ op = 19 ∨ op = 20 ∨ op = 21 := by omega
      unfold enHi inTop
      rcases this with rfl | rfl | rfl | rfl | rfl | rfl | rfl | rfl | rfl | rfl | rfl | rfl | rfl | rfl | rfl | rfl | rfl | rfl | rfl | rfl | rfl <;> simp
    rw [h3]
    omega
  · have h3 : enHi nc states n f op = -1 := by
      unfold enHi
      repeat' split
      all_goals (try simp_all)
      all_goals omega
    have h4 : 0 ≤ inLow op := by unfold inLow; split <;> omega
    rw [h3]
    omega
set_option maxRecDepth 100000 in
set_option maxHeartbeats 8000000 in
theorem ends_any {f : Fu} {ak af : Option Addr} {ck cf nc n : Nat} {states : Int} (hk : f.code.length ≤ 900000) (hl : 0 ≤ f.locals ∧ f.locals ≤ 256) (hnc : nc ≤ 900000) (hn : n ≤ 900000) (hst : 0 ≤ states ∧ states ≤ 32) (op : Int) (w : World) : Calls Try.prog 66 #[.agg #[.int .i64 f.params, .int .i64 f.locals, .int .i64 f.zero, .int .i64 f.stack, .slice ak f.code.length ck, .int .i64 nc, .int .i64 states, .slice af n cf], .int .i64 op] w fun e w' => e = .returned (.tuple #[.int .i64 (inLow op), .int .i64 (enHi nc states n f op)]) ∧ Below w.heap.size w w' := by
  obtain ⟨w0, hW0, hb0, hl0, hx0⟩ := box8 w (.int .i64 f.params) (.int .i64 f.locals) (.int .i64 f.zero) (.int .i64 f.stack) (.slice ak f.code.length ck) (.int .i64 nc) (.int .i64 states) (.slice af n cf) 68
  obtain ⟨d0, d1, d2, d3, d4, d5, d6, d7, hlt0⟩ := cells_k8 hx0
  obtain ⟨r1, hr1⟩ : ∃ r, Hid (inLow op = r) := ⟨_, rfl⟩
  obtain ⟨r2, hr2⟩ : ∃ r, Hid (enHi nc states n f op = r) := ⟨_, rfl⟩
  rw [hr1.out, hr2.out]
  obtain ⟨l1, l2⟩ := hl
  obtain ⟨s1, s2⟩ := hst
  clear hx0 hl0 d0 d2 d3
  go_enter Try.func66, Try.ntmps66
  go_wp2
  all_goals (try go_region_held3 (fun w' => w'.cell? ⟨w.heap.size, 1, none⟩ = some (.int .i64 f.locals) ∧ w'.cell? ⟨w.heap.size, 4, none⟩ = some (.slice ak f.code.length ck) ∧ w'.cell? ⟨w.heap.size, 5, none⟩ = some (.int .i64 nc) ∧ w'.cell? ⟨w.heap.size, 6, none⟩ = some (.int .i64 states) ∧ w'.cell? ⟨w.heap.size, 7, none⟩ = some (.slice af n cf)) (go_keep) (fail))
  all_goals (try go_wp2)
  all_goals (try go_ret2)
  all_goals (refine ⟨?_, by first | exact hb0 | exact hb0.drew⟩; rw [← hr1.out, ← hr2.out]; clear hr1 hr2 hW0 hb0 d1 d4 d5 d6 d7; unfold inLow enHi; simp_all <;> (rw [IntKind.wrap_i64]; omega))
end Go.Proofs.Ytndahpcjkcihlaa
/- A function's numbers and instructions: the program's. -/
namespace Go.Proofs.Ytndahpcjkcihlaa
open Go.RowKit
set_option linter.unusedVariables false
set_option linter.unusedSimpArgs false
attribute [local go_sem ↓] Go.wp_at_zero Go.wp_at_succ

noncomputable def numB (nc : Nat) (f : Fu) : Bool := @decide (NumOk nc f) (Classical.propDecidable _)
theorem numB_iff {nc : Nat} {f : Fu} : numB nc f = true ↔ NumOk nc f := by unfold numB; simp
theorem numB_not {nc : Nat} {f : Fu} (h : ¬ NumOk nc f) : numB nc f = false := by
  cases e : numB nc f with
  | false => rfl
  | true => exact absurd (numB_iff.1 e) h
set_option maxRecDepth 100000 in
set_option maxHeartbeats 8000000 in
theorem framed_any {f : Fu} {ak af : Option Addr} {ck cf nc n : Nat} {states : Int} (hk : f.code.length ≤ 900000) (hnc : nc ≤ 900000) (w : World) : Calls Try.prog 39 #[.agg #[.int .i64 f.params, .int .i64 f.locals, .int .i64 f.zero, .int .i64 f.stack, .slice ak f.code.length ck, .int .i64 nc, .int .i64 states, .slice af n cf]] w fun e w' => e = .returned (.bool (numB nc f)) ∧ Below w.heap.size w w' := by
  obtain ⟨w0, hW0, hb0, hl0, hx0⟩ := box8 w (.int .i64 f.params) (.int .i64 f.locals) (.int .i64 f.zero) (.int .i64 f.stack) (.slice ak f.code.length ck) (.int .i64 nc) (.int .i64 states) (.slice af n cf) 68
  obtain ⟨d0, d1, d2, d3, d4, d5, d6, d7, hlt0⟩ := cells_k8 hx0
  obtain ⟨r, hr⟩ : ∃ r, Hid (numB nc f = r) := ⟨_, rfl⟩
  rw [hr.out]
  have hno : ¬ NumOk nc f → (Ending.returned (.bool false) = Ending.returned (.bool r) ∧ Below w.heap.size w w0) := fun h => ⟨by rw [← hr.out, numB_not h], hb0⟩
  have hw1 : IntKind.i64.wrap ((nc : Int) - 1) = (nc : Int) - 1 := by rw [IntKind.wrap_i64]; omega
  have hC1 := within_any f.params 0 8 w0
  have hC2 := within_any f.locals f.params 256 w0
  have hC3 := within_any f.zero 0 ((nc : Int) - 1) w0
  have hC4 := within_any f.stack 1 256 w0
  have hC5 := within_any (f.code.length : Int) 1 16384 w0
  clear hx0 hl0
  cases h1 : wn f.params 0 8 with
  | false =>
    have hpost := hno (fun h => by have := (Bool.eq_false_iff.1 h1); rw [Ne, wn_iff] at this; unfold NumOk at h; omega)
    rw [h1] at hC1
    clear hno hC2 hC3 hC4 hC5 h1 hr hk
    go_enter Try.func39, Try.ntmps39
    go_wp2_with (refine hC1.mono ?_; rintro e w1 ⟨rfl, rfl⟩)
    go_ret
    exact hpost
  | true =>
  rw [h1] at hC1
  cases h2 : wn f.locals f.params 256 with
  | false =>
    have hpost := hno (fun h => by have := (Bool.eq_false_iff.1 h2); rw [Ne, wn_iff] at this; unfold NumOk at h; omega)
    rw [h2] at hC2
    clear hno hC3 hC4 hC5 h1 h2 hr hk
    go_enter Try.func39, Try.ntmps39
    go_wp2_with (first | (refine hC1.mono ?_; rintro e w1 ⟨rfl, rfl⟩; clear hC1) | (refine hC2.mono ?_; rintro e w1 ⟨rfl, rfl⟩))
    go_ret
    exact hpost
  | true =>
  rw [h2] at hC2
  cases h3 : wn f.zero 0 ((nc : Int) - 1) with
  | false =>
    have hpost := hno (fun h => by have := (Bool.eq_false_iff.1 h3); rw [Ne, wn_iff] at this; unfold NumOk at h; omega)
    rw [h3] at hC3
    clear hno hC4 hC5 h1 h2 h3 hr hk
    go_enter Try.func39, Try.ntmps39
    go_wp2_with (first | (refine hC1.mono ?_; rintro e w1 ⟨rfl, rfl⟩; clear hC1) | (refine hC2.mono ?_; rintro e w1 ⟨rfl, rfl⟩; clear hC2) | (refine hC3.mono ?_; rintro e w1 ⟨rfl, rfl⟩; clear hC3))
    go_ret
    exact hpost
  | true =>
  rw [h3] at hC3
  cases h4 : wn f.stack 1 256 with
  | false =>
    have hpost := hno (fun h => by have := (Bool.eq_false_iff.1 h4); rw [Ne, wn_iff] at this; unfold NumOk at h; omega)
    rw [h4] at hC4
    clear hno hC5 h1 h2 h3 h4 hr hk
    go_enter Try.func39, Try.ntmps39
    go_wp2_with (first | (refine hC1.mono ?_; rintro e w1 ⟨rfl, rfl⟩; clear hC1) | (refine hC2.mono ?_; rintro e w1 ⟨rfl, rfl⟩; clear hC2) | (refine hC3.mono ?_; rintro e w1 ⟨rfl, rfl⟩; clear hC3) | (refine hC4.mono ?_; rintro e w1 ⟨rfl, rfl⟩; clear hC4))
    go_ret
    exact hpost
  | true =>
  rw [h4] at hC4
  have hpost : Ending.returned (.bool (wn (f.code.length : Int) 1 16384)) = Ending.returned (.bool r) ∧ Below w.heap.size w w0 := by
    refine ⟨?_, hb0⟩
    rw [← hr.out]
    refine ret_bool ?_
    rw [wn_iff] at h1 h2 h3 h4
    rw [Bool.eq_iff_iff, wn_iff, numB_iff]
    unfold NumOk
    omega
  clear hno h1 h2 h3 h4 hr hk
  go_enter Try.func39, Try.ntmps39
  go_wp2_with (first | (refine hC1.mono ?_; rintro e w1 ⟨rfl, rfl⟩; clear hC1) | (refine hC2.mono ?_; rintro e w1 ⟨rfl, rfl⟩; clear hC2) | (refine hC3.mono ?_; rintro e w1 ⟨rfl, rfl⟩; clear hC3) | (refine hC4.mono ?_; rintro e w1 ⟨rfl, rfl⟩; clear hC4) | (refine hC5.mono ?_; rintro e w1 ⟨rfl, rfl⟩; clear hC5))
  go_ret
  exact hpost
/-- What is asked of all instructions. -/
noncomputable def insB (nc : Nat) (states : Int) (n : Nat) (f : Fu) : Bool := @decide (∀ i ∈ f.code, InOk nc states n f i) (Classical.propDecidable _)
theorem insB_iff {nc : Nat} {states : Int} {n : Nat} {f : Fu} : insB nc states n f = true ↔ ∀ i ∈ f.code, InOk nc states n f i := by unfold insB; simp
theorem insB_not {nc : Nat} {states : Int} {n : Nat} {f : Fu} {i : In} (hi : i ∈ f.code) (h : inB nc states n f i = false) : insB nc states n f = false := by
  cases e : insB nc states n f with
  | false => rfl
  | true =>
    have := insB_iff.1 e i hi
    unfold InOk at this
    rw [h] at this
    cases this
set_option maxRecDepth 100000 in
set_option maxHeartbeats 8000000 in
theorem fine_any {B : Nat → Prop} {f : Fu} {ak af : Option Addr} {ck cf nc n : Nat} {states : Int} {w : World} (hf : IsFn B w f (.slice ak f.code.length ck)) (hk : f.code.length ≤ 900000) (hl : 0 ≤ f.locals ∧ f.locals ≤ 256) (hnc : nc ≤ 900000) (hn : n ≤ 900000) (hst : 0 ≤ states ∧ states ≤ 32) : Calls Try.prog 40 #[.agg #[.int .i64 f.params, .int .i64 f.locals, .int .i64 f.zero, .int .i64 f.stack, .slice ak f.code.length ck, .int .i64 nc, .int .i64 states, .slice af n cf]] w fun e w' => e = .returned (.bool (insB nc states n f)) ∧ Below w.heap.size w w' := by
  obtain ⟨w0, hW0, hb0, hl0, hx0⟩ := box8 w (.int .i64 f.params) (.int .i64 f.locals) (.int .i64 f.zero) (.int .i64 f.stack) (.slice ak f.code.length ck) (.int .i64 nc) (.int .i64 states) (.slice af n cf) 68
  obtain ⟨d0, d1, d2, d3, d4, d5, d6, d7, hlt0⟩ := cells_k8 hx0
  obtain ⟨r, hr⟩ : ∃ r, Hid (insB nc states n f = r) := ⟨_, rfl⟩
  rw [hr.out]
  have hE := fun (op : Int) (w : World) => ends_any (f := f) (ak := ak) (af := af) (ck := ck) (cf := cf) hk hl hnc hn hst op w
  have hcell : ∀ wr, Below w0.heap.size w0 wr → wr.heap[w.heap.size]? = some (.cells #[.int .i64 f.params, .int .i64 f.locals, .int .i64 f.zero, .int .i64 f.stack, .slice ak f.code.length ck, .int .i64 nc, .int .i64 states, .slice af n cf] 68 (0, 0)) := fun wr hb => (hb.block _ hlt0).trans hx0
  clear hx0 hl0
  go_enter Try.func40, Try.ntmps40
  go_wp2_with fail
  clear d0 d1 d2 d3 d4 d5 d6 d7 hW0
  go_loopg [11] f.code.length (fun gk i wr => ∃ j : Nat, j ≤ f.code.length ∧ gk = f.code.length - j ∧ i = .int .i64 j ∧ Hid (Below w0.heap.size w0 wr ∧ ∀ (k : Nat) i, k < j → f.code[k]? = some i → InOk nc states n f i))
  case atStart => exact ⟨0, Nat.zero_le _, rfl, rfl, Below.refl _ _, fun k i hk => by omega⟩
  case round =>
    obtain ⟨j, hj, rfl, rfl, HI⟩ := hrel
    have hBj := HI.out.1
    have Hin : Hid (∀ (k : Nat) i, k < j → f.code[k]? = some i → InOk nc states n f i) := HI.out.2
    clear HI
    have hBw : Below w.heap.size w wr := hb0.trans (hBj.mono hb0.size)
    by_cases hjlt : j < f.code.length
    · have hjI : (j : Int) < (f.code.length : Int) := by omega
      have hj0 : (0 : Int) ≤ (j : Int) := by omega
      obtain ⟨i, hi⟩ : ∃ i, f.code[j]? = some i := ⟨_, List.getElem?_eq_getElem hjlt⟩
      obtain ⟨gc, oc, hak, -, hgc, ci0, ci1, -, -⟩ := ((hf.below hBw).code).get hi
      subst hak
      obtain ⟨wz, wi, hWz, hWi, hbz, hbi, -, hxi, hz⟩ := zibox wr (.int .i64 i.op) (.int .i64 i.a)
      obtain ⟨z0, z1, y0, y1, hlz⟩ := cells_k2 hz
      obtain ⟨u0, u1, -, -, hli⟩ := cells_k2 hxi
      have hBji : Below w0.heap.size w0 wi := hBj.trans (hbi.mono hBj.size)
      obtain ⟨e0, e1, e2, e3, e4, e5, e6, e7, hle⟩ := cells_k8 (hcell wi hBji)
      have hF := hE i.op wi
      have hii : Hid (f.code[j]? = some i) := hi
      clear hi hz hf hE
      go_wp2_with fail
      refine hF.mono ?_
      rintro e w3 ⟨rfl, hb3⟩
      have hBj3 : Below w0.heap.size w0 w3 := hBji.trans (hb3.mono hBji.size)
      have hBw3 : Below w.heap.size w w3 := hb0.trans (hBj3.mono hb0.size)
      obtain ⟨v0, v1, -, -, hlv⟩ := cells_k2 ((hb3.block _ hli).trans hxi)
      have hG := within_any i.a (inLow i.op) (enHi nc states n f i.op) w3
      rw [en_inB] at hG
      clear hF hWz hWi z0 z1 y0 y1 u0 u1 ci0 ci1 e0 e1 e2 e3 e4 e5 e6 e7 hxi hcell
      generalize inLow i.op = lo at *
      generalize enHi nc states n f i.op = hi at *
      go_wp2_with fail
      refine hG.mono ?_
      rintro e w4 ⟨rfl, rfl⟩
      clear hG v0 v1
      cases hib : inB nc states n f i with
      | false =>
        have hpost : Ending.returned (.bool false) = Ending.returned (.bool r) ∧ Below w.heap.size w w4 := ⟨by rw [← hr.out, insB_not (List.mem_of_getElem? hii.out) hib], hBw3⟩
        clear hBj hBji hBj3 hBw3 Hin hii hib
        go_wp2
        go_ret
        exact hpost
      | true =>
        have hnew : Hid (Below w0.heap.size w0 w4 ∧ ∀ (k : Nat) i, k < j + 1 → f.code[k]? = some i → InOk nc states n f i) := ⟨hBj3, fun k i' hk hi' => by
          by_cases e : k = j
          · subst e
            rw [hii.out] at hi'
            cases hi'
            exact hib
          · exact Hin.out k i' (by omega) hi'⟩
        clear hBj hBji hBj3 hBw3 Hin hii hib
        go_wp2_with fail
        go_roundg (f.code.length - (j + 1))
        case measure => omega
        case rel => exact ⟨j + 1, by omega, rfl, by go_num, hnew⟩
    · have hjI : ¬ (j : Int) < (f.code.length : Int) := by omega
      have hall : insB nc states n f = true := insB_iff.2 fun i hi => by
        obtain ⟨k, hk⟩ := List.mem_iff_getElem?.1 hi
        exact Hin.out k i (by have := (List.getElem?_eq_some_iff.1 hk).1; omega) hk
      have hpost : Ending.returned (.bool true) = Ending.returned (.bool r) ∧ Below w.heap.size w wr := ⟨by rw [← hr.out, hall], hBw⟩
      clear hf hE hcell Hin hBj hall hr
      go_wp2
      go_ret
      exact hpost
end Go.Proofs.Ytndahpcjkcihlaa
/- Places come to, with their heights: the program's. -/
namespace Go.Proofs.Ytndahpcjkcihlaa
open Go.RowKit
set_option linter.unusedVariables false
set_option linter.unusedSimpArgs false
attribute [local go_sem ↓] Go.wp_at_zero Go.wp_at_succ

/-- The blocks of G are as they were. -/
structure Fr (G : Nat → Prop) (w w' : World) : Prop where
  os : w'.os = w.os
  tape : w'.tape = w.tape
  output : w'.output = w.output
  size : w.heap.size ≤ w'.heap.size
  block : ∀ k, G k → k < w.heap.size → w'.heap[k]? = w.heap[k]?
theorem Fr.refl (G : Nat → Prop) (w : World) : Fr G w w := ⟨rfl, rfl, rfl, Nat.le_refl _, fun _ _ _ => rfl⟩
theorem Fr.trans {G : Nat → Prop} {w w1 w2 : World} (a : Fr G w w1) (b : Fr G w1 w2) : Fr G w w2 := ⟨b.os.trans a.os, b.tape.trans a.tape, b.output.trans a.output, Nat.le_trans a.size b.size, fun k h1 h2 => (b.block k h1 (Nat.lt_of_lt_of_le h2 a.size)).trans (a.block k h1 h2)⟩
theorem Fr.of_below {G : Nat → Prop} {w w' : World} (h : Below w.heap.size w w') : Fr G w w' := ⟨h.os, h.tape, h.output, h.size, fun k _ h1 => h.block k h1⟩
theorem Fr.below {G : Nat → Prop} {w w' : World} (h : Fr G w w') {n : Nat} (hn : n ≤ w.heap.size) (hG : ∀ k, k < n → G k) : Below n w w' := ⟨h.os, h.tape, h.output, h.size, fun k hk => h.block k (hG k hk) (by omega)⟩
theorem Fr.mono {G G' : Nat → Prop} {w w' : World} (h : Fr G w w') (hG : ∀ k, G' k → G k) : Fr G' w w' := ⟨h.os, h.tape, h.output, h.size, fun k hk => h.block k (hG k hk)⟩
theorem Fr.set {G : Nat → Prop} {w : World} {g : Nat} (hg : ¬ G g) (o : Nat) (x : Value) : Fr G w (w.setCell ⟨g, o, none⟩ x) := ⟨rfl, rfl, rfl, by simp [World.setCell], fun k hk _ => Below.heap_setCell _ _ _ _ (by rintro rfl; exact hg hk)⟩
theorem Fr.grown {G : Nat → Prop} {w w' : World} {row : Option Nat} (hg : w.grownBy w' row) (hr : ∀ k, row = some k → ¬ G k) : Fr G w w' := ⟨hg.os, hg.tape, hg.output, hg.size, fun k hk h1 => hg.block k h1 (fun e => hr k e.symm hk)⟩
abbrev tI (td : List Nat) : List Int := td.map fun (n : Nat) => (n : Int)
theorem tI_len (td : List Nat) : (tI td).length = td.length := List.length_map _
/-- The walk's box at p, its heights at gh, what is to be looked at. -/
structure Wk (G : Nat → Prop) (p gh : Nat) (hs : List Int) (td : List Nat) (w : World) : Prop where
  hk : Ints w gh hs
  bx : ∃ tv, w.heap[p]? = some (.cells #[.slice (some ⟨gh, 0, none⟩) hs.length hs.length, tv] 95 (0, 0)) ∧ IRow 0 w tv (tI td) ∧ tv.ownBlock ≠ some p ∧ tv.ownBlock ≠ some gh ∧ ∀ k, tv.ownBlock = some k → ¬ G k
  np : ¬ G p
  ng : ¬ G gh
  pg : p ≠ gh
  gb : ∀ k, G k → k < w.heap.size
theorem Wk.keep {G : Nat → Prop} {p gh : Nat} {hs : List Int} {td : List Nat} {w w' : World} (h : Wk G p gh hs td w) (hb : Below w.heap.size w w') : Wk G p gh hs td w' := by
  obtain ⟨tv, b1, b2, b3, b4, b5⟩ := h.bx
  exact ⟨h.hk.keep (hb.block _ (Array.getElem?_eq_some_iff.1 h.hk).1), ⟨tv, (hb.block _ (Array.getElem?_eq_some_iff.1 b1).1).trans b1, b2.since (fun j hj => hb.block j (b2.lt hj).2), b3, b4, b5⟩, h.np, h.ng, h.pg, fun k hk => Nat.lt_of_lt_of_le (h.gb k hk) hb.size⟩
/-- One block more that stays. -/
theorem Wk.more {G : Nat → Prop} {p gh : Nat} {hs : List Int} {td : List Nat} {w w' : World} (h : Wk G p gh hs td w) (hb : Below w.heap.size w w') {b : Nat} (h1 : w.heap.size ≤ b) (h2 : b < w'.heap.size) : Wk (fun k => G k ∨ k = b) p gh hs td w' := by
  have h' := h.keep hb
  obtain ⟨tv, b1, b2, b3, b4, b5⟩ := h.bx
  obtain ⟨tv', c1, c2, c3, c4, c5⟩ := h'.bx
  have l1 := (Array.getElem?_eq_some_iff.1 b1).1
  have l2 := (Array.getElem?_eq_some_iff.1 h.hk).1
  have e : tv' = tv := by
    rw [(hb.block _ l1).trans b1] at c1
    simp only [Option.some.injEq, Obj.cells.injEq, Array.mk.injEq, List.cons.injEq] at c1
    exact c1.1.2.1.symm
  subst e
  refine ⟨h'.hk, ⟨tv', c1, c2, c3, c4, fun k hk => ?_⟩, ?_, ?_, h.pg, ?_⟩
  · rintro (hG | rfl)
    · exact c5 k hk hG
    · have := (b2.lt hk).2; omega
  · rintro (hG | rfl)
    · exact h.np hG
    · omega
  · rintro (hG | rfl)
    · exact h.ng hG
    · omega
  · rintro k (hG | rfl)
    · exact h'.gb k hG
    · exact h2
theorem Wk.less {G G' : Nat → Prop} {p gh : Nat} {hs : List Int} {td : List Nat} {w : World} (h : Wk G p gh hs td w) (hG : ∀ k, G' k → G k) : Wk G' p gh hs td w := by
  obtain ⟨tv, b1, b2, b3, b4, b5⟩ := h.bx
  exact ⟨h.hk, ⟨tv, b1, b2, b3, b4, fun k hk hg => b5 k hk (hG k hg)⟩, fun hg => h.np (hG _ hg), fun hg => h.ng (hG _ hg), h.pg, fun k hk => h.gb k (hG k hk)⟩
set_option maxRecDepth 100000 in
set_option maxHeartbeats 1000000 in
theorem height_any {G : Nat → Prop} {p gh : Nat} {hs : List Int} {td : List Nat} {w : World} (h : Wk G p gh hs td w) (hlen : hs.length ≤ 900000) {q : Nat} {y : Int} (hy : hs[q]? = some y) (h0 : 0 ≤ y ∧ y ≤ 1000) : Calls Try.prog 68 #[.pointer (some ⟨p, 0, none⟩), .int .i64 q] w fun e w' => e = .returned (.int .i64 (y - 1)) ∧ w' = w := by
  obtain ⟨tv, b1, b2, b3, b4, b5⟩ := h.bx
  obtain ⟨c0, c1, -, -, hlp⟩ := cells_k2 b1
  obtain ⟨k0, k1, k2⟩ := h.hk.get hy
  have hql := (List.getElem?_eq_some_iff.1 hy).1
  have hI : (q : Int) < (hs.length : Int) := by omega
  have hq0 : (0 : Int) ≤ (q : Int) := by omega
  obtain ⟨l0, l1⟩ := h0
  have hw : IntKind.i64.wrap (y - 1) = y - 1 := by rw [IntKind.wrap_i64]; omega
  clear b1 b2 b3 b4 b5 h hy
  go_enter Try.func68, Try.ntmps68
  go_wp2
  go_ret
  exact ⟨rfl, rfl⟩
end Go.Proofs.Ytndahpcjkcihlaa
