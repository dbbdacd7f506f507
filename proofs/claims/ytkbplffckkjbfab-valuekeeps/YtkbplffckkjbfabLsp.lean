/- spoil: the statement's: it writes over what a value holds, and nothing else. -/
import Derived.Test.YtkbplffckkjbfabVz
import Derived.Deep.LoopGhost
import Derived.Deep.RegionWith
import Derived.Deep.RegionHeld3
namespace Go.Proofs.Ytkbplffckkjbfab
open Go.RowKit
set_option linter.unusedVariables false
set_option linter.unusedSimpArgs false

/-- Only blocks of P are turned, and lists there stay lists. -/
structure Spo (P : Nat → Prop) (w w' : World) : Prop where
  os : w'.os = w.os
  tape : w'.tape = w.tape
  output : w'.output = w.output
  size : w.heap.size ≤ w'.heap.size
  block : ∀ k, k < w.heap.size → ¬ P k → w'.heap[k]? = w.heap[k]?
  lists : ∀ n sl, Wf P n w sl → Wf P n w' sl
theorem Spo.refl (P : Nat → Prop) (w : World) : Spo P w w := ⟨rfl, rfl, rfl, Nat.le_refl _, fun _ _ _ => rfl, fun _ _ h => h⟩
theorem Spo.trans {P : Nat → Prop} {w w1 w2 : World} (a : Spo P w w1) (b : Spo P w1 w2) : Spo P w w2 :=
  ⟨b.os.trans a.os, b.tape.trans a.tape, b.output.trans a.output, Nat.le_trans a.size b.size, fun k h1 h2 => (b.block k (Nat.lt_of_lt_of_le h1 a.size) h2).trans (a.block k h1 h2), fun n sl h => b.lists n sl (a.lists n sl h)⟩
theorem Spo.of_below {P : Nat → Prop} {w w' : World} (h : Below w.heap.size w w') : Spo P w w' := ⟨h.os, h.tape, h.output, h.size, fun k h1 _ => h.block k h1, fun n sl hw => hw.below h⟩
/-- Seen from blocks that P does not name. -/
theorem Spo.below {P : Nat → Prop} {w w' : World} (h : Spo P w w') {m : Nat} (hm : m ≤ w.heap.size) (hP : ∀ k, P k → m ≤ k) : Below m w w' := ⟨h.os, h.tape, h.output, h.size, fun k hk => h.block k (by omega) (fun hp => by have := hP k hp; omega)⟩
theorem Spo.since {P B : Nat → Prop} {w w' : World} (h : Spo P w w') (hB : ∀ k, B k → ¬ P k) : Since B w w' := ⟨h.size, fun k h1 h2 => h.block k h2 (hB k h1)⟩
theorem spo_over {P : Nat → Prop} {w : World} {g j : Nat} {arr0 : Array Value} (hg : P g) (hblk : w.heap[g]? = some (.cells arr0 24 (0, 0))) (hj : j * 4 + 4 ≤ arr0.size) {a b : Int} {s : ByteArray} {cap0 : Nat} (hc0 : cap0 ≤ maxLen) {ao0 : Option Addr} : Spo P w (set4At w g (j * 4) (.int .i64 a) (.int .i64 b) (.string s) (.slice ao0 0 cap0)) :=
  ⟨rfl, rfl, rfl, by rw [set4At_size]; exact Nat.le_refl _, fun k _ hk => set4At_other (fun e => hk (by rw [e]; exact hg)) _ _ _ _ _, fun n sl h => Wf.over hblk hj hc0 h⟩
/-- The cells of a box with whatever. -/
theorem boxv (w : World) (x0 x1 x2 x3 : Value) : ∃ w0, w.alloc (.cells #[x0, x1, x2, x3] 24) = w0 ∧ Below w.heap.size w w0 ∧ w0.heap.size = w.heap.size + 1 ∧ w0.heap[w.heap.size]? = some (.cells #[x0, x1, x2, x3] 24 (0, 0)) := ⟨_, rfl, (Below.refl _ _).alloc (Nat.le_refl _) _, by simp, heap_new _ _⟩
set_option maxRecDepth 100000 in
set_option maxHeartbeats 2000000 in
theorem spoil_none {P : Nat → Prop} {a b : Int} {s : ByteArray} {ao : Option Addr} {cap : Nat} {w : World} (hc : cap ≤ maxLen) :
    Calls Try.prog 14 #[.agg #[.int .i64 a, .int .i64 b, .string s, .slice ao 0 cap]] w fun r w' => (∃ v, r = .returned v) ∧ Spo P w w' := by
  obtain ⟨w0, hW, hb0, hsz, hblk⟩ := boxv w (.int .i64 a) (.int .i64 b) (.string s) (.slice ao 0 cap)
  obtain ⟨d0, d1, d2, d3, -⟩ := cells_of4 hblk
  have hfin : Spo P w w0 := Spo.of_below hb0
  go_enter Try.func14, Try.ntmps14
  go_wp2_with fail
  go_loopg [6] 0 (fun g i wr => g = 0 ∧ i = .int .i64 0 ∧ wr = w0)
  case atStart => exact ⟨rfl, rfl, rfl⟩
  case round =>
    obtain ⟨rfl, rfl, rfl⟩ := hrel
    go_wp2_with fail
    exact bodyPost_end (results_none rfl _ _ _) rfl ⟨⟨_, rfl⟩, hfin⟩
set_option maxRecDepth 100000 in
set_option maxHeartbeats 2000000 in
theorem spoil_any {P : Nat → Prop} : ∀ (N : Nat) (a b : Int) (s : ByteArray) (sl : Value) (w : World), (∀ k, P k → k < w.heap.size) → Wf P N w sl →
    Calls Try.prog 14 #[.agg #[.int .i64 a, .int .i64 b, .string s, sl]] w fun r w' => (∃ v, r = .returned v) ∧ Spo P w w' := by
  intro N
  induction N with
  | zero =>
    rintro a b s sl w hP ⟨ao, cap, rfl, hc⟩
    exact spoil_none hc
  | succ N ih =>
    intro a b s sl w hP hw
    have hw0 := hw
    rcases hw with ⟨ao, cap, rfl, hc⟩ | ⟨g, len, cap, arr, rfl, hlc, hcap, hPg, -⟩
    · exact spoil_none hc
    by_cases hl0 : len = 0
    · subst hl0; exact spoil_none (by unfold maxLen; omega)
    obtain ⟨w0, hW, hb0, hsz, hblk⟩ := boxv w (.int .i64 a) (.int .i64 b) (.string s) (.slice (some ⟨g, 0, none⟩) len cap)
    obtain ⟨d0, d1, d2, d3, -⟩ := cells_of4 hblk
    have hnP : ¬ P w.heap.size := fun h => by have := hP _ h; omega
    have hgne : g ≠ w.heap.size := by rintro rfl; exact hnP hPg
    have IH : Hid (∀ (a b : Int) (s : ByteArray) (sl : Value) (w : World), (∀ k, P k → k < w.heap.size) → Wf P N w sl → Calls Try.prog 14 #[.agg #[.int .i64 a, .int .i64 b, .string s, sl]] w fun r w' => (∃ v, r = .returned v) ∧ Spo P w w') := ih
    clear ih
    have hround : ∀ (q : Nat) (wr : World), q < len → Spo P w0 wr → ∃ a' b' s' c, wr.cell? ⟨g, q * 4, none⟩ = some (.int .i64 a') ∧ wr.cell? ⟨g, q * 4 + 1, none⟩ = some (.int .i64 b') ∧ wr.cell? ⟨g, q * 4 + 2, none⟩ = some (.string s') ∧ wr.cell? ⟨g, q * 4 + 3, none⟩ = some c ∧ wr.frozen? ⟨g, q * 4, none⟩ = false ∧ wr.frozen? ⟨g, q * 4 + 1, none⟩ = false ∧ wr.frozen? ⟨g, q * 4 + 2, none⟩ = false ∧ wr.frozen? ⟨g, q * 4 + 3, none⟩ = false ∧ g < wr.heap.size ∧ wr.cell? ⟨w.heap.size, 3, none⟩ = some (.slice (some ⟨g, 0, none⟩) len cap) ∧
        (Calls Try.prog 14 #[.agg #[.int .i64 a', .int .i64 b', .string s', c]] wr fun r w' => (∃ v, r = .returned v) ∧ Spo P wr w') ∧ Spo P wr (set4At wr g (q * 4) (.int .i64 77) (.int .i64 0) (.string ⟨#[]⟩) (.slice none 0 0)) := by
      intro q wr hq hS
      have hwr := hS.lists _ _ (hw0.below hb0)
      rcases hwr with ⟨ao, cap', e, _⟩ | ⟨g', len', cap', arr', e, h2, h3, h4, h5, h6, h7⟩
      · simp only [Value.slice.injEq] at e
        omega
      · simp only [Value.slice.injEq, Option.some.injEq, Addr.mk.injEq, and_true] at e
        obtain ⟨rfl, rfl, rfl⟩ := e
        obtain ⟨a', b', s', c, e1, e2, e3, e4, e5⟩ := h7 q hq
        refine ⟨a', b', s', c, by rw [cell_block h5]; exact e1, by rw [cell_block h5]; exact e2, by rw [cell_block h5]; exact e3, by rw [cell_block h5]; exact e4, frozen_block h5 _, frozen_block h5 _, frozen_block h5 _, frozen_block h5 _, (Array.getElem?_eq_some_iff.1 h5).1, ?_, IH.out a' b' s' c wr (fun k hk => by have := hP k hk; have := hb0.size; have := hS.size; omega) e5, spo_over h4 h5 (by omega) (by unfold maxLen; omega)⟩
        rw [World.cell?_of_block (hS.block w.heap.size (by omega) hnP)]
        exact d3
    have hlI : len ≤ 1000000 := by omega
    have hcI : cap ≤ 1000000 := hcap
    clear IH hw0
    go_enter Try.func14, Try.ntmps14
    go_wp2_with fail
    go_loopg [6] len (fun g i wr => ∃ q : Nat, q ≤ len ∧ g = len - q ∧ i = .int .i64 q ∧ Spo P w0 wr)
    case atStart => exact ⟨0, Nat.zero_le _, rfl, rfl, Spo.refl _ _⟩
    case round =>
      obtain ⟨q, hq, rfl, rfl, hS⟩ := hrel
      by_cases hlt : q < len
      · have hltI : (q : Int) < (len : Int) := by omega
        have hq0 : (0 : Int) ≤ (q : Int) := by omega
        obtain ⟨a', b', s', c, c0, c1, c2, c3, -, -, -, -, hgl, hbx, hcall, -⟩ := hround q wr hlt hS
        go_wp2_with fail
        refine hcall.mono ?_
        rintro e w3 ⟨⟨v, rfl⟩, hS3⟩
        clear hcall c0 c1 c2 c3 hbx hgl
        obtain ⟨a3, b3, s3, c3', y0, y1, y2, y3, z0, z1, z2, z3, hgl, hbx, -, hS4⟩ := hround q w3 hlt (hS.trans hS3)
        have hS5 : Spo P w0 (set4At w3 g (q * 4) (.int .i64 77) (.int .i64 0) (.string ⟨#[]⟩) (.slice none 0 0)) := (hS.trans hS3).trans hS4
        clear hround hS4
        go_wp2_with fail
        go_roundg (len - (q + 1))
        case measure => omega
        case rel => exact ⟨q + 1, by omega, rfl, by go_num, hS5⟩
      · have hltI : ¬ (q : Int) < (len : Int) := by omega
        clear hround
        have hfin : Spo P w wr := (Spo.of_below hb0).trans hS
        go_wp2_with fail
        exact bodyPost_end (results_none rfl _ _ _) rfl ⟨⟨_, rfl⟩, hfin⟩
end Go.Proofs.Ytkbplffckkjbfab
