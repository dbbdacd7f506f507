/- weighed and Push: the program's. -/
import Derived.Test.YtkbplffckkjbfaaVsp
import Derived.Test.YtkbplffckkjbfaaVcp
import Derived.Test.YtkbplffckkjbfaaVw
namespace Go.Proofs.Ytkbplffckkjbfaa
open Go.RowKit
set_option linter.unusedVariables false
set_option linter.unusedSimpArgs false

/-- A value and an error are answered, the value in new memory. -/
def OutV (w : World) (o : V × Int) (r : Ending) (w' : World) : Prop := (∃ ao cap, r = .returned (.tuple #[.agg #[.int .i64 o.1.k, .int .i64 o.1.n, .string ⟨o.1.t.toArray⟩, .slice ao o.1.l.length cap], .int .i64 o.2]) ∧ IsW (From w.heap.size) w' o.1 (.slice ao o.1.l.length cap)) ∧ Below w.heap.size w w'
theorem zero_isW {B : Nat → Prop} {w : World} : IsW B w V.zero (.slice none 0 0) := ⟨Nat.zero_le _, by constructor <;> decide, by constructor <;> decide, IsVs.nil⟩
theorem outV_zero {w w' : World} {e : Int} (hb : Below w.heap.size w w') : OutV w (V.zero, e) (.returned (.tuple #[.agg #[.int .i64 0, .int .i64 0, .string ⟨#[]⟩, .slice none 0 0], .int .i64 e])) w' := ⟨⟨none, 0, rfl, zero_isW⟩, hb⟩
set_option maxRecDepth 100000 in
set_option maxHeartbeats 1000000 in
theorem weighed_any {B : Nat → Prop} {v : V} {ao : Option Addr} {cap : Nat} {w : World} (hv : IsW B w v (.slice ao v.l.length cap)) (hw : wt v ≤ 1000000) :
    Calls Try.prog 62 #[.agg #[.int .i64 v.k, .int .i64 v.n, .string ⟨v.t.toArray⟩, .slice ao v.l.length cap]] w fun r w' => OutV w (wgV v) r w' := by
  obtain ⟨w0, hW, hb0, hsz, d0, d1, d2, d3⟩ := boxed w v (.slice ao v.l.length cap)
  obtain ⟨w1, hW1, hb1, hsz1, hr⟩ := rbox w0
  rw [hsz] at hr
  have hs1 : w1.heap.size = w.heap.size + 2 := by omega
  have hB1 : Below w.heap.size w w1 := hb0.trans (hb1.mono (by omega))
  obtain ⟨f1, -⟩ := bcell hb1
  rw [← f1 w.heap.size _ (by omega)] at d0 d1 d2 d3
  clear f1 hsz1
  have hWt := weight_any _ v _ B w1 (Nat.lt_succ_self _) (by omega) (hv.below hB1)
  have hCp : ∀ w2, Below w1.heap.size w1 w2 → Calls Try.prog 58 #[.agg #[.int .i64 v.k, .int .i64 v.n, .string ⟨v.t.toArray⟩, .slice ao v.l.length cap]] w2 fun r w' => NewV w2 v r w' := fun w2 hb2 => copy_any _ v _ B w2 (Nat.lt_succ_self _) hw ((hv.below hB1).below hb2)
  clear hv
  have hgb : w.heap.size < w1.heap.size := by omega
  by_cases hle : wt v ≤ 16384
  · have hI : ¬ (16384 : Int) < (wt v : Int) := by omega
    have hfin : Hid (wgV v = (v, 0)) := by show _ = _; unfold wgV; rw [if_pos hle]
    generalize wt v = n at *
    go_enter Try.func62, Try.ntmps62
    go_wp2_with fail
    refine hWt.mono ?_
    rintro e w2 ⟨rfl, hb2⟩
    have e0 := ((bcell hb2).1 _ 0 hgb).trans d0
    have e1 := ((bcell hb2).1 _ 1 hgb).trans d1
    have e2 := ((bcell hb2).1 _ 2 hgb).trans d2
    have e3 := ((bcell hb2).1 _ 3 hgb).trans d3
    clear hWt hW hW1 d0 d1 d2 d3
    go_wp2_with fail
    refine (hCp w2 hb2).mono ?_
    rintro e w3 ⟨⟨a3, c3, rfl, hx3⟩, hb3⟩
    have hw13 : Below w1.heap.size w1 w3 := hb2.trans (hb3.mono hb2.size)
    obtain ⟨r0, r1, r2, r3, s0, s1, s2, s3, hz⟩ := hr w3 hw13
    have hsz2 := hb2.size
    have hres : OutV w (wgV v) (.returned (.tuple #[.agg #[.int .i64 v.k, .int .i64 v.n, .string ⟨v.t.toArray⟩, .slice a3 v.l.length c3], .int .i64 0])) (set4 w3 (w.heap.size + 1) (.int .i64 v.k) (.int .i64 v.n) (.string ⟨v.t.toArray⟩) (.slice a3 v.l.length c3)) := by
      rw [hfin.out]
      exact ⟨⟨a3, c3, rfl, (hx3.since (since_set4 (by show ¬ (w2.heap.size ≤ w.heap.size + 1); omega) _ _ _ _)).base (fun k hk _ => by show w.heap.size ≤ k; have : w2.heap.size ≤ k := hk; omega)⟩, below_set4 (hB1.trans (hw13.mono (by omega))) (by omega) _ _ _ _⟩
    clear hr hCp hx3 e0 e1 e2 e3
    go_wp2_with fail
    exact bodyPost_ret (v := .tuple #[.agg #[.int .i64 v.k, .int .i64 v.n, .string ⟨v.t.toArray⟩, .slice a3 v.l.length c3], .int .i64 0]) (by simp [results, Try.results62, go_sem, hz, r0, r1, r2, r3]) rfl hres
  · have hI : (16384 : Int) < (wt v : Int) := by omega
    have hfin : Hid (wgV v = (V.zero, 53)) := by show _ = _; unfold wgV; rw [if_neg hle]
    generalize wt v = n at *
    go_enter Try.func62, Try.ntmps62
    go_wp2_with fail
    refine hWt.mono ?_
    rintro e w2 ⟨rfl, hb2⟩
    obtain ⟨r0, r1, r2, r3, s0, s1, s2, s3, hz⟩ := hr w2 hb2
    have hres := outV_zero (e := 53) (below_set4 (hB1.trans (hb2.mono (by omega))) (g := w.heap.size + 1) (by omega) (.int .i64 0) (.int .i64 0) (.string ⟨#[]⟩) (.slice none 0 0))
    rw [← hfin.out] at hres
    clear hr hCp hWt hW hW1
    go_wp2_with fail
    exact bodyPost_ret (v := .tuple #[.agg #[.int .i64 0, .int .i64 0, .string ⟨#[]⟩, .slice none 0 0], .int .i64 53]) (by simp [results, Try.results62, go_sem, hz, r0, r1, r2, r3]) rfl hres
theorem one_vs {B B' : Nat → Prop} {w : World} {g : Nat} {x : V} {sx : Value} (h : w.heap[g]? = some (.cells #[.int .i64 x.k, .int .i64 x.n, .string ⟨x.t.toArray⟩, sx] 24)) (hx : IsW B w x sx) (hb : ∀ k, B k → k < w.heap.size → B' k) (hg : B' g) : IsVs B' w [x] (.slice (some ⟨g, 0, none⟩) 1 1) := by
  refine ⟨_, ⟨?_, Or.inr ⟨g, 0, 1, rfl, Nat.le_refl _, by unfold maxLen; omega, hg, (Array.getElem?_eq_some_iff.1 h).1, fun j u hj => ?_⟩⟩, AllV.one (isV_iff.2 ⟨sx, rfl, hx.base hb⟩)⟩
  · rfl
  · rw [cell_block h, Nat.zero_add]
    simpa using hj
end Go.Proofs.Ytkbplffckkjbfaa
