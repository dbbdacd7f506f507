/- What is put is found: the statement, walked (no type). -/
import Derived.Test.YtkbplffckkjbfaaLot
import Derived.Test.YtkbplffckkjbfaaLwa
import Derived.Test.YtkbplffckkjbfaaLct
import Derived.Test.YtkbplffckkjbfaaVf
namespace Go.Proofs.Ytkbplffckkjbfaa
open Go.RowKit
set_option linter.unusedVariables false
set_option linter.unusedSimpArgs false
attribute [local go_sem ↓] Go.wp_at_zero Go.wp_at_succ

set_option maxRecDepth 100000 in
set_option maxHeartbeats 8000000 in
theorem holds_none {v : V} {lst : List V} {t : List UInt8} {av al : Option Addr} {cv cl : Nat} {w : World} (hv : IsW Any w v (.slice av v.l.length cv)) (hl : IsVs Any w lst (.slice al lst.length cl)) (htl : t.length ≤ 9223372036854775807) (zv : SzV v) (zl : ∀ x ∈ lst, SzV x) (hT : tyOf t = none) :
    Calls Try.prog 8 #[.agg #[.int .i64 v.k, .int .i64 v.n, .string ⟨v.t.toArray⟩, .slice av v.l.length cv], .string ⟨t.toArray⟩, .slice al lst.length cl] w fun r w' => r = .returned (.bool true) ∧ Below w.heap.size w w' := by
  obtain ⟨w0, hW, hb0, hsz, d0, d1, d2, d3⟩ := boxed w v (.slice av v.l.length cv)
  have hblk0 : w0.heap[w.heap.size]? = some (.cells #[.int .i64 v.k, .int .i64 v.n, .string ⟨v.t.toArray⟩, .slice av v.l.length cv] 24) := by rw [← hW]; exact heap_new _ _
  obtain ⟨al', cl', e, hlc1, hlc2⟩ := hl.slice
  simp only [Value.slice.injEq] at e
  obtain ⟨rfl, -, rfl⟩ := e
  have hBf : ∀ w', Below w0.heap.size w0 w' → Below w.heap.size w w' := fun w' h => hb0.trans (h.mono hb0.size)
  have hv0 := hv.below hb0
  have hWk := wakes_any w0
  have hc0 : ∀ w', Below w0.heap.size w0 w' → w'.cell? ⟨w.heap.size, 0, none⟩ = some (.int .i64 v.k) ∧ w'.cell? ⟨w.heap.size, 1, none⟩ = some (.int .i64 v.n) ∧ w'.cell? ⟨w.heap.size, 2, none⟩ = some (.string ⟨v.t.toArray⟩) ∧ w'.cell? ⟨w.heap.size, 3, none⟩ = some (.slice av v.l.length cv) := fun w' h => by
    obtain ⟨f, -⟩ := bcell h
    exact ⟨(f _ _ (by omega)).trans d0, (f _ _ (by omega)).trans d1, (f _ _ (by omega)).trans d2, (f _ _ (by omega)).trans d3⟩
  go_enter Try.func8, Try.ntmps8
  go_wp2_with fail
  refine hWk.mono ?_
  rintro e w3 ⟨rfl, hb3⟩
  clear hWk hW d0 d1 d2 d3
  obtain ⟨d0, d1, d2, d3⟩ := hc0 w3 hb3
  have hLg := large_any zv (hv0.below hb3)
  go_wp2_with fail
  refine hLg.mono ?_
  rintro e w4 ⟨rfl, hb4⟩
  have hB4 : Below w0.heap.size w0 w4 := hb3.trans (hb4.mono hb3.size)
  clear hLg hb4 hb3 d0 d1 d2 d3
  by_cases hlv : 65536 < wt v
  · rw [decide_eq_true hlv]
    go_wp2
    go_ret
    exact ⟨rfl, hBf _ hB4⟩
  rw [decide_eq_false hlv]
  obtain ⟨d0, d1, d2, d3⟩ := hc0 w4 hB4
  have hFt := fits_any htl (hv0.below hB4) (by omega)
  go_wp2_with fail
  refine hFt.mono ?_
  rintro e w5 ⟨rfl, hb5⟩
  have hB5 : Below w0.heap.size w0 w5 := hB4.trans (hb5.mono hB4.size)
  clear hFt hb5 hB4 d0 d1 d2 d3
  have hff : fitS t v = false := by unfold fitS shpS; rw [hT]; rfl
  rw [hff]
  go_wp2
  go_ret
  exact ⟨rfl, hBf _ hB5⟩
end Go.Proofs.Ytkbplffckkjbfaa
