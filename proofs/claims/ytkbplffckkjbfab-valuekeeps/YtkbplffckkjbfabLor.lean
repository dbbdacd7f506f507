/- The order of values: the statement, walked. -/
import Derived.Test.YtkbplffckkjbfabLwa
import Derived.Test.YtkbplffckkjbfabLct
import Derived.Test.YtkbplffckkjbfabRc
namespace Go.Proofs.Ytkbplffckkjbfab
open Go.RowKit
set_option linter.unusedVariables false
set_option linter.unusedSimpArgs false
attribute [local go_sem ↓] Go.wp_at_zero Go.wp_at_succ

/-- A value's four cells. -/
def At4 (w : World) (g : Nat) (v : V) (s : Value) : Prop := w.cell? ⟨g, 0, none⟩ = some (.int .i64 v.k) ∧ w.cell? ⟨g, 1, none⟩ = some (.int .i64 v.n) ∧ w.cell? ⟨g, 2, none⟩ = some (.string ⟨v.t.toArray⟩) ∧ w.cell? ⟨g, 3, none⟩ = some s
theorem At4.below {w w' : World} {g : Nat} {v : V} {s : Value} (h : At4 w g v s) (hg : g < w.heap.size) (hb : Below w.heap.size w w') : At4 w' g v s := ⟨((bcell hb).1 _ _ hg).trans h.1, ((bcell hb).1 _ _ hg).trans h.2.1, ((bcell hb).1 _ _ hg).trans h.2.2.1, ((bcell hb).1 _ _ hg).trans h.2.2.2⟩
theorem boxed3 (w : World) (a : V) (sa : Value) (b : V) (sb : Value) (c : V) (sc : Value) : ∃ w0 w1 w2, w.alloc (.cells #[.int .i64 a.k, .int .i64 a.n, .string ⟨a.t.toArray⟩, sa] 24) = w0 ∧ w0.alloc (.cells #[.int .i64 b.k, .int .i64 b.n, .string ⟨b.t.toArray⟩, sb] 24) = w1 ∧ w1.alloc (.cells #[.int .i64 c.k, .int .i64 c.n, .string ⟨c.t.toArray⟩, sc] 24) = w2 ∧ w0.heap.size = w.heap.size + 1 ∧ w1.heap.size = w.heap.size + 2 ∧ w2.heap.size = w.heap.size + 3 ∧ Below w.heap.size w w2 ∧
    ∀ w', Below w2.heap.size w2 w' → At4 w' w.heap.size a sa ∧ At4 w' (w.heap.size + 1) b sb ∧ At4 w' (w.heap.size + 2) c sc := by
  obtain ⟨w0, w1, hW, hW1, hs0, hs1, hB, d0, d1, d2, d3, e0, e1, e2, e3⟩ := boxed2 w a sa b sb
  obtain ⟨w2, hW2, hb2, hsz2, f0, f1, f2, f3⟩ := boxed w1 c sc
  rw [hs1] at f0 f1 f2 f3
  refine ⟨w0, w1, w2, hW, hW1, hW2, hs0, hs1, by omega, hB.trans (hb2.mono hB.size), fun w' h => ?_⟩
  exact ⟨(At4.below ⟨d0, d1, d2, d3⟩ (by omega) hb2).below (by omega) h, (At4.below ⟨e0, e1, e2, e3⟩ (by omega) hb2).below (by omega) h, At4.below ⟨f0, f1, f2, f3⟩ (by omega) h⟩
end Go.Proofs.Ytkbplffckkjbfab
