/- The document's comparison of two lists of tokens. -/
import Derived.Test.YtnmdnjdibdmodaaGreatDoorCuts
namespace Go.Proofs.YtnmdnjdibdmodaaGreatDoor
open Go.RowKit
set_option linter.unusedSimpArgs false
set_option linter.unusedVariables false

/-- At block g the tokens ts lie, one behind the other. -/
def TokRow (w : World) (g : Nat) (ts : List Lx.Tok) : Prop := ∀ k t, ts[k]? = some t → w.cell? ⟨g, k * 4, none⟩ = some (.int .i64 t.kind) ∧ w.cell? ⟨g, k * 4 + 1, none⟩ = some (.string ⟨t.text.toArray⟩) ∧ w.cell? ⟨g, k * 4 + 2, none⟩ = some (.int .i64 t.num) ∧ w.cell? ⟨g, k * 4 + 3, none⟩ = some (.int .i64 t.place)

theorem rowOf_at : ∀ (ts : List Lx.Tok) (k : Nat) (t : Lx.Tok), ts[k]? = some t → (rowOf ts)[k * 4]? = some (.int .i64 t.kind) ∧ (rowOf ts)[k * 4 + 1]? = some (.string ⟨t.text.toArray⟩) ∧ (rowOf ts)[k * 4 + 2]? = some (.int .i64 t.num) ∧ (rowOf ts)[k * 4 + 3]? = some (.int .i64 t.place)
  | [], k, t, h => by simp at h
  | a :: r, 0, t, h => by
    simp at h; subst h
    simp [rowOf, tokCells]
  | a :: r, k + 1, t, h => by
    have ih := rowOf_at r k t (by simpa using h)
    have e : rowOf (a :: r) = tokCells a ++ rowOf r := by simp [rowOf]
    have hl : (tokCells a).length = 4 := rfl
    rw [e]
    refine ⟨?_, ?_, ?_, ?_⟩
    · rw [List.getElem?_append_right (by omega), hl, show (k + 1) * 4 - 4 = k * 4 by omega]; exact ih.1
    · rw [List.getElem?_append_right (by omega), hl, show (k + 1) * 4 + 1 - 4 = k * 4 + 1 by omega]; exact ih.2.1
    · rw [List.getElem?_append_right (by omega), hl, show (k + 1) * 4 + 2 - 4 = k * 4 + 2 by omega]; exact ih.2.2.1
    · rw [List.getElem?_append_right (by omega), hl, show (k + 1) * 4 + 3 - 4 = k * 4 + 3 by omega]; exact ih.2.2.2
theorem owns_toks {w : World} {base : Nat} {e : TypeId} {v : Value} {ts : List Lx.Tok} (h : w.ownsRow base e 4 v ts.length (rowOf ts)) (hn : 0 < ts.length) :
    ∃ g cap, v = .slice (some ⟨g, 0, none⟩) ts.length cap ∧ base ≤ g ∧ g < w.heap.size ∧ ts.length ≤ cap ∧ TokRow w g ts := by
  have h2 := h.2
  obtain ⟨g, cap, hv, hg, hl, hc⟩ := owns_cells h hn
  refine ⟨g, cap, hv, hg, hl, ?_, ?_⟩
  · rcases h2 with ⟨h0, _⟩ | ⟨g', cap', cur, hv', _, _, hcap, _⟩
    · rw [hv] at h0; simp at h0
    · rw [hv] at hv'; simp at hv'; omega
  · intro k t hk
    obtain ⟨a, b, c, d⟩ := rowOf_at ts k t hk
    exact ⟨hc _ _ a, hc _ _ b, hc _ _ c, hc _ _ d⟩
theorem TokRow.below {w w' : World} {g : Nat} {ts : List Lx.Tok} {B : Nat} (h : TokRow w g ts) (m : Below B w w') (hB : g < B) : TokRow w' g ts := by
  intro k t hk
  obtain ⟨a, b, c, d⟩ := h k t hk
  exact ⟨by rw [m.cell (p := ⟨g, k * 4, none⟩) hB]; exact a, by rw [m.cell (p := ⟨g, k * 4 + 1, none⟩) hB]; exact b, by rw [m.cell (p := ⟨g, k * 4 + 2, none⟩) hB]; exact c, by rw [m.cell (p := ⟨g, k * 4 + 3, none⟩) hB]; exact d⟩
theorem TokRow.take {w : World} {g : Nat} {ts : List Lx.Tok} (h : TokRow w g ts) (j : Nat) : TokRow w g (ts.take j) := by
  intro k t hk
  rw [List.getElem?_take] at hk
  split at hk
  · exact h k t hk
  · simp at hk

end Go.Proofs.YtnmdnjdibdmodaaGreatDoor
