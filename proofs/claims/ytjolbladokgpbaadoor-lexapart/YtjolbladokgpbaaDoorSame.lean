/- The document's comparison of two lists of tokens. -/
import Derived.Test.YtjolbladokgpbaaDoorCuts
namespace Go.Proofs.YtjolbladokgpbaaDoor
open Go.RowKit
set_option linter.unusedSimpArgs false
set_option linter.unusedVariables false

/-- At block g the tokens ts lie, one behind the other. -/
def TokRow (w : World) (g : Nat) (ts : List Lx.Tok) : Prop := ∀ k t, ts[k]? = some t → w.cell? ⟨g, k * 4, none⟩ = some (.int .i64 t.kind) ∧ w.cell? ⟨g, k * 4 + 1, none⟩ = some (.string ⟨t.text.toArray⟩) ∧ w.cell? ⟨g, k * 4 + 2, none⟩ = some (.int .i64 t.num) ∧ w.cell? ⟨g, k * 4 + 3, none⟩ = some (.int .i64 t.place)

theorem rowOf_at : ∀ (ts : List Lx.Tok) (k : Nat) (t : Lx.Tok), ts[k]? = some t → (rowOf ts)[k * 4]? = some (.int .i64 t.kind) ∧ (rowOf ts)[k * 4 + 1]? = some (.string ⟨t.text.toArray⟩) ∧ (rowOf ts)[k * 4 + 2]? = some (.int .i64 t.num) ∧ (rowOf ts)[k * 4 + 3]? = some (.int .i64 t.place)
  | [], k, t, h => by simp at h
  | a :: r, 0, t, h => by
    simp at h; subst h
    simp [rowOf, tokCells]
  | a :: r, k + 1, t, h => by
    have ih := rowOf_at r k t (by simpa using h)
    have e : rowOf (a :: r) = tokCells a ++ rowOf r := by simp [rowOf]
    have hl : (tokCells a).length = 4 := rfl
    rw [e]
    refine ⟨?_, ?_, ?_, ?_⟩
    · rw [List.getElem?_append_right (by omega), hl, show (k + 1) * 4 - 4 = k * 4 by omega]; exact ih.1
    · rw [List.getElem?_append_right (by omega), hl, show (k + 1) * 4 + 1 - 4 = k * 4 + 1 by omega]; exact ih.2.1
    · rw [List.getElem?_append_right (by omega), hl, show (k + 1) * 4 + 2 - 4 = k * 4 + 2 by omega]; exact ih.2.2.1
    · rw [List.getElem?_append_right (by omega), hl, show (k + 1) * 4 + 3 - 4 = k * 4 + 3 by omega]; exact ih.2.2.2
theorem owns_toks {w : World} {base : Nat} {e : TypeId} {v : Value} {ts : List Lx.Tok} (h : w.ownsRow base e 4 v ts.length (rowOf ts)) (hn : 0 < ts.length) :
    ∃ g cap, v = .slice (some ⟨g, 0, none⟩) ts.length cap ∧ base ≤ g ∧ g < w.heap.size ∧ ts.length ≤ cap ∧ TokRow w g ts := by
  have h2 := h.2
  obtain ⟨g, cap, hv, hg, hl, hc⟩ := owns_cells h hn
  refine ⟨g, cap, hv, hg, hl, ?_, ?_⟩
  · rcases h2 with ⟨h0, _⟩ | ⟨g', cap', cur, hv', _, _, hcap, _⟩
    · rw [hv] at h0; simp at h0
    · rw [hv] at hv'; simp at hv'; omega
  · intro k t hk
    obtain ⟨a, b, c, d⟩ := rowOf_at ts k t hk
    exact ⟨hc _ _ a, hc _ _ b, hc _ _ c, hc _ _ d⟩
theorem TokRow.below {w w' : World} {g : Nat} {ts : List Lx.Tok} {B : Nat} (h : TokRow w g ts) (m : Below B w w') (hB : g < B) : TokRow w' g ts := by
  intro k t hk
  obtain ⟨a, b, c, d⟩ := h k t hk
  exact ⟨by rw [m.cell (p := ⟨g, k * 4, none⟩) hB]; exact a, by rw [m.cell (p := ⟨g, k * 4 + 1, none⟩) hB]; exact b, by rw [m.cell (p := ⟨g, k * 4 + 2, none⟩) hB]; exact c, by rw [m.cell (p := ⟨g, k * 4 + 3, none⟩) hB]; exact d⟩
theorem TokRow.take {w : World} {g : Nat} {ts : List Lx.Tok} (h : TokRow w g ts) (j : Nat) : TokRow w g (ts.take j) := by
  intro k t hk
  rw [List.getElem?_take] at hk
  split at hk
  · exact h k t hk
  · simp at hk

set_option maxHeartbeats 2000000 in
theorem same_true (ga gb n ca cb : Nat) (ts : List Lx.Tok) (w : World) (hn : ts.length = n) (hm : n ≤ 4096) (ha : TokRow w ga ts) (hb : TokRow w gb ts) :
    Calls Tryd.prog 12 #[.slice (some ⟨ga, 0, none⟩) n ca, .slice (some ⟨gb, 0, none⟩) n cb] w fun e w' => e = .returned (.bool true) ∧ ∃ m, w' = w.drewN m := by
  go_enter Tryd.func12, Tryd.ntmps12
  go_wp2_with fail
  go_loopg [13] n (fun g i wr => ∃ k : Nat, k ≤ n ∧ g = n - k ∧ i = .int .i64 k ∧ ∃ q, wr = w.drewN q)
  case atStart => exact ⟨0, Nat.zero_le _, rfl, rfl, 0, rfl⟩
  case round =>
    obtain ⟨k, hk, rfl, rfl, q, rfl⟩ := hrel
    by_cases hlt : k < n
    · obtain ⟨t, ht⟩ : ∃ t, ts[k]? = some t := ⟨ts[k]'(by omega), List.getElem?_eq_getElem (by omega)⟩
      obtain ⟨x0, x1, x2, x3⟩ := ha k t ht
      obtain ⟨y0, y1, y2, y3⟩ := hb k t ht
      clear ha hb ht hn
      go_wp2_with fail
      go_quiet (fail)
      go_wp2
      go_roundg (n - (k + 1))
      case measure => omega
      case rel => exact ⟨k + 1, by omega, rfl, by go_num, _, rfl⟩
    · clear ha hb hn
      go_wp2
      go_ret
      exact ⟨rfl, _, rfl⟩
end Go.Proofs.YtjolbladokgpbaaDoor
