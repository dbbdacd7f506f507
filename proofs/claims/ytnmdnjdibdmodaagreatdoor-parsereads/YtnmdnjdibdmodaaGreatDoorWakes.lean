/- Lex of every text; what the statements ask first. -/
import Derived.Test.YtnmdnjdibdmodaaGreatDoorLexFn
namespace Go.Proofs.YtnmdnjdibdmodaaGreatDoor
open Go.RowKit
set_option linter.unusedSimpArgs false
set_option linter.unusedVariables false

theorem lex_any (s : ByteArray) (w : World) (henv : Env w) (hm : s.size ≤ maxLen) :
    Calls Tryz.prog 14 #[.string s] w fun e w' => LexPost (Lx.lex dotC s.data.toList) w e w' := by
  have hl : s.data.toList.length = s.size := by simp
  unfold Lx.lex
  rw [hl]
  by_cases hs : 16384 < s.size
  · rw [if_pos hs]
    exact lex_long s w hs hm
  · rw [if_neg hs]
    exact lex_short s w henv (by omega)

theorem owns_cells {w : World} {base : Nat} {e : TypeId} {sz : Nat} {v : Value} {n : Nat} {xs : List Value} (h : w.ownsRow base e sz v n xs) (hn : 0 < n) :
    ∃ g cap, v = .slice (some ⟨g, 0, none⟩) n cap ∧ base ≤ g ∧ g < w.heap.size ∧ (∀ k u, xs[k]? = some u → w.cell? ⟨g, k, none⟩ = some u) := by
  obtain ⟨h1, h2⟩ := h
  rcases h2 with ⟨_, h0⟩ | ⟨g, cap, cur, hv, hg, hh, _, _, _, ht⟩
  · omega
  · refine ⟨g, cap, hv, hg, (Array.getElem?_eq_some_iff.1 hh).1, fun k u hk => ?_⟩
    rw [Lib.cell_of_heap hh]
    rw [← ht, List.getElem?_take] at hk
    split at hk
    · simpa using hk
    · simp at hk

end Go.Proofs.YtnmdnjdibdmodaaGreatDoor
