/- Lex of every text; what the statements ask first. -/
import Derived.Test.YtjolbladokgpbaaDoorLexFn
namespace Go.Proofs.YtjolbladokgpbaaDoor
open Go.RowKit
set_option linter.unusedSimpArgs false
set_option linter.unusedVariables false

theorem lex_any (s : ByteArray) (w : World) (henv : Env w) (hm : s.size ≤ maxLen) :
    Calls Tryd.prog 10 #[.string s] w fun e w' => LexPost (Lx.lex dotC s.data.toList) w e w' := by
  have hl : s.data.toList.length = s.size := by simp
  unfold Lx.lex
  rw [hl]
  by_cases hs : 16384 < s.size
  · rw [if_pos hs]
    exact lex_long s w hs hm
  · rw [if_neg hs]
    exact lex_short s w henv (by omega)

theorem owns_cells {w : World} {base : Nat} {e : TypeId} {sz : Nat} {v : Value} {n : Nat} {xs : List Value} (h : w.ownsRow base e sz v n xs) (hn : 0 < n) :
    ∃ g cap, v = .slice (some ⟨g, 0, none⟩) n cap ∧ base ≤ g ∧ g < w.heap.size ∧ (∀ k u, xs[k]? = some u → w.cell? ⟨g, k, none⟩ = some u) := by
  obtain ⟨h1, h2⟩ := h
  rcases h2 with ⟨_, h0⟩ | ⟨g, cap, cur, hv, hg, hh, _, _, _, ht⟩
  · omega
  · refine ⟨g, cap, hv, hg, (Array.getElem?_eq_some_iff.1 hh).1, fun k u hk => ?_⟩
    rw [Lib.cell_of_heap hh]
    rw [← ht, List.getElem?_take] at hk
    split at hk
    · simpa using hk
    · simp at hk

set_option maxRecDepth 100000 in
set_option maxHeartbeats 4000000 in
theorem wakes_any (w : World) (henv : Env w) : Calls Tryd.prog 9 #[] w fun e w' => e = .returned (.bool true) ∧ Below w.heap.size w w' := by
  have h1 := lex_any ⟨#[97, 60, 61, 98]⟩ w henv (by decide)
  have e1 : Lx.lex dotC (⟨#[97, 60, 61, 98]⟩ : ByteArray).data.toList = .inl [⟨1, [97], 0, 0⟩, ⟨4, [60, 61], 0, 1⟩, ⟨1, [98], 0, 3⟩, ⟨5, [], 0, 4⟩] := by rfl
  rw [e1] at h1
  replace h1 : Calls Tryd.prog 10 #[.string ⟨#[97, 60, 61, 98]⟩] w fun e w' => (∃ v, e = .returned (.tuple #[v, .int .i64 0, .int .i64 0]) ∧ w'.ownsRow w.heap.size 31 4 v 4 _) ∧ Below w.heap.size w w' := h1
  have h2 : ∀ w1, Env w1 → Calls Tryd.prog 10 #[.string ⟨#[108, 101, 116, 32, 120, 61, 48, 55]⟩] w1 fun e w' => e = .returned (.tuple #[.slice none 0 0, .int .i64 6, .int .i64 30]) ∧ Below w1.heap.size w1 w' := by
    intro w1 he
    have h := lex_any ⟨#[108, 101, 116, 32, 120, 61, 48, 55]⟩ w1 he (by decide)
    have e2 : Lx.lex dotC (⟨#[108, 101, 116, 32, 120, 61, 48, 55]⟩ : ByteArray).data.toList = .inr (6, 30) := by rfl
    rw [e2] at h
    exact h
  clear e1
  go_enter Tryd.func9, Tryd.ntmps9
  go_wp2_with fail
  refine h1.mono ?_
  rintro e w1 ⟨⟨v, rfl, hown⟩, hb1⟩
  clear h1
  obtain ⟨g, cap, rfl, hg, hgl, hc⟩ := owns_cells hown (by omega)
  go_wp2_with fail
  refine (h2 w1 (henv.below hb1 henv.lt)).mono ?_
  rintro e w2 ⟨rfl, hb2⟩
  have hc2 : ∀ k u, (rowOf [⟨1, [97], 0, 0⟩, ⟨4, [60, 61], 0, 1⟩, ⟨1, [98], 0, 3⟩, ⟨5, [], 0, 4⟩])[k]? = some u → w2.cell? ⟨g, k, none⟩ = some u := by
    intro k u hk
    rw [hb2.cell (p := ⟨g, k, none⟩) hgl]; exact hc k u hk
  have d4 := hc2 4 _ rfl
  have d5 := hc2 5 _ rfl
  have d6 := hc2 6 _ rfl
  have d7 := hc2 7 _ rfl
  have d12 := hc2 12 _ rfl
  have d13 := hc2 13 _ rfl
  have d14 := hc2 14 _ rfl
  have d15 := hc2 15 _ rfl
  clear hc hc2 hown h2
  go_wp2
  go_ret
  exact ⟨rfl, hb1.trans (hb2.mono hb1.size)⟩
end Go.Proofs.YtjolbladokgpbaaDoor
