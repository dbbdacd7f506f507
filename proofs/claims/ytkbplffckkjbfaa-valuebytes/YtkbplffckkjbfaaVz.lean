/- Lists of values that may be written over: whatever is written, they stay lists of values. -/
import Derived.Test.YtkbplffckkjbfaaVg
namespace Go.Proofs.Ytkbplffckkjbfaa
open Go.RowKit
set_option linter.unusedVariables false
set_option linter.unusedSimpArgs false

/-- A slice of values, not deeper than n, whose rows lie at the beginnings of whole blocks of P. -/
def Wf (P : Nat → Prop) : Nat → World → Value → Prop
  | 0, _, sl => ∃ ao cap, sl = .slice ao 0 cap ∧ cap ≤ maxLen
  | n + 1, w, sl => (∃ ao cap, sl = .slice ao 0 cap ∧ cap ≤ maxLen) ∨ ∃ g len cap arr, sl = .slice (some ⟨g, 0, none⟩) len cap ∧ len ≤ cap ∧ cap ≤ 1000000 ∧ P g ∧ w.heap[g]? = some (.cells arr 24 (0, 0)) ∧ len * 4 ≤ arr.size ∧
      ∀ i, i < len → ∃ a b s c, arr[i * 4]? = some (.int .i64 a) ∧ arr[i * 4 + 1]? = some (.int .i64 b) ∧ arr[i * 4 + 2]? = some (.string s) ∧ arr[i * 4 + 3]? = some c ∧ Wf P n w c
theorem Wf.nil {P : Nat → Prop} {n : Nat} {w : World} {ao : Option Addr} {cap : Nat} (h : cap ≤ maxLen) : Wf P n w (.slice ao 0 cap) := by
  cases n with
  | zero => exact ⟨ao, cap, rfl, h⟩
  | succ n => exact Or.inl ⟨ao, cap, rfl, h⟩
theorem Wf.since {P : Nat → Prop} {w w' : World} (s : Since P w w') : ∀ {n : Nat} {sl : Value}, Wf P n w sl → Wf P n w' sl
  | 0, sl, h => h
  | n + 1, sl, h => by
    rcases h with h | ⟨g, len, cap, arr, h1, h2, h3, h4, h5, h6, h7⟩
    · exact Or.inl h
    · refine Or.inr ⟨g, len, cap, arr, h1, h2, h3, h4, by rw [s.block g h4 (Array.getElem?_eq_some_iff.1 h5).1]; exact h5, h6, fun i hi => ?_⟩
      obtain ⟨a, b, s', c, e1, e2, e3, e4, e5⟩ := h7 i hi
      exact ⟨a, b, s', c, e1, e2, e3, e4, Wf.since s e5⟩
theorem Wf.below {P : Nat → Prop} {w w' : World} {n : Nat} {sl : Value} (h : Wf P n w sl) (s : Below w.heap.size w w') : Wf P n w' sl := h.since (Since.of_below s)
theorem Wf.base {P P' : Nat → Prop} {w : World} (hb : ∀ k, P k → k < w.heap.size → P' k) : ∀ {n : Nat} {sl : Value}, Wf P n w sl → Wf P' n w sl
  | 0, sl, h => h
  | n + 1, sl, h => by
    rcases h with h | ⟨g, len, cap, arr, h1, h2, h3, h4, h5, h6, h7⟩
    · exact Or.inl h
    · refine Or.inr ⟨g, len, cap, arr, h1, h2, h3, hb g h4 (Array.getElem?_eq_some_iff.1 h5).1, h5, h6, fun i hi => ?_⟩
      obtain ⟨a, b, s', c, e1, e2, e3, e4, e5⟩ := h7 i hi
      exact ⟨a, b, s', c, e1, e2, e3, e4, Wf.base hb e5⟩
/-- One place of a row is written over with a value without a list. -/
theorem Wf.over {P : Nat → Prop} {w : World} {g j : Nat} {arr0 : Array Value} (hblk : w.heap[g]? = some (.cells arr0 24 (0, 0))) (hj : j * 4 + 4 ≤ arr0.size) {a b : Int} {s : ByteArray} {cap0 : Nat} (hc0 : cap0 ≤ maxLen) {ao0 : Option Addr} : ∀ {n : Nat} {sl : Value}, Wf P n w sl → Wf P n (set4At w g (j * 4) (.int .i64 a) (.int .i64 b) (.string s) (.slice ao0 0 cap0)) sl
  | 0, sl, h => h
  | n + 1, sl, h => by
    rcases h with h | ⟨g', len, cap, arr, h1, h2, h3, h4, h5, h6, h7⟩
    · exact Or.inl h
    · by_cases hg : g' = g
      · subst hg
        rw [hblk] at h5
        simp only [Option.some.injEq, Obj.cells.injEq, and_true] at h5
        subst h5
        refine Or.inr ⟨g', len, cap, _, h1, h2, h3, h4, setCell_block (setCell_block (setCell_block (setCell_block hblk _ _) _ _) _ _) _ _, by simpa using h6, fun i hi => ?_⟩
        obtain ⟨a', b', s', c, e1, e2, e3, e4, e5⟩ := h7 i hi
        by_cases hij : i = j
        · subst hij
          refine ⟨a, b, s, .slice ao0 0 cap0, ?_, ?_, ?_, ?_, Wf.nil hc0⟩
          all_goals simp only [Array.getElem?_setIfInBounds, Array.size_setIfInBounds]
          · rw [if_neg (by omega), if_neg (by omega), if_neg (by omega), if_pos trivial, if_pos (by omega)]
          · rw [if_neg (by omega), if_neg (by omega), if_pos trivial, if_pos (by omega)]
          · rw [if_neg (by omega), if_pos trivial, if_pos (by omega)]
          · rw [if_pos trivial, if_pos (by omega)]
        · refine ⟨a', b', s', c, ?_, ?_, ?_, ?_, Wf.over hblk hj hc0 e5⟩
          all_goals (simp only [Array.getElem?_setIfInBounds, Array.size_setIfInBounds]; rw [if_neg (by omega), if_neg (by omega), if_neg (by omega), if_neg (by omega)]; assumption)
      · refine Or.inr ⟨g', len, cap, arr, h1, h2, h3, h4, by rw [set4At_other hg]; exact h5, h6, fun i hi => ?_⟩
        obtain ⟨a', b', s', c, e1, e2, e3, e4, e5⟩ := h7 i hi
        exact ⟨a', b', s', c, e1, e2, e3, e4, Wf.over hblk hj hc0 e5⟩
/-- A row that is being filled: the first q are values. -/
def FillW (P : Nat → Prop) (N : Nat) (w : World) (G n q : Nat) : Prop := ∃ arr : Array Value, w.heap[G]? = some (.cells arr 24 (0, 0)) ∧ arr.size = n * 4 ∧ q ≤ n ∧
  ∀ i, i < q → ∃ a b s c, arr[i * 4]? = some (.int .i64 a) ∧ arr[i * 4 + 1]? = some (.int .i64 b) ∧ arr[i * 4 + 2]? = some (.string s) ∧ arr[i * 4 + 3]? = some c ∧ Wf P N w c
theorem FillW.new {P : Nat → Prop} {N : Nat} {w : World} {arr : Array Value} {n : Nat} (h : arr.size = n * 4) : FillW P N (w.alloc (.cells arr 24)) w.heap.size n 0 :=
  ⟨arr, heap_new _ _, h, Nat.zero_le _, fun i hi => by omega⟩
theorem FillW.since {P : Nat → Prop} {N : Nat} {w w' : World} {G n q : Nat} (h : FillW P N w G n q) (s : Since P w w') (hG : w'.heap[G]? = w.heap[G]?) : FillW P N w' G n q := by
  obtain ⟨arr, h1, h2, h3, h4⟩ := h
  refine ⟨arr, by rw [hG]; exact h1, h2, h3, fun i hi => ?_⟩
  obtain ⟨a, b, s', c, e1, e2, e3, e4, e5⟩ := h4 i hi
  exact ⟨a, b, s', c, e1, e2, e3, e4, e5.since s⟩
theorem FillW.below {P : Nat → Prop} {N : Nat} {w w' : World} {G n q : Nat} (h : FillW P N w G n q) (s : Below w.heap.size w w') : FillW P N w' G n q := h.since (Since.of_below s) (by
  obtain ⟨arr, h1, _⟩ := h
  exact s.block G (Array.getElem?_eq_some_iff.1 h1).1)
theorem FillW.step {P : Nat → Prop} {N : Nat} {w : World} {G n q : Nat} (h : FillW P N w G n q) (hB : ¬ P G) (hq : q < n) {a b : Int} {s : ByteArray} {c : Value} (hc : Wf P N w c) : FillW P N (set4At w G (q * 4) (.int .i64 a) (.int .i64 b) (.string s) c) G n (q + 1) := by
  have hs : Since P w (set4At w G (q * 4) (.int .i64 a) (.int .i64 b) (.string s) c) := since_set4At hB _ _ _ _ _
  obtain ⟨arr, h1, h2, h3, h4⟩ := h
  refine ⟨_, setCell_block (setCell_block (setCell_block (setCell_block h1 _ _) _ _) _ _) _ _, by simp [h2], by omega, fun i hi => ?_⟩
  by_cases hiq : i = q
  · subst hiq
    refine ⟨a, b, s, c, ?_, ?_, ?_, ?_, hc.since hs⟩
    all_goals simp only [Array.getElem?_setIfInBounds, Array.size_setIfInBounds]
    · rw [if_neg (by omega), if_neg (by omega), if_neg (by omega), if_pos trivial, if_pos (by omega)]
    · rw [if_neg (by omega), if_neg (by omega), if_pos trivial, if_pos (by omega)]
    · rw [if_neg (by omega), if_pos trivial, if_pos (by omega)]
    · rw [if_pos trivial, if_pos (by omega)]
  · obtain ⟨a', b', s', c', e1, e2, e3, e4, e5⟩ := h4 i (by omega)
    refine ⟨a', b', s', c', ?_, ?_, ?_, ?_, e5.since hs⟩
    all_goals (simp only [Array.getElem?_setIfInBounds, Array.size_setIfInBounds]; rw [if_neg (by omega), if_neg (by omega), if_neg (by omega), if_neg (by omega)]; assumption)
theorem FillW.done {P P' : Nat → Prop} {N : Nat} {w : World} {G n : Nat} (h : FillW P N w G n n) (hn : n ≤ 1000000) (hb : ∀ k, P k → k < w.heap.size → P' k) (hG : P' G) : Wf P' (N + 1) w (.slice (some ⟨G, 0, none⟩) n n) := by
  obtain ⟨arr, h1, h2, h3, h4⟩ := h
  refine Or.inr ⟨G, n, n, arr, rfl, Nat.le_refl _, hn, hG, h1, by omega, fun i hi => ?_⟩
  obtain ⟨a, b, s, c, e1, e2, e3, e4, e5⟩ := h4 i hi
  exact ⟨a, b, s, c, e1, e2, e3, e4, e5.base hb⟩
end Go.Proofs.Ytkbplffckkjbfaa
