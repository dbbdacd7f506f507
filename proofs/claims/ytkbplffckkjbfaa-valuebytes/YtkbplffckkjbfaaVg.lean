/- A row of values that is filled, place by place. -/
import Derived.Test.YtkbplffckkjbfaaVr
namespace Go.Proofs.Ytkbplffckkjbfaa
open Go.RowKit
set_option linter.unusedVariables false
set_option linter.unusedSimpArgs false

theorem setCell_block {w : World} {G : Nat} {arr : Array Value} {T : TypeId} (h : w.heap[G]? = some (.cells arr T (0, 0))) (i : Nat) (x : Value) : (w.setCell ⟨G, i, none⟩ x).heap[G]? = some (.cells (arr.setIfInBounds i x) T (0, 0)) := by
  simp [World.setCell, Array.getElem?_modify, h]
theorem cell_block {w : World} {G : Nat} {arr : Array Value} {T : TypeId} (h : w.heap[G]? = some (.cells arr T (0, 0))) (i : Nat) : w.cell? ⟨G, i, none⟩ = arr[i]? := by
  simp [World.cell?, h]
theorem frozen_block {w : World} {G : Nat} {arr : Array Value} {T : TypeId} (h : w.heap[G]? = some (.cells arr T (0, 0))) (i : Nat) : w.frozen? ⟨G, i, none⟩ = false := by
  simp [World.frozen?, h]
abbrev set4At (w : World) (g i : Nat) (x0 x1 x2 x3 : Value) : World := (((w.setCell ⟨g, i, none⟩ x0).setCell ⟨g, i + 1, none⟩ x1).setCell ⟨g, i + 2, none⟩ x2).setCell ⟨g, i + 3, none⟩ x3
theorem below_set4At {n : Nat} {w w' : World} (h : Below n w w') {g : Nat} (hg : n ≤ g) (i : Nat) (x0 x1 x2 x3 : Value) : Below n w (set4At w' g i x0 x1 x2 x3) := ((((h.setCell (p := ⟨g, i, none⟩) hg x0).setCell (p := ⟨g, i + 1, none⟩) hg x1).setCell (p := ⟨g, i + 2, none⟩) hg x2).setCell (p := ⟨g, i + 3, none⟩) hg x3)
theorem set4At_other {w : World} {g k : Nat} (hk : k ≠ g) (i : Nat) (x0 x1 x2 x3 : Value) : (set4At w g i x0 x1 x2 x3).heap[k]? = w.heap[k]? := by
  simp only [set4At]
  rw [Below.heap_setCell _ _ _ _ hk, Below.heap_setCell _ _ _ _ hk, Below.heap_setCell _ _ _ _ hk, Below.heap_setCell _ _ _ _ hk]
theorem set4At_size (w : World) (g i : Nat) (x0 x1 x2 x3 : Value) : (set4At w g i x0 x1 x2 x3).heap.size = w.heap.size := by simp [set4At, World.setCell]
theorem since_set4At {w : World} {g : Nat} {B : Nat → Prop} (hg : ¬ B g) (i : Nat) (x0 x1 x2 x3 : Value) : Since B w (set4At w g i x0 x1 x2 x3) := ⟨by rw [set4At_size]; exact Nat.le_refl _, fun k h1 _ => set4At_other (fun e => hg (by rw [← e]; exact h1)) i x0 x1 x2 x3⟩
theorem set4_blk {w : World} {g : Nat} {y0 y1 y2 y3 : Value} {T : TypeId} (h : w.heap[g]? = some (.cells #[y0, y1, y2, y3] T (0, 0))) (x0 x1 x2 x3 : Value) : (set4 w g x0 x1 x2 x3).heap[g]? = some (.cells #[x0, x1, x2, x3] T (0, 0)) := by
  simp [set4, World.setCell, Array.getElem?_modify, h]
theorem rbox_blk {w w0 w3 : World} {o : Obj} (hW : w.alloc o = w0) (hb : Below w0.heap.size w0 w3) : w3.heap[w.heap.size]? = some o := by
  subst hW
  rw [hb.block _ (by simp)]
  exact heap_new w o
theorem set_3 {w : World} {g : Nat} {y0 y1 y2 y3 : Value} {T : TypeId} (h : w.heap[g]? = some (.cells #[y0, y1, y2, y3] T (0, 0))) (x : Value) : (w.setCell ⟨g, 3, none⟩ x).heap[g]? = some (.cells #[y0, y1, y2, x] T (0, 0)) := by
  simp [World.setCell, Array.getElem?_modify, h]
theorem set4At_cell {w : World} {g b o i : Nat} {x0 x1 x2 x3 : Value} (h : b ≠ g) : (set4At w g i x0 x1 x2 x3).cell? ⟨b, o, none⟩ = w.cell? ⟨b, o, none⟩ := World.cell?_of_block (set4At_other h i x0 x1 x2 x3)
/-- Block G is a row for n values, the first of which are l, whose parts lie in blocks of B. -/
def Fill (B : Nat → Prop) (w : World) (G n : Nat) (l : List V) : Prop := ∃ arr : Array Value, w.heap[G]? = some (.cells arr 24 (0, 0)) ∧ arr.size = n * 4 ∧ l.length ≤ n ∧ AllV B w l (arr.toList.take (l.length * 4))
theorem Fill.lt {B : Nat → Prop} {w : World} {G n : Nat} {l : List V} (h : Fill B w G n l) : G < w.heap.size := by
  obtain ⟨arr, h1, _⟩ := h
  exact (Array.getElem?_eq_some_iff.1 h1).1
theorem Fill.new {B : Nat → Prop} {w : World} {arr : Array Value} {n : Nat} (h : arr.size = n * 4) : Fill B (w.alloc (.cells arr 24)) w.heap.size n [] :=
  ⟨arr, heap_new _ _, h, Nat.zero_le _, by simp [AllV]⟩
theorem Fill.since {B : Nat → Prop} {w w' : World} {G n : Nat} {l : List V} (h : Fill B w G n l) (s : Since B w w') (hG : w'.heap[G]? = w.heap[G]?) : Fill B w' G n l := by
  obtain ⟨arr, h1, h2, h3, h4⟩ := h
  exact ⟨arr, by rw [hG]; exact h1, h2, h3, h4.since s⟩
theorem Fill.below {B : Nat → Prop} {w w' : World} {G n : Nat} {l : List V} (h : Fill B w G n l) (s : Below w.heap.size w w') : Fill B w' G n l := h.since (Since.of_below s) (s.block G h.lt)
/-- The place that is filled next. -/
theorem Fill.cells {B : Nat → Prop} {w : World} {G n : Nat} {l : List V} (h : Fill B w G n l) {q : Nat} (hq : q < n) : ∃ y0 y1 y2 y3, w.cell? ⟨G, q * 4, none⟩ = some y0 ∧ w.cell? ⟨G, q * 4 + 1, none⟩ = some y1 ∧ w.cell? ⟨G, q * 4 + 2, none⟩ = some y2 ∧ w.cell? ⟨G, q * 4 + 3, none⟩ = some y3 ∧
    w.frozen? ⟨G, q * 4, none⟩ = false ∧ w.frozen? ⟨G, q * 4 + 1, none⟩ = false ∧ w.frozen? ⟨G, q * 4 + 2, none⟩ = false ∧ w.frozen? ⟨G, q * 4 + 3, none⟩ = false := by
  obtain ⟨arr, h1, h2, h3, h4⟩ := h
  refine ⟨arr[q * 4]'(by omega), arr[q * 4 + 1]'(by omega), arr[q * 4 + 2]'(by omega), arr[q * 4 + 3]'(by omega), ?_, ?_, ?_, ?_, frozen_block h1 _, frozen_block h1 _, frozen_block h1 _, frozen_block h1 _⟩
  all_goals (rw [cell_block h1]; exact Array.getElem?_eq_getElem _)
theorem Fill.step {B : Nat → Prop} {w : World} {G n : Nat} {l : List V} (h : Fill B w G n l) (hB : ¬ B G) (hq : l.length < n) {x : V} {x0 x1 x2 x3 : Value} (hx : IsV B w x [x0, x1, x2, x3]) : Fill B (set4At w G (l.length * 4) x0 x1 x2 x3) G n (l ++ [x]) := by
  have hs : Since B w (set4At w G (l.length * 4) x0 x1 x2 x3) := since_set4At hB _ _ _ _ _
  obtain ⟨arr, h1, h2, h3, h4⟩ := h
  refine ⟨_, setCell_block (setCell_block (setCell_block (setCell_block h1 _ _) _ _) _ _) _ _, by simp [h2], by simp; omega, ?_⟩
  have hl := h4.len
  have e : (((((arr.setIfInBounds (l.length * 4) x0).setIfInBounds (l.length * 4 + 1) x1).setIfInBounds (l.length * 4 + 2) x2).setIfInBounds (l.length * 4 + 3) x3).toList.take ((l ++ [x]).length * 4)) = arr.toList.take (l.length * 4) ++ [x0, x1, x2, x3] := by
    apply List.ext_getElem?
    intro j
    have hlen : (l ++ [x]).length * 4 = l.length * 4 + 4 := by simp; omega
    rw [hlen, List.getElem?_take]
    by_cases hj : j < l.length * 4
    · rw [if_pos (by omega), List.getElem?_append_left (by simp; omega), List.getElem?_take, if_pos hj]
      simp only [Array.toList_setIfInBounds]
      rw [List.getElem?_set_ne (by omega), List.getElem?_set_ne (by omega), List.getElem?_set_ne (by omega), List.getElem?_set_ne (by omega)]
    · by_cases hj4 : j < l.length * 4 + 4
      · rw [if_pos hj4, List.getElem?_append_right (by simp; omega)]
        have hl2 : (arr.toList.take (l.length * 4)).length = l.length * 4 := by simp; omega
        rw [hl2]
        simp only [Array.toList_setIfInBounds]
        have hcases : j = l.length * 4 ∨ j = l.length * 4 + 1 ∨ j = l.length * 4 + 2 ∨ j = l.length * 4 + 3 := by omega
        rcases hcases with rfl | rfl | rfl | rfl
        · rw [List.getElem?_set_ne (by omega), List.getElem?_set_ne (by omega), List.getElem?_set_ne (by omega), List.getElem?_set_self (by simp; omega)]; simp
        · rw [List.getElem?_set_ne (by omega), List.getElem?_set_ne (by omega), List.getElem?_set_self (by simp; omega)]; simp
        · rw [List.getElem?_set_ne (by omega), List.getElem?_set_self (by simp; omega)]; simp
        · rw [List.getElem?_set_self (by simp; omega)]; simp
      · rw [if_neg hj4, List.getElem?_eq_none (by simp; omega)]
  rw [e]
  exact (h4.since hs).append (AllV.one (hx.since hs))
/-- All are there. -/
theorem Fill.done {B B' : Nat → Prop} {w : World} {G n : Nat} {l : List V} (h : Fill B w G n l) (hn : l.length = n) (hb : ∀ k, B k → k < w.heap.size → B' k) (hG : B' G) (hm : n ≤ maxLen) : IsVs B' w l (.slice (some ⟨G, 0, none⟩) l.length n) := by
  have hlt := h.lt
  obtain ⟨arr, h1, h2, h3, h4⟩ := h
  refine ⟨arr.toList.take (l.length * 4), ⟨h4.len, Or.inr ⟨G, 0, n, rfl, by omega, hm, hG, hlt, fun j u hj => ?_⟩⟩, h4.base hb⟩
  rw [cell_block h1, Nat.zero_add]
  rw [List.getElem?_take] at hj
  split at hj
  · simpa using hj
  · cases hj
end Go.Proofs.Ytkbplffckkjbfaa
