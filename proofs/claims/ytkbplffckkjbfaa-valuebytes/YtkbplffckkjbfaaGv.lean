/- Values that are being gathered, in a row of one's own. -/
import Derived.Test.YtkbplffckkjbfaaVcc
import Derived.Deep.AppendLies
namespace Go.Proofs.Ytkbplffckkjbfaa
open Go.RowKit
set_option linter.unusedVariables false
set_option linter.unusedSimpArgs false

/-- The row is owned, its block is one of P, and what its elements hold lies in other blocks of P. -/
def Gv (P : Nat → Prop) (w : World) (sl : Value) (acc : List V) : Prop := ∃ row, w.ownsRow 0 24 4 sl acc.length row ∧ (∀ k, sl.ownBlock = some k → P k) ∧ AllV (fun k => P k ∧ sl.ownBlock ≠ some k) w acc row
theorem Gv.nil (P : Nat → Prop) (w : World) : Gv P w (.slice none 0 0) [] := ⟨[], ⟨rfl, Or.inl ⟨rfl, rfl⟩⟩, fun k h => by simp [Value.ownBlock] at h, by rw [AllV]⟩
theorem Gv.since {P : Nat → Prop} {w w' : World} {sl : Value} {acc : List V} (h : Gv P w sl acc) (s : Since P w w') : Gv P w' sl acc := by
  obtain ⟨row, h1, h0, h2⟩ := h
  refine ⟨row, ⟨h1.1, ?_⟩, h0, h2.since (s.mono (fun k hk => hk.1))⟩
  rcases h1.2 with h3 | ⟨g, cap, cur, h3, h4, h5, h6⟩
  · exact Or.inl h3
  · exact Or.inr ⟨g, cap, cur, h3, h4, by rw [s.block g (h0 g (by rw [h3]; rfl)) (Array.getElem?_eq_some_iff.1 h5).1]; exact h5, h6⟩
theorem Gv.below {P : Nat → Prop} {w w' : World} {sl : Value} {acc : List V} (h : Gv P w sl acc) (hb : Below w.heap.size w w') : Gv P w' sl acc := h.since (Since.of_below hb)
theorem Gv.slice {P : Nat → Prop} {w : World} {sl : Value} {acc : List V} (h : Gv P w sl acc) : ∃ ao cap, sl = .slice ao acc.length cap ∧ acc.length ≤ cap ∧ cap ≤ 9223372036854775807 := by
  obtain ⟨row, h1, _⟩ := h
  obtain ⟨ao, cap, e, a, b⟩ := owns_slice h1
  exact ⟨ao, cap, e, a, by unfold maxLen at b; omega⟩
theorem Gv.vs {P : Nat → Prop} {w : World} {sl : Value} {acc : List V} (h : Gv P w sl acc) : IsVs P w acc sl := by
  obtain ⟨row, h1, h0, h2⟩ := h
  refine ⟨row, ⟨h1.1, ?_⟩, h2.base (fun k hk _ => hk.1)⟩
  rcases h1.2 with ⟨h3, h4⟩ | ⟨g, cap, cur, h3, h4, h5, h6, h7, h8, h9⟩
  · exact Or.inl ⟨Or.inl h3, h4⟩
  · refine Or.inr ⟨g, 0, cap, h3, h6, h7, h0 g (by rw [h3]; rfl), (Array.getElem?_eq_some_iff.1 h5).1, fun j u hj => ?_⟩
    rw [cell_block h5, Nat.zero_add]
    rw [← h9, List.getElem?_take] at hj
    split at hj
    · simpa using hj
    · cases hj
/-- What is made later does not lie in the row. -/
theorem Gv.apart {P : Nat → Prop} {w : World} {sl : Value} {acc : List V} (h : Gv P w sl acc) {k : Nat} (hk : w.heap.size ≤ k) : sl.ownBlock ≠ some k := by
  obtain ⟨row, h1, _⟩ := h
  intro e
  have := (h1.lt k e).2
  omega
theorem Gv.base {P P' : Nat → Prop} {w : World} {sl : Value} {acc : List V} (h : Gv P w sl acc) (hb : ∀ k, P k → k < w.heap.size → P' k) : Gv P' w sl acc := by
  obtain ⟨row, h1, h0, h2⟩ := h
  exact ⟨row, h1, fun k hk => hb k (h0 k hk) (h1.lt k hk).2, h2.base (fun k hk hl => ⟨hb k hk.1 hl, hk.2⟩)⟩
/-- The cells of an element that is set anew. -/
theorem Gv.cells {P : Nat → Prop} {w : World} {ao : Option Addr} {cap n : Nat} {acc : List V} (h : Gv P w (.slice ao n cap) acc) {i : Nat} (hi : i < acc.length) : ∃ g y0 y1 y2 y3, ao = some ⟨g, 0, none⟩ ∧ P g ∧ g < w.heap.size ∧ w.cell? ⟨g, i * 4, none⟩ = some y0 ∧ w.cell? ⟨g, i * 4 + 1, none⟩ = some y1 ∧ w.cell? ⟨g, i * 4 + 2, none⟩ = some y2 ∧ w.cell? ⟨g, i * 4 + 3, none⟩ = some y3 ∧
    w.frozen? ⟨g, i * 4, none⟩ = false ∧ w.frozen? ⟨g, i * 4 + 1, none⟩ = false ∧ w.frozen? ⟨g, i * 4 + 2, none⟩ = false ∧ w.frozen? ⟨g, i * 4 + 3, none⟩ = false := by
  obtain ⟨row, h1, h0, h2⟩ := h
  rcases h1.2 with ⟨e, h0⟩ | ⟨g, cap', cur, e, hb, hg, hn, _, hs, ht⟩
  · omega
  · simp only [Value.slice.injEq] at e
    obtain ⟨rfl, _, rfl⟩ := e
    refine ⟨g, cur[i * 4]'(by omega), cur[i * 4 + 1]'(by omega), cur[i * 4 + 2]'(by omega), cur[i * 4 + 3]'(by omega), rfl, h0 g rfl, (Array.getElem?_eq_some_iff.1 hg).1, ?_, ?_, ?_, ?_, frozen_block hg _, frozen_block hg _, frozen_block hg _, frozen_block hg _⟩
    all_goals (rw [cell_block hg]; exact Array.getElem?_eq_getElem _)
theorem AllV.len_take {B : Nat → Prop} {w : World} {l : List V} {row : List Value} (h : AllV B w l row) {i : Nat} (hi : i ≤ l.length) : AllV B w (l.take i) (row.take (i * 4)) ∧ AllV B w (l.drop i) (row.drop (i * 4)) := by
  have hall := h
  rw [← List.take_append_drop i l] at hall
  obtain ⟨r1, r2, hr, k1, k2⟩ := AllV.split hall
  have hr1 := k1.len
  have e : (l.take i).length = i := by simp; omega
  rw [e] at hr1
  subst hr
  rw [List.take_left' hr1, List.drop_left' hr1]
  exact ⟨k1, k2⟩
theorem set4_list (cur : Array Value) (j : Nat) (x0 x1 x2 x3 : Value) (hj : j + 4 ≤ cur.size) : ((((cur.setIfInBounds j x0).setIfInBounds (j + 1) x1).setIfInBounds (j + 2) x2).setIfInBounds (j + 3) x3).toList = cur.toList.take j ++ [x0, x1, x2, x3] ++ cur.toList.drop (j + 4) := by
  apply List.ext_getElem?
  intro k
  simp only [Array.toList_setIfInBounds, List.append_assoc]
  by_cases hk : k < j
  · rw [List.getElem?_append_left (by simp; omega), List.getElem?_take, if_pos hk, List.getElem?_set_ne (by omega), List.getElem?_set_ne (by omega), List.getElem?_set_ne (by omega), List.getElem?_set_ne (by omega)]
  · have hl : (cur.toList.take j).length = j := by simp; omega
    rw [List.getElem?_append_right (by omega), hl]
    by_cases hk4 : k < j + 4
    · rw [List.getElem?_append_left (by simp; omega)]
      have hcases : k = j ∨ k = j + 1 ∨ k = j + 2 ∨ k = j + 3 := by omega
      rcases hcases with rfl | rfl | rfl | rfl
      · rw [List.getElem?_set_ne (by omega), List.getElem?_set_ne (by omega), List.getElem?_set_ne (by omega), List.getElem?_set_self (by simp; omega)]; simp
      · rw [List.getElem?_set_ne (by omega), List.getElem?_set_ne (by omega), List.getElem?_set_self (by simp; omega)]; simp
      · rw [List.getElem?_set_ne (by omega), List.getElem?_set_self (by simp; omega)]; simp
      · rw [List.getElem?_set_self (by simp; omega)]; simp
    · rw [List.getElem?_append_right (by simp; omega), List.getElem?_drop, List.getElem?_set_ne (by omega), List.getElem?_set_ne (by omega), List.getElem?_set_ne (by omega), List.getElem?_set_ne (by omega)]
      congr 1
      simp; omega
theorem take_mid (c X : List Value) (j n : Nat) (hX : X.length = 4) (h1 : j + 4 ≤ n) (h2 : n ≤ c.length) : (c.take j ++ X ++ c.drop (j + 4)).take n = (c.take n).take j ++ X ++ (c.take n).drop (j + 4) := by
  have hl : (c.take j ++ X).length = j + 4 := by simp; omega
  rw [List.take_append, hl, List.take_of_length_le (by omega), List.take_take, Nat.min_eq_left (by omega), List.drop_take]
/-- An element is set anew. -/
theorem Gv.set {P : Nat → Prop} {w : World} {g cap n : Nat} {acc : List V} (h : Gv P w (.slice (some ⟨g, 0, none⟩) n cap) acc) {i : Nat} (hi : i < acc.length) {x : V} {x0 x1 x2 x3 : Value} (hx : IsV (fun k => P k ∧ k ≠ g) w x [x0, x1, x2, x3]) :
    Gv P (set4At w g (i * 4) x0 x1 x2 x3) (.slice (some ⟨g, 0, none⟩) n cap) (acc.take i ++ [x] ++ acc.drop (i + 1)) := by
  have hob : ∀ k, (Value.slice (some ⟨g, 0, none⟩) n cap).ownBlock ≠ some k → k ≠ g := fun k hk e => hk (by rw [e]; rfl)
  have hob' : ∀ k, k ≠ g → (Value.slice (some ⟨g, 0, none⟩) n cap).ownBlock ≠ some k := fun k hk e => hk (by simpa [Value.ownBlock] using e.symm)
  obtain ⟨row, h1, hP, h2⟩ := h
  have hs : Since (fun k => P k ∧ (Value.slice (some ⟨g, 0, none⟩) n cap).ownBlock ≠ some k) w (set4At w g (i * 4) x0 x1 x2 x3) := since_set4At (fun h => hob g h.2 rfl) _ _ _ _ _
  have hll : (acc.take i ++ [x] ++ acc.drop (i + 1)).length = acc.length := by simp; omega
  rcases h1.2 with ⟨e, h0⟩ | ⟨g', cap', cur, e, hb, hg, hn, hm, hsz, ht⟩
  · omega
  · simp only [Value.slice.injEq, Option.some.injEq, Addr.mk.injEq, and_true] at e
    obtain ⟨rfl, rfl, rfl⟩ := e
    have hle : acc.length * 4 ≤ cap * 4 := Nat.mul_le_mul_right _ hn
    have hlist := set4_list cur (i * 4) x0 x1 x2 x3 (by omega)
    have hrow : ((((cur.setIfInBounds (i * 4) x0).setIfInBounds (i * 4 + 1) x1).setIfInBounds (i * 4 + 2) x2).setIfInBounds (i * 4 + 3) x3).toList.take (acc.length * 4) = row.take (i * 4) ++ [x0, x1, x2, x3] ++ row.drop ((i + 1) * 4) := by
      rw [hlist, take_mid _ _ _ _ rfl (by omega) (by simp; omega), ht, show i * 4 + 4 = (i + 1) * 4 by omega]
    obtain ⟨a1, a2⟩ := h2.len_take (i := i) (by omega)
    obtain ⟨b1, b2⟩ := h2.len_take (i := i + 1) (by omega)
    refine ⟨row.take (i * 4) ++ [x0, x1, x2, x3] ++ row.drop ((i + 1) * 4), ⟨?_, Or.inr ⟨g, cap, _, by rw [hll], hb, setCell_block (setCell_block (setCell_block (setCell_block hg _ _) _ _) _ _) _ _, by omega, hm, by simp [hsz], by rw [hll]; exact hrow⟩⟩, hP, ((a1.since hs).append (AllV.one ((hx.base (fun k hk _ => ⟨hk.1, hob' k hk.2⟩)).since hs))).append (b2.since hs)⟩
    have := h1.1
    simp; omega
theorem Gv.push {P : Nat → Prop} {w : World} {sl : Value} {acc : List V} (h : Gv P w sl acc) {l2 : List V} {nrow : List Value} {ad : Addr} (hpos : 0 < l2.length) (hl : nrow.length = l2.length * 4) (hnews : ∀ (j : Nat) (u : Value), nrow[j]? = some u → w.cell? (ad.add j) = some u) (hall2 : AllV (fun k => P k ∧ sl.ownBlock ≠ some k) w l2 nrow) (hn : acc.length + l2.length ≤ 1000000) (hm : ∀ k, w.heap.size ≤ k → P k) (c : Nat) (ty : TypeId) :
    ∃ g cap w', (Builtin.append_ #[22, 22] ty #[sl, .slice (some ad) l2.length c]).run Try.prog w = .ok (.slice (some ⟨g, 0, none⟩) (acc.length + l2.length) cap) w' ∧ Gv P w' (.slice (some ⟨g, 0, none⟩) (acc.length + l2.length) cap) (acc ++ l2) ∧ (∀ m, m ≤ w.heap.size → (∀ k, P k → m ≤ k) → Below m w w') ∧ (∀ k, k < w.heap.size → sl.ownBlock ≠ some k → w'.heap[k]? = w.heap[k]?) ∧ w.heap.size ≤ w'.heap.size := by
  obtain ⟨row, hown, hP, hall⟩ := h
  obtain ⟨i, hi, hz, hs, hb⟩ := info_parts valInfo
  obtain ⟨g, cap, w', hr, ho, hg, hat, hlt⟩ := run_append_lies (P := Try.prog) w 22 ty 0 24 i _ 4 56 Try.underlying22 hi hz hs hb rfl (by decide) sl acc.length row hown ad l2.length c nrow hl hnews hall2.ones hpos (by unfold maxLen; omega) (by omega) (Nat.zero_le _) _ rfl
  have hne : ∀ k, P k ∧ sl.ownBlock ≠ some k → k < w.heap.size → k ≠ g := by
    intro k hk hl he
    subst he
    rcases hat with h | h
    · exact hk.2 h
    · omega
  have hlow : ∀ k, (P k ∧ sl.ownBlock ≠ some k) → k < w.heap.size → P k ∧ (Value.slice (some ⟨g, 0, none⟩) (acc.length + l2.length) cap).ownBlock ≠ some k ∧ (P k ∧ sl.ownBlock ≠ some k) := fun k h1 h2 => ⟨h1.1, fun e => hne k h1 h2 (by simpa [Value.ownBlock] using e.symm), h1⟩
  have hsince : Since (fun k => P k ∧ (Value.slice (some ⟨g, 0, none⟩) (acc.length + l2.length) cap).ownBlock ≠ some k ∧ (P k ∧ sl.ownBlock ≠ some k)) w w' := ⟨hg.size, fun k h1 h2 => hg.block k h2 (fun e => h1.2.2.2 e.symm)⟩
  refine ⟨g, cap, w', hr, ⟨row ++ nrow, by simpa using ho, ?_, ?_⟩, fun m hm1 hm2 => (Below.refl _ _).grown hg hm1 (fun k hk => hm2 k (hP k hk)), fun k h1 h2 => hg.block k h1 (fun e => h2 e.symm), hg.size⟩
  · intro k hk
    have hk' : g = k := by simpa [Value.ownBlock] using hk
    rw [← hk']
    rcases hat with h | h
    · exact hP g h
    · exact hm g (by omega)
  · exact (((hall.base hlow).since hsince).append ((hall2.base hlow).since hsince)).base (fun k h _ => ⟨h.1, h.2.1⟩)
end Go.Proofs.Ytkbplffckkjbfaa
