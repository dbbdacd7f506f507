/- Texts of ours, joined: Mh, Vg, Vo, Vcc, Vnm, Dtk. -/
import Derived.Test.YtnijcolomoobnaaGreatDoorK08
import Derived.Test.YtnijcolomoobnaaGreatDoorK01
import Derived.Test.YtnijcolomoobnaaGreatDoorK00
import Derived.Laws.AppendOwn
import Derived.Laws.OwnMore
import Derived.Lib.AppendZeros
import Derived.Deep.LoopGhost
namespace Go.Proofs.YtnijcolomoobnaaGreatDoor
set_option linter.unusedVariables false
set_option linter.unusedSimpArgs false

theorem spl_get (l : List V) (f t : Nat) (xs : List V) (hf : f ≤ l.length) (j : Nat) : (spl l f t xs)[j]? = if j < f then l[j]? else if j < f + xs.length then xs[j - f]? else l[j - (f + xs.length) + t]? := by
  unfold spl
  have e1 : (l.take f).length = f := by simp; omega
  by_cases h1 : j < f
  · rw [if_pos h1, List.append_assoc, List.getElem?_append_left (by omega), List.getElem?_take, if_pos h1]
  · rw [if_neg h1]
    by_cases h2 : j < f + xs.length
    · rw [if_pos h2, List.getElem?_append_left (by simp; omega), List.getElem?_append_right (by omega), e1]
    · rw [if_neg h2, List.getElem?_append_right (by simp; omega), List.getElem?_drop]
      congr 1
      simp; omega
def Ent (l : List V) (a b : V) : Prop := ∃ i, l[2 * i]? = some a ∧ l[2 * i + 1]? = some b
structure MapS (kb : Bool) (E : Ty) (l : List V) : Prop where
  ev : l.length % 2 = 0
  len : l.length ≤ 128
  key : ∀ i x, l[2 * i]? = some x → KeyS kb x
  val : ∀ i x, l[2 * i + 1]? = some x → Shp E x
  rise : Rise l
theorem shp_mapS {kb : Bool} {E : Ty} {v : V} : Shp (.map kb E) v ↔ v.k = 5 ∧ v.n = 0 ∧ v.t = [] ∧ MapS kb E v.l := by
  rw [Shp]
  constructor
  · rintro ⟨h1, h2, h3, h4, h5, h6, h7, h8⟩
    exact ⟨h1, h2, h3, h4, h5, h6, h7, h8⟩
  · rintro ⟨h1, h2, h3, h4, h5, h6, h7, h8⟩
    exact ⟨h1, h2, h3, h4, h5, h6, h7, h8⟩
theorem Shp.tidy {T : Ty} {v : V} (h : Shp T v) : Tidy v := by
  intro h5
  have hk := h.kind
  rw [h5] at hk
  cases T with
  | map kb E => exact ⟨(shp_mapS.1 h).2.2.2.ev, (shp_mapS.1 h).2.2.2.rise⟩
  | _ => simp [kd] at hk
theorem kat_lt_key {k : V} {l : List V} {i : Nat} {a : V} (h : l[2 * i]? = some a) (hi : i < kat k l) : cmpV a k < 0 := kat_lo k l i a hi h
theorem kat_ge_key {k : V} {l : List V} (he : l.length % 2 = 0) (hr : Rise l) {i : Nat} {a : V} (h : l[2 * i]? = some a) (hi : kat k l ≤ i) : ¬ cmpV a k < 0 := by
  have hlt := (List.getElem?_eq_some_iff.1 h).1
  have hq : l[2 * kat k l]? = some l[2 * kat k l] := List.getElem?_eq_getElem (by omega)
  have h1 := kat_hi k l _ (by omega) hq
  by_cases e : kat k l = i
  · subst e
    rw [h] at hq
    rw [Option.some.inj hq]; exact h1
  · intro h2
    exact h1 (cmpV_lt_trans (hr.lt (i := kat k l) (j := i) (by omega) hq h) h2)
theorem MapS.set {kb : Bool} {E : Ty} {l : List V} {k x : V} (h : MapS kb E l) (hx : Shp E x) (hh : hit k l = true) :
    MapS kb E (spl l (2 * kat k l + 1) (2 * kat k l + 1 + 1) [x]) ∧ Ent (spl l (2 * kat k l + 1) (2 * kat k l + 1 + 1) [x]) k x ∧ ∀ a b, Ent l a b → a ≠ k → Ent (spl l (2 * kat k l + 1) (2 * kat k l + 1 + 1) [x]) a b := by
  have hk := hit_some hh
  have hlt := (List.getElem?_eq_some_iff.1 hk).1
  have hev := h.ev
  generalize kat k l = q at *
  have hg := spl_get l (2 * q + 1) (2 * q + 1 + 1) [x] (by omega)
  have hkey : ∀ i, (spl l (2 * q + 1) (2 * q + 1 + 1) [x])[2 * i]? = l[2 * i]? := by
    intro i
    rw [hg]
    simp only [List.length_cons, List.length_nil]
    split
    · rfl
    · rw [if_neg (by omega)]
      congr 1
      omega
  have hval : ∀ i, i ≠ q → (spl l (2 * q + 1) (2 * q + 1 + 1) [x])[2 * i + 1]? = l[2 * i + 1]? := by
    intro i hi
    rw [hg]
    simp only [List.length_cons, List.length_nil]
    split
    · rfl
    · rw [if_neg (by omega)]
      congr 1
      omega
  have hvq : (spl l (2 * q + 1) (2 * q + 1 + 1) [x])[2 * q + 1]? = some x := by
    rw [hg, if_neg (by omega), if_pos (by simp)]
    simp
  have hlen : (spl l (2 * q + 1) (2 * q + 1 + 1) [x]).length = l.length := by unfold spl; simp; omega
  refine ⟨⟨by rw [hlen]; exact hev, by rw [hlen]; exact h.len, fun i y hy => h.key i y (by rw [← hkey]; exact hy), fun i y hy => ?_, fun i a b ha hb => h.rise i a b (by rw [← hkey]; exact ha) (by rw [show 2 * i + 2 = 2 * (i + 1) by omega] at hb ⊢; rw [← hkey]; exact hb)⟩, ⟨q, by rw [hkey]; exact hk, hvq⟩, ?_⟩
  · by_cases hi : i = q
    · subst hi
      rw [hvq] at hy
      rw [← Option.some.inj hy]; exact hx
    · exact h.val i y (by rw [← hval i hi]; exact hy)
  · rintro a b ⟨i, h1, h2⟩ hne
    have hi : i ≠ q := by rintro rfl; rw [hk] at h1; exact hne (Option.some.inj h1).symm
    exact ⟨i, by rw [hkey]; exact h1, by rw [hval i hi]; exact h2⟩
theorem MapS.ins {kb : Bool} {E : Ty} {l : List V} {k x : V} (h : MapS kb E l) (hk : KeyS kb k) (hx : Shp E x) (hh : hit k l = false) (hl : l.length < 128) :
    MapS kb E (spl l (2 * kat k l) (2 * kat k l) [k, x]) ∧ Ent (spl l (2 * kat k l) (2 * kat k l) [k, x]) k x ∧ ∀ a b, Ent l a b → Ent (spl l (2 * kat k l) (2 * kat k l) [k, x]) a b := by
  have hle := kat_le k l
  have hev := h.ev
  have hlo := fun i a (ha : l[2 * i]? = some a) (hi : i < kat k l) => kat_lt_key ha hi
  have hhi : ∀ i a, l[2 * i]? = some a → kat k l ≤ i → cmpV k a < 0 := by
    intro i a ha hi
    have h1 := kat_ge_key (k := k) h.ev h.rise ha hi
    have h2 := cmpV_neg k a
    have h3 : ¬ cmpV a k = 0 := by
      intro e
      have e' := (cmpV_zero a k).1 e
      subst e'
      have := (hit_at h.rise h.ev ha).2
      rw [hh] at this; cases this
    omega
  generalize kat k l = q at *
  have hg := spl_get l (2 * q) (2 * q) [k, x] (by omega)
  have g1 : ∀ j, j < 2 * q → (spl l (2 * q) (2 * q) [k, x])[j]? = l[j]? := fun j hj => by rw [hg, if_pos hj]
  have g2 : (spl l (2 * q) (2 * q) [k, x])[2 * q]? = some k := by rw [hg, if_neg (by omega), if_pos (by simp)]; simp
  have g3 : (spl l (2 * q) (2 * q) [k, x])[2 * q + 1]? = some x := by rw [hg, if_neg (by omega), if_pos (by simp)]; simp
  have g4 : ∀ j, 2 * q ≤ j → (spl l (2 * q) (2 * q) [k, x])[j + 2]? = l[j]? := fun j hj => by
    rw [hg, if_neg (by omega), if_neg (by simp; omega)]
    congr 1
    simp; omega
  have hlen : (spl l (2 * q) (2 * q) [k, x]).length = l.length + 2 := by unfold spl; simp; omega
  -- a key, by its place
  have hkey : ∀ i y, (spl l (2 * q) (2 * q) [k, x])[2 * i]? = some y → (i < q ∧ l[2 * i]? = some y) ∨ (i = q ∧ y = k) ∨ (q < i ∧ l[2 * (i - 1)]? = some y) := by
    intro i y hy
    rcases Nat.lt_trichotomy i q with hi | hi | hi
    · exact Or.inl ⟨hi, by rw [← g1 _ (by omega)]; exact hy⟩
    · subst hi; rw [g2] at hy; exact Or.inr (Or.inl ⟨rfl, (Option.some.inj hy).symm⟩)
    · refine Or.inr (Or.inr ⟨hi, ?_⟩)
      rw [← g4 _ (by omega), show 2 * (i - 1) + 2 = 2 * i by omega]; exact hy
  refine ⟨⟨by omega, by omega, fun i y hy => ?_, fun i y hy => ?_, fun i a b ha hb => ?_⟩, ⟨q, g2, g3⟩, ?_⟩
  · rcases hkey i y hy with ⟨_, h1⟩ | ⟨_, rfl⟩ | ⟨_, h1⟩
    · exact h.key _ _ h1
    · exact hk
    · exact h.key _ _ h1
  · rcases Nat.lt_trichotomy i q with hi | hi | hi
    · exact h.val i y (by rw [← g1 _ (by omega)]; exact hy)
    · subst hi; rw [g3] at hy; rw [← Option.some.inj hy]; exact hx
    · exact h.val (i - 1) y (by rw [← g4 _ (by omega), show 2 * (i - 1) + 1 + 2 = 2 * i + 1 by omega]; exact hy)
  · rw [show 2 * i + 2 = 2 * (i + 1) by omega] at hb
    rcases hkey i a ha with ⟨i1, h1⟩ | ⟨i1, rfl⟩ | ⟨i1, h1⟩
    · rcases hkey (i + 1) b hb with ⟨j1, h2⟩ | ⟨j1, rfl⟩ | ⟨j1, h2⟩
      · exact h.rise.lt (i := i) (j := i + 1) (by omega) h1 h2
      · exact hlo i a h1 i1
      · omega
    · rcases hkey (i + 1) b hb with ⟨j1, h2⟩ | ⟨j1, e⟩ | ⟨j1, h2⟩
      · omega
      · omega
      · exact hhi _ b h2 (by omega)
    · rcases hkey (i + 1) b hb with ⟨j1, h2⟩ | ⟨j1, e⟩ | ⟨j1, h2⟩
      · omega
      · omega
      · exact h.rise.lt (i := i - 1) (j := i + 1 - 1) (by omega) h1 h2
  · rintro a b ⟨i, h1, h2⟩
    by_cases hi : i < q
    · exact ⟨i, by rw [g1 _ (by omega)]; exact h1, by rw [g1 _ (by omega)]; exact h2⟩
    · exact ⟨i + 1, by rw [show 2 * (i + 1) = 2 * i + 2 by omega, g4 _ (by omega)]; exact h1, by rw [show 2 * (i + 1) + 1 = 2 * i + 1 + 2 by omega, g4 _ (by omega)]; exact h2⟩
end Go.Proofs.YtnijcolomoobnaaGreatDoor
namespace Go.Proofs.YtnijcolomoobnaaGreatDoor
open Go.RowKit
set_option linter.unusedVariables false
set_option linter.unusedSimpArgs false

theorem setCell_block {w : World} {G : Nat} {arr : Array Value} {T : TypeId} (h : w.heap[G]? = some (.cells arr T (0, 0))) (i : Nat) (x : Value) : (w.setCell ⟨G, i, none⟩ x).heap[G]? = some (.cells (arr.setIfInBounds i x) T (0, 0)) := by
  simp [World.setCell, Array.getElem?_modify, h]
theorem cell_block {w : World} {G : Nat} {arr : Array Value} {T : TypeId} (h : w.heap[G]? = some (.cells arr T (0, 0))) (i : Nat) : w.cell? ⟨G, i, none⟩ = arr[i]? := by
  simp [World.cell?, h]
theorem frozen_block {w : World} {G : Nat} {arr : Array Value} {T : TypeId} (h : w.heap[G]? = some (.cells arr T (0, 0))) (i : Nat) : w.frozen? ⟨G, i, none⟩ = false := by
  simp [World.frozen?, h]
abbrev set4At (w : World) (g i : Nat) (x0 x1 x2 x3 : Value) : World := (((w.setCell ⟨g, i, none⟩ x0).setCell ⟨g, i + 1, none⟩ x1).setCell ⟨g, i + 2, none⟩ x2).setCell ⟨g, i + 3, none⟩ x3
theorem below_set4At {n : Nat} {w w' : World} (h : Below n w w') {g : Nat} (hg : n ≤ g) (i : Nat) (x0 x1 x2 x3 : Value) : Below n w (set4At w' g i x0 x1 x2 x3) := ((((h.setCell (p := ⟨g, i, none⟩) hg x0).setCell (p := ⟨g, i + 1, none⟩) hg x1).setCell (p := ⟨g, i + 2, none⟩) hg x2).setCell (p := ⟨g, i + 3, none⟩) hg x3)
theorem set4At_other {w : World} {g k : Nat} (hk : k ≠ g) (i : Nat) (x0 x1 x2 x3 : Value) : (set4At w g i x0 x1 x2 x3).heap[k]? = w.heap[k]? := by
  simp only [set4At]
  rw [Below.heap_setCell _ _ _ _ hk, Below.heap_setCell _ _ _ _ hk, Below.heap_setCell _ _ _ _ hk, Below.heap_setCell _ _ _ _ hk]
theorem set4At_size (w : World) (g i : Nat) (x0 x1 x2 x3 : Value) : (set4At w g i x0 x1 x2 x3).heap.size = w.heap.size := by simp [set4At, World.setCell]
theorem since_set4At {w : World} {g : Nat} {B : Nat → Prop} (hg : ¬ B g) (i : Nat) (x0 x1 x2 x3 : Value) : Since B w (set4At w g i x0 x1 x2 x3) := ⟨by rw [set4At_size]; exact Nat.le_refl _, fun k h1 _ => set4At_other (fun e => hg (by rw [← e]; exact h1)) i x0 x1 x2 x3⟩
theorem set4_blk {w : World} {g : Nat} {y0 y1 y2 y3 : Value} {T : TypeId} (h : w.heap[g]? = some (.cells #[y0, y1, y2, y3] T (0, 0))) (x0 x1 x2 x3 : Value) : (set4 w g x0 x1 x2 x3).heap[g]? = some (.cells #[x0, x1, x2, x3] T (0, 0)) := by
  simp [set4, World.setCell, Array.getElem?_modify, h]
theorem rbox_blk {w w0 w3 : World} {o : Obj} (hW : w.alloc o = w0) (hb : Below w0.heap.size w0 w3) : w3.heap[w.heap.size]? = some o := by
  subst hW
  rw [hb.block _ (by simp)]
  exact heap_new w o
theorem set_3 {w : World} {g : Nat} {y0 y1 y2 y3 : Value} {T : TypeId} (h : w.heap[g]? = some (.cells #[y0, y1, y2, y3] T (0, 0))) (x : Value) : (w.setCell ⟨g, 3, none⟩ x).heap[g]? = some (.cells #[y0, y1, y2, x] T (0, 0)) := by
  simp [World.setCell, Array.getElem?_modify, h]
theorem set4At_cell {w : World} {g b o i : Nat} {x0 x1 x2 x3 : Value} (h : b ≠ g) : (set4At w g i x0 x1 x2 x3).cell? ⟨b, o, none⟩ = w.cell? ⟨b, o, none⟩ := World.cell?_of_block (set4At_other h i x0 x1 x2 x3)
def Fill (B : Nat → Prop) (w : World) (G n : Nat) (l : List V) : Prop := ∃ arr : Array Value, w.heap[G]? = some (.cells arr 31 (0, 0)) ∧ arr.size = n * 4 ∧ l.length ≤ n ∧ AllV B w l (arr.toList.take (l.length * 4))
theorem Fill.lt {B : Nat → Prop} {w : World} {G n : Nat} {l : List V} (h : Fill B w G n l) : G < w.heap.size := by
  obtain ⟨arr, h1, _⟩ := h
  exact (Array.getElem?_eq_some_iff.1 h1).1
theorem Fill.new {B : Nat → Prop} {w : World} {arr : Array Value} {n : Nat} (h : arr.size = n * 4) : Fill B (w.alloc (.cells arr 31)) w.heap.size n [] :=
  ⟨arr, heap_new _ _, h, Nat.zero_le _, by simp [AllV]⟩
theorem Fill.since {B : Nat → Prop} {w w' : World} {G n : Nat} {l : List V} (h : Fill B w G n l) (s : Since B w w') (hG : w'.heap[G]? = w.heap[G]?) : Fill B w' G n l := by
  obtain ⟨arr, h1, h2, h3, h4⟩ := h
  exact ⟨arr, by rw [hG]; exact h1, h2, h3, h4.since s⟩
theorem Fill.below {B : Nat → Prop} {w w' : World} {G n : Nat} {l : List V} (h : Fill B w G n l) (s : Below w.heap.size w w') : Fill B w' G n l := h.since (Since.of_below s) (s.block G h.lt)
theorem Fill.cells {B : Nat → Prop} {w : World} {G n : Nat} {l : List V} (h : Fill B w G n l) {q : Nat} (hq : q < n) : ∃ y0 y1 y2 y3, w.cell? ⟨G, q * 4, none⟩ = some y0 ∧ w.cell? ⟨G, q * 4 + 1, none⟩ = some y1 ∧ w.cell? ⟨G, q * 4 + 2, none⟩ = some y2 ∧ w.cell? ⟨G, q * 4 + 3, none⟩ = some y3 ∧
    w.frozen? ⟨G, q * 4, none⟩ = false ∧ w.frozen? ⟨G, q * 4 + 1, none⟩ = false ∧ w.frozen? ⟨G, q * 4 + 2, none⟩ = false ∧ w.frozen? ⟨G, q * 4 + 3, none⟩ = false := by
  obtain ⟨arr, h1, h2, h3, h4⟩ := h
  refine ⟨arr[q * 4]'(by omega), arr[q * 4 + 1]'(by omega), arr[q * 4 + 2]'(by omega), arr[q * 4 + 3]'(by omega), ?_, ?_, ?_, ?_, frozen_block h1 _, frozen_block h1 _, frozen_block h1 _, frozen_block h1 _⟩
  all_goals (rw [cell_block h1]; exact Array.getElem?_eq_getElem _)
theorem Fill.step {B : Nat → Prop} {w : World} {G n : Nat} {l : List V} (h : Fill B w G n l) (hB : ¬ B G) (hq : l.length < n) {x : V} {x0 x1 x2 x3 : Value} (hx : IsV B w x [x0, x1, x2, x3]) : Fill B (set4At w G (l.length * 4) x0 x1 x2 x3) G n (l ++ [x]) := by
  have hs : Since B w (set4At w G (l.length * 4) x0 x1 x2 x3) := since_set4At hB _ _ _ _ _
  obtain ⟨arr, h1, h2, h3, h4⟩ := h
  refine ⟨_, setCell_block (setCell_block (setCell_block (setCell_block h1 _ _) _ _) _ _) _ _, by simp [h2], by simp; omega, ?_⟩
  have hl := h4.len
  have e : (((((arr.setIfInBounds (l.length * 4) x0).setIfInBounds (l.length * 4 + 1) x1).setIfInBounds (l.length * 4 + 2) x2).setIfInBounds (l.length * 4 + 3) x3).toList.take ((l ++ [x]).length * 4)) = arr.toList.take (l.length * 4) ++ [x0, x1, x2, x3] := by
    apply List.ext_getElem?
    intro j
    have hlen : (l ++ [x]).length * 4 = l.length * 4 + 4 := by simp; omega
    rw [hlen, List.getElem?_take]
    by_cases hj : j < l.length * 4
    · rw [if_pos (by omega), List.getElem?_append_left (by simp; omega), List.getElem?_take, if_pos hj]
      simp only [Array.toList_setIfInBounds]
      rw [List.getElem?_set_ne (by omega), List.getElem?_set_ne (by omega), List.getElem?_set_ne (by omega), List.getElem?_set_ne (by omega)]
    · by_cases hj4 : j < l.length * 4 + 4
      · rw [if_pos hj4, List.getElem?_append_right (by simp; omega)]
        have hl2 : (arr.toList.take (l.length * 4)).length = l.length * 4 := by simp; omega
        rw [hl2]
        simp only [Array.toList_setIfInBounds]
        have hcases : j = l.length * 4 ∨ j = l.length * 4 + 1 ∨ j = l.length * 4 + 2 ∨ j = l.length * 4 + 3 := by omega
        rcases hcases with rfl | rfl | rfl | rfl
        · rw [List.getElem?_set_ne (by omega), List.getElem?_set_ne (by omega), List.getElem?_set_ne (by omega), List.getElem?_set_self (by simp; omega)]; simp
        · rw [List.getElem?_set_ne (by omega), List.getElem?_set_ne (by omega), List.getElem?_set_self (by simp; omega)]; simp
        · rw [List.getElem?_set_ne (by omega), List.getElem?_set_self (by simp; omega)]; simp
        · rw [List.getElem?_set_self (by simp; omega)]; simp
      · rw [if_neg hj4, List.getElem?_eq_none (by simp; omega)]
  rw [e]
  exact (h4.since hs).append (AllV.one (hx.since hs))
theorem Fill.done {B B' : Nat → Prop} {w : World} {G n : Nat} {l : List V} (h : Fill B w G n l) (hn : l.length = n) (hb : ∀ k, B k → k < w.heap.size → B' k) (hG : B' G) (hm : n ≤ maxLen) : IsVs B' w l (.slice (some ⟨G, 0, none⟩) l.length n) := by
  have hlt := h.lt
  obtain ⟨arr, h1, h2, h3, h4⟩ := h
  refine ⟨arr.toList.take (l.length * 4), ⟨h4.len, Or.inr ⟨G, 0, n, rfl, by omega, hm, hG, hlt, fun j u hj => ?_⟩⟩, h4.base hb⟩
  rw [cell_block h1, Nat.zero_add]
  rw [List.getElem?_take] at hj
  split at hj
  · simpa using hj
  · cases hj
end Go.Proofs.YtnijcolomoobnaaGreatDoor
namespace Go.Proofs.YtnijcolomoobnaaGreatDoor
open Go.RowKit
set_option linter.unusedVariables false
set_option linter.unusedSimpArgs false

theorem info_parts {T : TypeId} {z : Value} {size bytes : Nat} (h : (Tryz.prog.info? T).map (fun i => (i.zero, i.size, i.bytes)) = some (some z, size, bytes)) : ∃ i, Tryz.prog.info? T = some i ∧ i.zero = some z ∧ i.size = size ∧ i.bytes = bytes := by
  rcases hi : Tryz.prog.info? T with _ | i
  · rw [hi] at h; cases h
  · rw [hi] at h
    simp only [Option.map_some, Option.some.injEq, Prod.mk.injEq] at h
    exact ⟨i, rfl, h.1, h.2.1, h.2.2⟩
theorem valInfo : (Tryz.prog.info? 31).map (fun i => (i.zero, i.size, i.bytes)) = some (some (.agg #[.int .i64 0, .int .i64 0, .string ⟨#[]⟩, .slice none 0 0]), 4, 56) := by kernel_rfl
theorem grown_same (w : World) (row : Option Nat) : w.grownBy w row := ⟨rfl, rfl, rfl, Nat.le_refl _, fun _ _ _ => rfl⟩
theorem owns_slice {w : World} {base e size n : Nat} {v : Value} {xs : List Value} (h : w.ownsRow base e size v n xs) : ∃ ao cap, v = .slice ao n cap ∧ n ≤ cap ∧ cap ≤ maxLen := by
  rcases h.2 with ⟨h1, h0⟩ | ⟨g, cap, cur, h1, h2, h3, h4, h5, _⟩
  · exact ⟨none, 0, by rw [h1, h0], by omega, by unfold maxLen; omega⟩
  · exact ⟨_, cap, h1, h4, h5⟩
theorem owns_base {w : World} {base base' e size n : Nat} {v : Value} {xs : List Value} (h : w.ownsRow base e size v n xs) (hb : base' ≤ base) : w.ownsRow base' e size v n xs := by
  refine ⟨h.1, ?_⟩
  rcases h.2 with h1 | ⟨g, cap, cur, h1, h2, h3⟩
  · exact Or.inl h1
  · exact Or.inr ⟨g, cap, cur, h1, by omega, h3⟩
theorem app_run {T E : TypeId} {z : Value} {size bytes : Nat} (ht : Tryz.prog.underlying T = some (.slice E)) (hinfo : (Tryz.prog.info? E).map (fun i => (i.zero, i.size, i.bytes)) = some (some z, size, bytes)) (hzs : z.cells.size = size) (hsz : 0 < size) (ty : TypeId)
    {w : World} {base n m c : Nat} {v : Value} {xs news : List Value} {ad : Option Addr} (hown : w.ownsRow base E size v n xs) (hnil : ad = none → m = 0 ∧ c = 0) (hl : news.length = m * size) (hnews : ∀ b, ad = some b → ∀ j u, news[j]? = some u → w.cell? (b.add j) = some u) (h1 : ∀ u ∈ news, u.oneCell' = true)
    (hn : n + m ≤ 100000000) (hby : bytes ≤ 1000) (hbase : base ≤ w.heap.size) :
    ∃ ao cap w', (Builtin.append_ #[T, T] ty #[v, .slice ad m c]).run Tryz.prog w = .ok (.slice ao (n + m) cap) w' ∧ w'.ownsRow base E size (.slice ao (n + m) cap) (n + m) (xs ++ news) ∧ Below base w w' ∧ w.grownBy w' v.ownBlock := by
  obtain ⟨i, hi, hz, hs, hb⟩ := info_parts hinfo
  cases ad with
  | none =>
    obtain ⟨rfl, rfl⟩ := hnil rfl
    have hne : news = [] := List.length_eq_zero_iff.1 (by omega)
    subst hne
    obtain ⟨ao, cap, rfl, h2, h3⟩ := owns_slice hown
    refine ⟨ao, cap, w, ?_, by simpa using hown, Below.refl _ _, grown_same _ _⟩
    exact run_append_owned_none (P := Tryz.prog) (w := w) base T ty E i size ht hi _ n xs hown
  | some b =>
    have hmul : (n + m) * bytes ≤ 100000000 * 1000 := Nat.mul_le_mul hn hby
    obtain ⟨v', w', hr, ho, hg, _⟩ := run_append_own (P := Tryz.prog) w base T ty E i z size bytes ht hi hz hs hb hzs hsz v n xs hown b m c news hl (hnews b rfl) h1 (by unfold maxLen; omega) (by omega) hbase
    obtain ⟨ao, cap, rfl, _, _⟩ := owns_slice ho
    exact ⟨ao, cap, w', hr, ho, (Below.refl _ _).grown hg hbase (fun k hk => (hown.lt k hk).1), hg⟩
set_option maxRecDepth 100000 in
set_option maxHeartbeats 1000000 in
theorem grow_nil (n : Nat) (hn : n ≤ 1000000) (w : World) : Calls Tryz.prog 101 #[.slice none 0 0, .int .i64 n] w fun r w' => (∃ ao cap, r = .returned (.slice ao 0 cap) ∧ w'.ownsRow w.heap.size 31 4 (.slice ao 0 cap) 0 []) ∧ Below w.heap.size w w' := by
  have h0 : ¬ (n : Int) < 0 := by omega
  by_cases hz : n = 0
  · subst hz
    go_enter Tryz.func101, Tryz.ntmps101
    go_wp2
    go_ret
    exact ⟨⟨none, 0, rfl, World.ownsRow_nil _ _ _ _⟩, Below.refl _ _⟩
  · obtain ⟨i, hi, hzz, hs, hb⟩ := info_parts valInfo
    have hr := Lib.run_append_nil_zeros (P := Tryz.prog) w 22 3 22 31 i _ .i64 .i64 Tryz.underlying22 Tryz.underlying3 hi hzz n (by omega) (by omega) (by omega) (by rw [hb]; omega)
    have hge := grownCap_ge w n 0 31
    have hle := grownCap_le_maxLen w n 0 31 (by unfold maxLen; omega)
    have hpos : (0 : Int) < (n : Int) := by omega
    have hposN : 0 < n := by omega
    generalize grownCap w n 0 31 = cp at *
    have hsz : (Builtin.zeroCells (Value.agg #[.int .i64 0, .int .i64 0, .string ⟨#[]⟩, .slice none 0 0]).cells n ++ Builtin.zeroCells (Value.agg #[.int .i64 0, .int .i64 0, .string ⟨#[]⟩, .slice none 0 0]).cells (cp - n)).size = cp * 4 := by
      rw [Array.size_append, size_zeroCells, size_zeroCells]
      show n * 4 + (cp - n) * 4 = cp * 4
      omega
    generalize Builtin.zeroCells (Value.agg #[.int .i64 0, .int .i64 0, .string ⟨#[]⟩, .slice none 0 0]).cells n ++ Builtin.zeroCells (Value.agg #[.int .i64 0, .int .i64 0, .string ⟨#[]⟩, .slice none 0 0]).cells (cp - n) = arr at *
    unfold maxLen at hle
    clear hz hzz hs hb hi
    have hcI : (0 : Int) ≤ (cp : Int) := by omega
    go_enter Tryz.func101, Tryz.ntmps101
    go_wp2_with (at_builtin; refine Lib.wpList_append_run _ rfl _ _ 22 3 rfl (.slice none 0 0) (.int .i64 n) rfl rfl _ _ hr ?_)
    go_ret
    refine ⟨⟨some ⟨w.heap.size, 0, none⟩, cp, ?_, ?_⟩, ?_⟩
    · rfl
    · exact World.ownsRow_made (w := w.drew) arr cp (Nat.le_refl _) (by unfold maxLen; omega) hsz
    · exact ((Below.refl _ _).drew).alloc (Nat.le_refl _) _
end Go.Proofs.YtnijcolomoobnaaGreatDoor
namespace Go.Proofs.YtnijcolomoobnaaGreatDoor
open Go.RowKit
set_option linter.unusedVariables false
set_option linter.unusedSimpArgs false

abbrev Lob (B : Nat → Prop) (n : Nat) : Nat → Prop := fun k => B k ∧ k < n
abbrev Up (B : Nat → Prop) (n : Nat) : Nat → Prop := fun k => (B k ∧ k < n) ∨ n ≤ k
theorem since_lo {B : Nat → Prop} {n : Nat} {w w' : World} (h : Below n w w') : Since (Lob B n) w w' := ⟨h.size, fun k h1 _ => h.block k h1.2⟩
theorem owns_vs {B : Nat → Prop} {w : World} {base n : Nat} {v : Value} {row : List Value} {l : List V} (h : w.ownsRow base 31 4 v n row) (hl : l.length = n) (ha : AllV B w l row) {B' : Nat → Prop} (hb : ∀ k, B k → k < w.heap.size → B' k) (hB' : ∀ k, base ≤ k → B' k) : IsVs B' w l v := by
  refine ⟨row, ⟨by rw [hl]; exact h.1, ?_⟩, ha.base hb⟩
  rcases h.2 with ⟨h1, h0⟩ | ⟨g, cap, cur, h1, h2, h3, h4, h5, h6, h7⟩
  · exact Or.inl ⟨Or.inl h1, by omega⟩
  · refine Or.inr ⟨g, 0, cap, by rw [hl]; exact h1, by omega, h5, hB' g h2, (Array.getElem?_eq_some_iff.1 h3).1, fun j u hj => ?_⟩
    rw [cell_block h3, Nat.zero_add]
    rw [← h7, List.getElem?_take] at hj
    split at hj
    · simpa using hj
    · cases hj
theorem AllV.ones {B : Nat → Prop} {w : World} : ∀ {l : List V} {row : List Value}, AllV B w l row → ∀ u ∈ row, u.oneCell' = true
  | [], row, h => by rw [AllV] at h; subst h; simp
  | a :: r, row, h => by
    rw [AllV] at h
    obtain ⟨c1, c2, rfl, h1, h2⟩ := h
    obtain ⟨sl, rfl, hw⟩ := isV_iff.1 h1
    obtain ⟨ao, cap, rfl, _, _⟩ := hw.vs.slice
    have ih := AllV.ones h2
    intro u hu
    rcases List.mem_append.1 hu with hu | hu
    · simp only [List.mem_cons, List.not_mem_nil, or_false] at hu
      rcases hu with rfl | rfl | rfl | rfl <;> rfl
    · exact ih u hu
theorem IsVs.news {B : Nat → Prop} {w : World} {l : List V} {ad : Option Addr} {n c : Nat} (h : IsVs B w l (.slice ad n c)) : ∃ row, row.length = l.length * 4 ∧ AllV B w l row ∧ (ad = none → l.length = 0 ∧ c = 0) ∧ ∀ b, ad = some b → ∀ j u, row[j]? = some u → w.cell? (b.add j) = some u := by
  obtain ⟨row, ⟨h1, h2⟩, h3⟩ := h
  refine ⟨row, h1, h3, ?_, ?_⟩
  · rintro rfl
    rcases h2 with ⟨e | ⟨a, cap, e, _⟩, h0⟩ | ⟨g, o, cap, e, _⟩
    · simp only [Value.slice.injEq] at e; exact ⟨h0, e.2.2⟩
    · simp at e
    · simp at e
  · rintro b rfl j u hu
    rcases h2 with ⟨-, h0⟩ | ⟨g, o, cap, e, _, _, _, _, hc⟩
    · have := (List.getElem?_eq_some_iff.1 hu).1
      omega
    · simp only [Value.slice.injEq, Option.some.injEq] at e
      obtain ⟨rfl, _, _⟩ := e
      have := hc j u hu
      by_cases hj : j = 0
      · subst hj; simpa [Addr.add] using this
      · simpa [Addr.add, hj] using this
def catL (L : Nat → List V) : Nat → List V
  | 0 => []
  | q + 1 => catL L q ++ L q
theorem catL_len (L : Nat → List V) (q : Nat) : (catL L (q + 1)).length = (catL L q).length + (L q).length := by simp [catL]
theorem catL_le (L : Nat → List V) (q : Nat) (h : q ≤ 3) : (catL L q).length ≤ (catL L 3).length := by
  have h1 : (catL L 1).length = _ := catL_len L 0
  have h2 : (catL L 2).length = _ := catL_len L 1
  have h3 : (catL L 3).length = _ := catL_len L 2
  have : q = 0 ∨ q = 1 ∨ q = 2 ∨ q = 3 := by omega
  rcases this with rfl | rfl | rfl | rfl <;> omega
set_option maxRecDepth 100000 in
set_option maxHeartbeats 2000000 in
theorem concat_any {B : Nat → Prop} {L : Nat → List V} {a : Nat → Option Addr} {c : Nat → Nat} {g0 : Nat} {w : World} (hcell : ∀ q, q < 3 → w.cell? ⟨g0, q, none⟩ = some (.slice (a q) (L q).length (c q))) (hg0 : g0 < w.heap.size)
    (hvs : ∀ q, q < 3 → IsVs B w (L q) (.slice (a q) (L q).length (c q))) (hsum : (catL L 3).length ≤ 1000000) :
    Calls Tryz.prog 66 #[.slice (some ⟨g0, 0, none⟩) 3 3] w fun r w' => (∃ ao cap, r = .returned (.slice ao (catL L 3).length cap) ∧ IsVs (Up B w.heap.size) w' (catL L 3) (.slice ao (catL L 3).length cap)) ∧ Below w.heap.size w w' := by
  have hvs' : ∀ q, q < 3 → IsVs (Lob B w.heap.size) w (L q) (.slice (a q) (L q).length (c q)) := fun q hq => (hvs q hq).base (fun k h1 h => ⟨h1, h⟩)
  have hG := grow_nil (catL L 3).length (by omega) w
  have hround : ∀ (q : Nat) (wr : World) (v : Value) (row : List Value), q < 3 → Below w.heap.size w wr → wr.ownsRow w.heap.size 31 4 v (catL L q).length row → AllV (Lob B w.heap.size) wr (catL L q) row →
      ∃ ao cap w', (Builtin.append_ #[22, 22] 22 #[v, .slice (a q) (L q).length (c q)]).run Tryz.prog wr = .ok (.slice ao (catL L (q + 1)).length cap) w' ∧ (∃ row', w'.ownsRow w.heap.size 31 4 (.slice ao (catL L (q + 1)).length cap) (catL L (q + 1)).length row' ∧ AllV (Lob B w.heap.size) w' (catL L (q + 1)) row') ∧ Below w.heap.size w w' := by
    intro q wr v row hq hB hown hall
    obtain ⟨nrow, n1, n2, n3, n4⟩ := ((hvs' q hq).since (since_lo hB)).news
    have hle := catL_le L (q + 1) (by omega)
    have hll := catL_len L q
    obtain ⟨ao, cap, w', hr, ho, hb, _⟩ := app_run Tryz.underlying22 valInfo rfl (by decide) 22 hown n3 n1 n4 n2.ones (by omega) (by decide) hB.size
    rw [← hll] at hr ho
    exact ⟨ao, cap, w', hr, ⟨_, ho, (hall.since (since_lo hb)).append (n2.since (since_lo hb))⟩, hB.trans hb⟩
  have hcl : ∀ (q : Nat) (wr : World), q < 3 → Below w.heap.size w wr → wr.cell? ⟨g0, q, none⟩ = some (.slice (a q) (L q).length (c q)) := fun q wr hq hB => ((bcell hB).1 _ _ hg0).trans (hcell q hq)
  clear hvs hvs' hcell
  go_enter Tryz.func66, Tryz.ntmps66
  go_wp2_with fail
  go_loopg [3, 11] 3 (fun g s i wr => ∃ q : Nat, q ≤ 3 ∧ g = 3 - q ∧ i = .int .i64 q ∧ s = .int .i64 (catL L q).length ∧ w = wr)
  case atStart => exact ⟨0, by omega, rfl, rfl, rfl, rfl⟩
  case round =>
    obtain ⟨q, hq, rfl, rfl, rfl, rfl⟩ := hrel
    by_cases hlt : q < 3
    · have hltI : (q : Int) < 3 := by omega
      have hc := hcl q w hlt (Below.refl _ _)
      have hle := catL_le L (q + 1) (by omega)
      have hll := catL_len L q
      have Hll : Hid ((catL L (q + 1)).length = (catL L q).length + (L q).length) := hll
      have hb1 : ((catL L q).length : Int) + ((L q).length : Int) ≤ 1000000 := by omega
      have hb2 : ¬ ((catL L q).length : Int) + ((L q).length : Int) < 0 := by omega
      clear hround hcl hG hll hle
      go_wp2_with fail
      go_roundg (3 - (q + 1))
      case measure => omega
      case rel => exact ⟨q + 1, by omega, rfl, by go_num, by rw [Hll.out]; go_num, rfl⟩
    · have hq3 : q = 3 := by omega
      subst hq3
      go_wp2_with fail
      refine hG.mono ?_
      rintro e w1 ⟨⟨ao, cap, rfl, hown⟩, hb1⟩
      clear hG
      go_wp2_with fail
      go_loopg [6, 27] 3 (fun g s i wr => ∃ (q : Nat) (ao : Option Addr) (cap : Nat), q ≤ 3 ∧ g = 3 - q ∧ i = .int .i64 q ∧ s = .slice ao (catL L q).length cap ∧ Hid (∃ row, wr.ownsRow w.heap.size 31 4 (.slice ao (catL L q).length cap) (catL L q).length row ∧ AllV (Lob B w.heap.size) wr (catL L q) row) ∧ Below w.heap.size w wr)
      case atStart => exact ⟨0, ao, cap, by omega, rfl, rfl, rfl, ⟨[], hown, by simp [catL, AllV]⟩, hb1⟩
      case round =>
        clear hown hb1
        obtain ⟨q, ao, cap, hq, rfl, rfl, rfl, HO, hB⟩ := hrel
        by_cases hlt : q < 3
        · have hltI : (q : Int) < 3 := by omega
          have hc := hcl q wr hlt hB
          obtain ⟨row, ho, ha⟩ := HO.out
          obtain ⟨ao', cap', w', hr, HO', hB'⟩ := hround q wr _ row hlt hB ho ha
          have HO2 : Hid (∃ row, w'.ownsRow w.heap.size 31 4 (.slice ao' (catL L (q + 1)).length cap') (catL L (q + 1)).length row ∧ AllV (Lob B w.heap.size) w' (catL L (q + 1)) row) := HO'
          clear HO HO' hround hcl
          go_wp2_with (at_builtin; refine Lib.wpList_append_run _ rfl _ _ 22 22 rfl _ _ rfl rfl _ _ hr ?_)
          go_roundg (3 - (q + 1))
          case measure => omega
          case rel => exact ⟨q + 1, ao', cap', by omega, rfl, by go_num, rfl, HO2, hB'⟩
        · have hq3 : q = 3 := by omega
          subst hq3
          obtain ⟨row, ho, ha⟩ := HO.out
          have hfin := owns_vs (B' := Up B w.heap.size) ho rfl ha (fun k h _ => Or.inl h) (fun k h => Or.inr h)
          clear HO hround hcl ho ha
          go_wp2
          go_ret
          exact ⟨⟨ao, cap, rfl, hfin⟩, hB⟩
end Go.Proofs.YtnijcolomoobnaaGreatDoor
namespace Go.Proofs.YtnijcolomoobnaaGreatDoor
set_option linter.unusedVariables false
set_option linter.unusedSimpArgs false

def num (n : Nat) : List UInt8 := if h : n < 128 then [UInt8.ofNat n] else UInt8.ofNat (n % 128 + 128) :: num (n / 128)
termination_by n
decreasing_by omega
mutual
def enc : V → List UInt8
  | .mk k n t l => (if k = 1 then (if n < 0 then num 1 ++ num (-(n + 1)).toNat else num 0 ++ num n.toNat) else if k = 2 then num n.toNat else if k = 3 then num t.length ++ t else if k = 4 then num l.length else if k = 5 then num (l.length / 2) else []) ++ encs l
def encs : List V → List UInt8
  | [] => []
  | v :: r => enc v ++ encs r
end
end Go.Proofs.YtnijcolomoobnaaGreatDoor
namespace Go.Proofs.YtnijcolomoobnaaGreatDoor
open Go.RowKit
set_option linter.unusedVariables false
set_option linter.unusedSimpArgs false

def IsB (B : Nat → Prop) (w : World) (sl : Value) (bs : List UInt8) : Prop := ∃ ao cap, sl = .slice ao bs.length cap ∧ bs.length ≤ cap ∧ cap ≤ 9223372036854775807 ∧ (ao = none → cap = 0) ∧ (bs ≠ [] → ∃ g o, ao = some ⟨g, o, none⟩ ∧ B g ∧ g < w.heap.size ∧ ∀ (i : Nat) (b : UInt8), bs[i]? = some b → w.cell? ⟨g, o + i, none⟩ = some (.int .u8 b.toNat))
def cutB (a : Option Addr) (lo cap : Nat) : Option Addr := if cap = lo then a else a.map (·.add lo)
end Go.Proofs.YtnijcolomoobnaaGreatDoor
