import Derived.Test.YtifebbdjdllfpaaGreatDoorLxB
import Derived.Test.YtifebbdjdllfpaaGreatDoorPxCmp
import Derived.Test.YtifebbdjdllfpaaGreatDoorRepBase
import Derived.Deep.QuietTactic
import Derived.BigQuiet
import Derived.Deep.RegionWith
import Derived.Deep.LoopGhost
import Derived.Deep.RegionHeld3
import Derived.Deep.AppendLies
import Derived.Deep.RegionLaw
/- The parser of tokens: its state in memory, and how it goes on by one token. -/
namespace Go.Proofs.YtifebbdjdllfpaaGreatDoor
open Go.RowKit
set_option linter.unusedSimpArgs false
set_option linter.unusedVariables false

/-- No block below n but b has turned. -/
structure Fo (b n : Nat) (w w' : World) : Prop where
  os : w'.os = w.os
  tape : w'.tape = w.tape
  output : w'.output = w.output
  size : w.heap.size ≤ w'.heap.size
  block : ∀ k, k < n → k ≠ b → w'.heap[k]? = w.heap[k]?
theorem Fo.refl (b n : Nat) (w : World) : Fo b n w w := ⟨rfl, rfl, rfl, Nat.le_refl _, fun _ _ _ => rfl⟩
theorem Fo.trans {b n : Nat} {w w1 w2 : World} (h : Fo b n w w1) (k : Fo b n w1 w2) : Fo b n w w2 := ⟨k.os.trans h.os, k.tape.trans h.tape, k.output.trans h.output, Nat.le_trans h.size k.size, fun j h1 h2 => (k.block j h1 h2).trans (h.block j h1 h2)⟩
theorem Fo.mono {b n m : Nat} {w w' : World} (h : Fo b n w w') (hm : m ≤ n) : Fo b m w w' := ⟨h.os, h.tape, h.output, h.size, fun j h1 h2 => h.block j (by omega) h2⟩
theorem Fo.of_below {b n : Nat} {w w' : World} (h : Below n w w') : Fo b n w w' := ⟨h.os, h.tape, h.output, h.size, fun k h1 _ => h.block k h1⟩
theorem Fo.set {b n : Nat} {w : World} (j : Nat) (v : Value) : Fo b n w (w.setCell ⟨b, j, none⟩ v) := ⟨rfl, rfl, rfl, by simp [World.setCell], fun k _ h => Below.heap_setCell _ _ _ _ h⟩
theorem Fo.drewN (b n : Nat) (w : World) (m : Nat) : Fo b n w (w.drewN m) := ⟨rfl, rfl, rfl, Nat.le_refl _, fun _ _ _ => rfl⟩
theorem Fo.drew (b n : Nat) (w : World) : Fo b n w w.drew := ⟨rfl, rfl, rfl, Nat.le_refl _, fun _ _ _ => rfl⟩
theorem Fo.fresh {b n : Nat} {w w' : World} (h : Fo b n w w') {g : Nat} (hg : n ≤ g) (j : Nat) (v : Value) : Fo b n w (w'.setCell ⟨g, j, none⟩ v) :=
  ⟨h.os, h.tape, h.output, by simpa [World.setCell] using h.size, fun k h1 h2 => (Below.heap_setCell _ _ _ _ (by show k ≠ g; omega)).trans (h.block k h1 h2)⟩
theorem Fo.alloc {b n : Nat} {w w' : World} (h : Fo b n w w') (hn : n ≤ w'.heap.size) (o : Obj) : Fo b n w (w'.alloc o) := h.trans (Fo.of_below ((Below.refl _ _).alloc hn _))
theorem Fo.below {b n : Nat} {w w1 w2 : World} (h : Fo b n w w1) (k : Below w1.heap.size w1 w2) (hn : n ≤ w1.heap.size) : Fo b n w w2 := h.trans (Fo.of_below (k.mono hn))
theorem Fo.call {b n : Nat} {w w1 w2 : World} (h : Fo b n w w1) (k : Fo b w1.heap.size w1 w2) (hn : n ≤ w1.heap.size) : Fo b n w w2 := h.trans (k.mono hn)
theorem Fo.cell {b n : Nat} {w w' : World} (h : Fo b n w w') {g o : Nat} (hg : g < n) (hn : g ≠ b) : w'.cell? ⟨g, o, none⟩ = w.cell? ⟨g, o, none⟩ := World.cell?_of_block (w := w) (h.block g hg hn)
theorem Fo.since {b m : Nat} {w w' : World} (h : Fo b w.heap.size w w') (hb : b < m) : Since (From m) w w' := ⟨h.size, fun k h1 h2 => h.block k h2 (by have : m ≤ k := h1; omega)⟩
theorem Fo.sinceB {b : Nat} {B : Nat → Prop} {w w' : World} (h : Fo b w.heap.size w w') (hb : ¬ B b) : Since B w w' := ⟨h.size, fun k h1 h2 => h.block k h2 (fun e => hb (e ▸ h1))⟩

abbrev w3 (w : World) (g : Nat) (x0 x1 x2 : Value) : World := ((w.setCell ⟨g, 0, none⟩ x0).setCell ⟨g, 1, none⟩ x1).setCell ⟨g, 2, none⟩ x2
theorem Fo.set3 {b n : Nat} {w w' : World} (h : Fo b n w w') {g : Nat} (hg : n ≤ g) (x0 x1 x2 : Value) : Fo b n w (w3 w' g x0 x1 x2) := (((h.fresh hg 0 x0).fresh hg 1 x1).fresh hg 2 x2)
theorem below_set3 {n : Nat} {w w' : World} (h : Below n w w') {g : Nat} (hg : n ≤ g) (x0 x1 x2 : Value) : Below n w (w3 w' g x0 x1 x2) := (((h.setCell (p := ⟨g, 0, none⟩) hg x0).setCell (p := ⟨g, 1, none⟩) hg x1).setCell (p := ⟨g, 2, none⟩) hg x2)
theorem w3_other {w : World} {g k : Nat} (hk : k ≠ g) (x0 x1 x2 : Value) : (w3 w g x0 x1 x2).heap[k]? = w.heap[k]? := by
  simp only [w3]
  rw [Below.heap_setCell _ _ _ _ hk, Below.heap_setCell _ _ _ _ hk, Below.heap_setCell _ _ _ _ hk]
theorem w3_blk {w : World} {g : Nat} {y0 y1 y2 : Value} {T : TypeId} (h : w.heap[g]? = some (.cells #[y0, y1, y2] T (0, 0))) (x0 x1 x2 : Value) : (w3 w g x0 x1 x2).heap[g]? = some (.cells #[x0, x1, x2] T (0, 0)) := by
  simp [w3, World.setCell, Array.getElem?_modify, h]
theorem w3_size (w : World) (g : Nat) (x0 x1 x2 : Value) : (w3 w g x0 x1 x2).heap.size = w.heap.size := by simp [w3, World.setCell]
theorem Since.set3' {w : World} {g : Nat} {B : Nat → Prop} (hg : ¬ B g) (x0 x1 x2 : Value) : Since B w (w3 w g x0 x1 x2) := ⟨by rw [w3_size]; exact Nat.le_refl _, fun k h1 _ => w3_other (fun e => hg (by rw [← e]; exact h1)) x0 x1 x2⟩
theorem cells_of3 {w : World} {g : Nat} {y0 y1 y2 : Value} {T : TypeId} (h : w.heap[g]? = some (.cells #[y0, y1, y2] T (0, 0))) : w.cell? ⟨g, 0, none⟩ = some y0 ∧ w.cell? ⟨g, 1, none⟩ = some y1 ∧ w.cell? ⟨g, 2, none⟩ = some y2 ∧ w.frozen? ⟨g, 0, none⟩ = false ∧ w.frozen? ⟨g, 1, none⟩ = false ∧ w.frozen? ⟨g, 2, none⟩ = false := by
  refine ⟨?_, ?_, ?_, ?_, ?_, ?_⟩
  all_goals first | simp [World.cell?, h] | simp [World.frozen?, h]
abbrev w4 (w : World) (g : Nat) (x0 x1 x2 x3 : Value) : World := (((w.setCell ⟨g, 0, none⟩ x0).setCell ⟨g, 1, none⟩ x1).setCell ⟨g, 2, none⟩ x2).setCell ⟨g, 3, none⟩ x3
theorem Fo.set4 {b n : Nat} {w w' : World} (h : Fo b n w w') {g : Nat} (hg : n ≤ g) (x0 x1 x2 x3 : Value) : Fo b n w (w4 w' g x0 x1 x2 x3) := ((((h.fresh hg 0 x0).fresh hg 1 x1).fresh hg 2 x2).fresh hg 3 x3)
theorem below_set4 {n : Nat} {w w' : World} (h : Below n w w') {g : Nat} (hg : n ≤ g) (x0 x1 x2 x3 : Value) : Below n w (w4 w' g x0 x1 x2 x3) := ((((h.setCell (p := ⟨g, 0, none⟩) hg x0).setCell (p := ⟨g, 1, none⟩) hg x1).setCell (p := ⟨g, 2, none⟩) hg x2).setCell (p := ⟨g, 3, none⟩) hg x3)
theorem w4_other {w : World} {g k : Nat} (hk : k ≠ g) (x0 x1 x2 x3 : Value) : (w4 w g x0 x1 x2 x3).heap[k]? = w.heap[k]? := by
  simp only [w4]
  rw [Below.heap_setCell _ _ _ _ hk, Below.heap_setCell _ _ _ _ hk, Below.heap_setCell _ _ _ _ hk, Below.heap_setCell _ _ _ _ hk]
theorem w4_blk {w : World} {g : Nat} {y0 y1 y2 y3 : Value} {T : TypeId} (h : w.heap[g]? = some (.cells #[y0, y1, y2, y3] T (0, 0))) (x0 x1 x2 x3 : Value) : (w4 w g x0 x1 x2 x3).heap[g]? = some (.cells #[x0, x1, x2, x3] T (0, 0)) := by
  simp [w4, World.setCell, Array.getElem?_modify, h]
theorem w4_size (w : World) (g : Nat) (x0 x1 x2 x3 : Value) : (w4 w g x0 x1 x2 x3).heap.size = w.heap.size := by simp [w4, World.setCell]
theorem Since.set4' {w : World} {g : Nat} {B : Nat → Prop} (hg : ¬ B g) (x0 x1 x2 x3 : Value) : Since B w (w4 w g x0 x1 x2 x3) := ⟨by rw [w4_size]; exact Nat.le_refl _, fun k h1 _ => w4_other (fun e => hg (by rw [← e]; exact h1)) x0 x1 x2 x3⟩
theorem cells_of4 {w : World} {g : Nat} {y0 y1 y2 y3 : Value} {T : TypeId} (h : w.heap[g]? = some (.cells #[y0, y1, y2, y3] T (0, 0))) : w.cell? ⟨g, 0, none⟩ = some y0 ∧ w.cell? ⟨g, 1, none⟩ = some y1 ∧ w.cell? ⟨g, 2, none⟩ = some y2 ∧ w.cell? ⟨g, 3, none⟩ = some y3 ∧ w.frozen? ⟨g, 0, none⟩ = false ∧ w.frozen? ⟨g, 1, none⟩ = false ∧ w.frozen? ⟨g, 2, none⟩ = false ∧ w.frozen? ⟨g, 3, none⟩ = false := by
  refine ⟨?_, ?_, ?_, ?_, ?_, ?_, ?_, ?_⟩
  all_goals first | simp [World.cell?, h] | simp [World.frozen?, h]
abbrev w7 (w : World) (g : Nat) (x0 x1 x2 x3 x4 x5 x6 : Value) : World := ((((((w.setCell ⟨g, 0, none⟩ x0).setCell ⟨g, 1, none⟩ x1).setCell ⟨g, 2, none⟩ x2).setCell ⟨g, 3, none⟩ x3).setCell ⟨g, 4, none⟩ x4).setCell ⟨g, 5, none⟩ x5).setCell ⟨g, 6, none⟩ x6
theorem Fo.set7 {b n : Nat} {w w' : World} (h : Fo b n w w') {g : Nat} (hg : n ≤ g) (x0 x1 x2 x3 x4 x5 x6 : Value) : Fo b n w (w7 w' g x0 x1 x2 x3 x4 x5 x6) := (((((((h.fresh hg 0 x0).fresh hg 1 x1).fresh hg 2 x2).fresh hg 3 x3).fresh hg 4 x4).fresh hg 5 x5).fresh hg 6 x6)
theorem below_set7 {n : Nat} {w w' : World} (h : Below n w w') {g : Nat} (hg : n ≤ g) (x0 x1 x2 x3 x4 x5 x6 : Value) : Below n w (w7 w' g x0 x1 x2 x3 x4 x5 x6) := (((((((h.setCell (p := ⟨g, 0, none⟩) hg x0).setCell (p := ⟨g, 1, none⟩) hg x1).setCell (p := ⟨g, 2, none⟩) hg x2).setCell (p := ⟨g, 3, none⟩) hg x3).setCell (p := ⟨g, 4, none⟩) hg x4).setCell (p := ⟨g, 5, none⟩) hg x5).setCell (p := ⟨g, 6, none⟩) hg x6)
theorem w7_other {w : World} {g k : Nat} (hk : k ≠ g) (x0 x1 x2 x3 x4 x5 x6 : Value) : (w7 w g x0 x1 x2 x3 x4 x5 x6).heap[k]? = w.heap[k]? := by
  simp only [w7]
  rw [Below.heap_setCell _ _ _ _ hk, Below.heap_setCell _ _ _ _ hk, Below.heap_setCell _ _ _ _ hk, Below.heap_setCell _ _ _ _ hk, Below.heap_setCell _ _ _ _ hk, Below.heap_setCell _ _ _ _ hk, Below.heap_setCell _ _ _ _ hk]
theorem w7_blk {w : World} {g : Nat} {y0 y1 y2 y3 y4 y5 y6 : Value} {T : TypeId} (h : w.heap[g]? = some (.cells #[y0, y1, y2, y3, y4, y5, y6] T (0, 0))) (x0 x1 x2 x3 x4 x5 x6 : Value) : (w7 w g x0 x1 x2 x3 x4 x5 x6).heap[g]? = some (.cells #[x0, x1, x2, x3, x4, x5, x6] T (0, 0)) := by
  simp [w7, World.setCell, Array.getElem?_modify, h]
theorem w7_size (w : World) (g : Nat) (x0 x1 x2 x3 x4 x5 x6 : Value) : (w7 w g x0 x1 x2 x3 x4 x5 x6).heap.size = w.heap.size := by simp [w7, World.setCell]
theorem Since.set7' {w : World} {g : Nat} {B : Nat → Prop} (hg : ¬ B g) (x0 x1 x2 x3 x4 x5 x6 : Value) : Since B w (w7 w g x0 x1 x2 x3 x4 x5 x6) := ⟨by rw [w7_size]; exact Nat.le_refl _, fun k h1 _ => w7_other (fun e => hg (by rw [← e]; exact h1)) x0 x1 x2 x3 x4 x5 x6⟩
theorem cells_of7 {w : World} {g : Nat} {y0 y1 y2 y3 y4 y5 y6 : Value} {T : TypeId} (h : w.heap[g]? = some (.cells #[y0, y1, y2, y3, y4, y5, y6] T (0, 0))) : w.cell? ⟨g, 0, none⟩ = some y0 ∧ w.cell? ⟨g, 1, none⟩ = some y1 ∧ w.cell? ⟨g, 2, none⟩ = some y2 ∧ w.cell? ⟨g, 3, none⟩ = some y3 ∧ w.cell? ⟨g, 4, none⟩ = some y4 ∧ w.cell? ⟨g, 5, none⟩ = some y5 ∧ w.cell? ⟨g, 6, none⟩ = some y6 ∧ w.frozen? ⟨g, 0, none⟩ = false ∧ w.frozen? ⟨g, 1, none⟩ = false ∧ w.frozen? ⟨g, 2, none⟩ = false ∧ w.frozen? ⟨g, 3, none⟩ = false ∧ w.frozen? ⟨g, 4, none⟩ = false ∧ w.frozen? ⟨g, 5, none⟩ = false ∧ w.frozen? ⟨g, 6, none⟩ = false := by
  refine ⟨?_, ?_, ?_, ?_, ?_, ?_, ?_, ?_, ?_, ?_, ?_, ?_, ?_, ?_⟩
  all_goals first | simp [World.cell?, h] | simp [World.frozen?, h]
abbrev w8 (w : World) (g : Nat) (x0 x1 x2 x3 x4 x5 x6 x7 : Value) : World := (((((((w.setCell ⟨g, 0, none⟩ x0).setCell ⟨g, 1, none⟩ x1).setCell ⟨g, 2, none⟩ x2).setCell ⟨g, 3, none⟩ x3).setCell ⟨g, 4, none⟩ x4).setCell ⟨g, 5, none⟩ x5).setCell ⟨g, 6, none⟩ x6).setCell ⟨g, 7, none⟩ x7
theorem Fo.set8 {b n : Nat} {w w' : World} (h : Fo b n w w') {g : Nat} (hg : n ≤ g) (x0 x1 x2 x3 x4 x5 x6 x7 : Value) : Fo b n w (w8 w' g x0 x1 x2 x3 x4 x5 x6 x7) := ((((((((h.fresh hg 0 x0).fresh hg 1 x1).fresh hg 2 x2).fresh hg 3 x3).fresh hg 4 x4).fresh hg 5 x5).fresh hg 6 x6).fresh hg 7 x7)
theorem below_set8 {n : Nat} {w w' : World} (h : Below n w w') {g : Nat} (hg : n ≤ g) (x0 x1 x2 x3 x4 x5 x6 x7 : Value) : Below n w (w8 w' g x0 x1 x2 x3 x4 x5 x6 x7) := ((((((((h.setCell (p := ⟨g, 0, none⟩) hg x0).setCell (p := ⟨g, 1, none⟩) hg x1).setCell (p := ⟨g, 2, none⟩) hg x2).setCell (p := ⟨g, 3, none⟩) hg x3).setCell (p := ⟨g, 4, none⟩) hg x4).setCell (p := ⟨g, 5, none⟩) hg x5).setCell (p := ⟨g, 6, none⟩) hg x6).setCell (p := ⟨g, 7, none⟩) hg x7)
theorem w8_other {w : World} {g k : Nat} (hk : k ≠ g) (x0 x1 x2 x3 x4 x5 x6 x7 : Value) : (w8 w g x0 x1 x2 x3 x4 x5 x6 x7).heap[k]? = w.heap[k]? := by
  simp only [w8]
  rw [Below.heap_setCell _ _ _ _ hk, Below.heap_setCell _ _ _ _ hk, Below.heap_setCell _ _ _ _ hk, Below.heap_setCell _ _ _ _ hk, Below.heap_setCell _ _ _ _ hk, Below.heap_setCell _ _ _ _ hk, Below.heap_setCell _ _ _ _ hk, Below.heap_setCell _ _ _ _ hk]
theorem w8_blk {w : World} {g : Nat} {y0 y1 y2 y3 y4 y5 y6 y7 : Value} {T : TypeId} (h : w.heap[g]? = some (.cells #[y0, y1, y2, y3, y4, y5, y6, y7] T (0, 0))) (x0 x1 x2 x3 x4 x5 x6 x7 : Value) : (w8 w g x0 x1 x2 x3 x4 x5 x6 x7).heap[g]? = some (.cells #[x0, x1, x2, x3, x4, x5, x6, x7] T (0, 0)) := by
  simp [w8, World.setCell, Array.getElem?_modify, h]
theorem w8_size (w : World) (g : Nat) (x0 x1 x2 x3 x4 x5 x6 x7 : Value) : (w8 w g x0 x1 x2 x3 x4 x5 x6 x7).heap.size = w.heap.size := by simp [w8, World.setCell]
theorem Since.set8' {w : World} {g : Nat} {B : Nat → Prop} (hg : ¬ B g) (x0 x1 x2 x3 x4 x5 x6 x7 : Value) : Since B w (w8 w g x0 x1 x2 x3 x4 x5 x6 x7) := ⟨by rw [w8_size]; exact Nat.le_refl _, fun k h1 _ => w8_other (fun e => hg (by rw [← e]; exact h1)) x0 x1 x2 x3 x4 x5 x6 x7⟩
theorem cells_of8 {w : World} {g : Nat} {y0 y1 y2 y3 y4 y5 y6 y7 : Value} {T : TypeId} (h : w.heap[g]? = some (.cells #[y0, y1, y2, y3, y4, y5, y6, y7] T (0, 0))) : w.cell? ⟨g, 0, none⟩ = some y0 ∧ w.cell? ⟨g, 1, none⟩ = some y1 ∧ w.cell? ⟨g, 2, none⟩ = some y2 ∧ w.cell? ⟨g, 3, none⟩ = some y3 ∧ w.cell? ⟨g, 4, none⟩ = some y4 ∧ w.cell? ⟨g, 5, none⟩ = some y5 ∧ w.cell? ⟨g, 6, none⟩ = some y6 ∧ w.cell? ⟨g, 7, none⟩ = some y7 ∧ w.frozen? ⟨g, 0, none⟩ = false ∧ w.frozen? ⟨g, 1, none⟩ = false ∧ w.frozen? ⟨g, 2, none⟩ = false ∧ w.frozen? ⟨g, 3, none⟩ = false ∧ w.frozen? ⟨g, 4, none⟩ = false ∧ w.frozen? ⟨g, 5, none⟩ = false ∧ w.frozen? ⟨g, 6, none⟩ = false ∧ w.frozen? ⟨g, 7, none⟩ = false := by
  refine ⟨?_, ?_, ?_, ?_, ?_, ?_, ?_, ?_, ?_, ?_, ?_, ?_, ?_, ?_, ?_, ?_⟩
  all_goals first | simp [World.cell?, h] | simp [World.frozen?, h]
abbrev w9 (w : World) (g : Nat) (x0 x1 x2 x3 x4 x5 x6 x7 x8 : Value) : World := ((((((((w.setCell ⟨g, 0, none⟩ x0).setCell ⟨g, 1, none⟩ x1).setCell ⟨g, 2, none⟩ x2).setCell ⟨g, 3, none⟩ x3).setCell ⟨g, 4, none⟩ x4).setCell ⟨g, 5, none⟩ x5).setCell ⟨g, 6, none⟩ x6).setCell ⟨g, 7, none⟩ x7).setCell ⟨g, 8, none⟩ x8
theorem Fo.set9 {b n : Nat} {w w' : World} (h : Fo b n w w') {g : Nat} (hg : n ≤ g) (x0 x1 x2 x3 x4 x5 x6 x7 x8 : Value) : Fo b n w (w9 w' g x0 x1 x2 x3 x4 x5 x6 x7 x8) := (((((((((h.fresh hg 0 x0).fresh hg 1 x1).fresh hg 2 x2).fresh hg 3 x3).fresh hg 4 x4).fresh hg 5 x5).fresh hg 6 x6).fresh hg 7 x7).fresh hg 8 x8)
theorem below_set9 {n : Nat} {w w' : World} (h : Below n w w') {g : Nat} (hg : n ≤ g) (x0 x1 x2 x3 x4 x5 x6 x7 x8 : Value) : Below n w (w9 w' g x0 x1 x2 x3 x4 x5 x6 x7 x8) := (((((((((h.setCell (p := ⟨g, 0, none⟩) hg x0).setCell (p := ⟨g, 1, none⟩) hg x1).setCell (p := ⟨g, 2, none⟩) hg x2).setCell (p := ⟨g, 3, none⟩) hg x3).setCell (p := ⟨g, 4, none⟩) hg x4).setCell (p := ⟨g, 5, none⟩) hg x5).setCell (p := ⟨g, 6, none⟩) hg x6).setCell (p := ⟨g, 7, none⟩) hg x7).setCell (p := ⟨g, 8, none⟩) hg x8)
theorem w9_other {w : World} {g k : Nat} (hk : k ≠ g) (x0 x1 x2 x3 x4 x5 x6 x7 x8 : Value) : (w9 w g x0 x1 x2 x3 x4 x5 x6 x7 x8).heap[k]? = w.heap[k]? := by
  simp only [w9]
  rw [Below.heap_setCell _ _ _ _ hk, Below.heap_setCell _ _ _ _ hk, Below.heap_setCell _ _ _ _ hk, Below.heap_setCell _ _ _ _ hk, Below.heap_setCell _ _ _ _ hk, Below.heap_setCell _ _ _ _ hk, Below.heap_setCell _ _ _ _ hk, Below.heap_setCell _ _ _ _ hk, Below.heap_setCell _ _ _ _ hk]
theorem w9_blk {w : World} {g : Nat} {y0 y1 y2 y3 y4 y5 y6 y7 y8 : Value} {T : TypeId} (h : w.heap[g]? = some (.cells #[y0, y1, y2, y3, y4, y5, y6, y7, y8] T (0, 0))) (x0 x1 x2 x3 x4 x5 x6 x7 x8 : Value) : (w9 w g x0 x1 x2 x3 x4 x5 x6 x7 x8).heap[g]? = some (.cells #[x0, x1, x2, x3, x4, x5, x6, x7, x8] T (0, 0)) := by
  simp [w9, World.setCell, Array.getElem?_modify, h]
theorem w9_size (w : World) (g : Nat) (x0 x1 x2 x3 x4 x5 x6 x7 x8 : Value) : (w9 w g x0 x1 x2 x3 x4 x5 x6 x7 x8).heap.size = w.heap.size := by simp [w9, World.setCell]
theorem Since.set9' {w : World} {g : Nat} {B : Nat → Prop} (hg : ¬ B g) (x0 x1 x2 x3 x4 x5 x6 x7 x8 : Value) : Since B w (w9 w g x0 x1 x2 x3 x4 x5 x6 x7 x8) := ⟨by rw [w9_size]; exact Nat.le_refl _, fun k h1 _ => w9_other (fun e => hg (by rw [← e]; exact h1)) x0 x1 x2 x3 x4 x5 x6 x7 x8⟩
theorem cells_of9 {w : World} {g : Nat} {y0 y1 y2 y3 y4 y5 y6 y7 y8 : Value} {T : TypeId} (h : w.heap[g]? = some (.cells #[y0, y1, y2, y3, y4, y5, y6, y7, y8] T (0, 0))) : w.cell? ⟨g, 0, none⟩ = some y0 ∧ w.cell? ⟨g, 1, none⟩ = some y1 ∧ w.cell? ⟨g, 2, none⟩ = some y2 ∧ w.cell? ⟨g, 3, none⟩ = some y3 ∧ w.cell? ⟨g, 4, none⟩ = some y4 ∧ w.cell? ⟨g, 5, none⟩ = some y5 ∧ w.cell? ⟨g, 6, none⟩ = some y6 ∧ w.cell? ⟨g, 7, none⟩ = some y7 ∧ w.cell? ⟨g, 8, none⟩ = some y8 ∧ w.frozen? ⟨g, 0, none⟩ = false ∧ w.frozen? ⟨g, 1, none⟩ = false ∧ w.frozen? ⟨g, 2, none⟩ = false ∧ w.frozen? ⟨g, 3, none⟩ = false ∧ w.frozen? ⟨g, 4, none⟩ = false ∧ w.frozen? ⟨g, 5, none⟩ = false ∧ w.frozen? ⟨g, 6, none⟩ = false ∧ w.frozen? ⟨g, 7, none⟩ = false ∧ w.frozen? ⟨g, 8, none⟩ = false := by
  refine ⟨?_, ?_, ?_, ?_, ?_, ?_, ?_, ?_, ?_, ?_, ?_, ?_, ?_, ?_, ?_, ?_, ?_, ?_⟩
  all_goals first | simp [World.cell?, h] | simp [World.frozen?, h]

/-- From place o of block ga on lie the tokens l. -/
def TokAt (w : World) (ga o : Nat) (l : List Lx.Tok) : Prop := ∀ (k : Nat) (t : Lx.Tok), l[k]? = some t → w.cell? ⟨ga, o + k * 4, none⟩ = some (.int .i64 t.kind) ∧ w.cell? ⟨ga, o + k * 4 + 1, none⟩ = some (.string ⟨t.text.toArray⟩) ∧ w.cell? ⟨ga, o + k * 4 + 2, none⟩ = some (.int .i64 t.num) ∧ w.cell? ⟨ga, o + k * 4 + 3, none⟩ = some (.int .i64 t.place)
/-- At block b lies a parser; the tokens that it hasn't taken yet are l, in block ga. -/
structure Ps (b ga : Nat) (l : List Lx.Tok) (w : World) : Prop where
  good : Px.Good l
  tidy : ∀ t ∈ l, Tidy t
  mem : ∃ o c, w.heap[b]? = some (.cells #[.slice (some ⟨ga, o, none⟩) l.length c] 57 (0, 0)) ∧ l.length ≤ c ∧ c ≤ maxLen ∧ TokAt w ga o l
  gl : ga < w.heap.size
  ne : ga ≠ b
  few : l.length ≤ 4096
theorem Ps.there {b ga : Nat} {l : List Lx.Tok} {w : World} (h : Ps b ga l w) : b < w.heap.size := by
  obtain ⟨o, c, hb, _⟩ := h.mem
  exact (Array.getElem?_eq_some_iff.1 hb).1
theorem Ps.head {b ga : Nat} {l : List Lx.Tok} {w : World} (h : Ps b ga l w) : ∃ t r, l = t :: r ∧ Tidy t := by
  match l, h.good, h.tidy with
  | t :: r, _, ht => exact ⟨t, r, rfl, ht t (by simp)⟩
theorem Ps.keep {b ga : Nat} {l : List Lx.Tok} {w w' : World} (h : Ps b ga l w) (hb : w'.heap[b]? = w.heap[b]?) (hg : w'.heap[ga]? = w.heap[ga]?) (hs : w.heap.size ≤ w'.heap.size) : Ps b ga l w' := by
  obtain ⟨o, c, h1, h2, h3, h4⟩ := h.mem
  refine ⟨h.good, h.tidy, ⟨o, c, hb.trans h1, h2, h3, fun k t hk => ?_⟩, Nat.lt_of_lt_of_le h.gl hs, h.ne, h.few⟩
  have hc : ∀ j, w'.cell? ⟨ga, j, none⟩ = w.cell? ⟨ga, j, none⟩ := fun j => World.cell?_of_block (w := w) hg
  rw [hc, hc, hc, hc]
  exact h4 k t hk
theorem Ps.below {b ga : Nat} {l : List Lx.Tok} {w w' : World} (h : Ps b ga l w) (f : Below w.heap.size w w') : Ps b ga l w' := h.keep (f.block b h.there) (f.block ga h.gl) f.size
theorem Ps.other {b ga : Nat} {l : List Lx.Tok} {w : World} (h : Ps b ga l w) {g : Nat} (j : Nat) (v : Value) (h1 : g ≠ b) (h2 : g ≠ ga) : Ps b ga l (w.setCell ⟨g, j, none⟩ v) :=
  h.keep (Below.heap_setCell _ _ _ _ (fun e => h1 e.symm)) (Below.heap_setCell _ _ _ _ (fun e => h2 e.symm)) (by simp [World.setCell])
theorem Ps.alloc {b ga : Nat} {l : List Lx.Tok} {w : World} (h : Ps b ga l w) (o : Obj) : Ps b ga l (w.alloc o) := h.below ((Below.refl _ _).alloc (Nat.le_refl _) _)
theorem Ps.drewN {b ga : Nat} {l : List Lx.Tok} {w : World} (h : Ps b ga l w) (m : Nat) : Ps b ga l (w.drewN m) := h.keep rfl rfl (Nat.le_refl _)
/-- The first token's cells; and how the parser is behind it. -/
theorem Ps.cells {b ga : Nat} {t : Lx.Tok} {r : List Lx.Tok} {w : World} (h : Ps b ga (t :: r) w) : ∃ o c, w.cell? ⟨b, 0, none⟩ = some (.slice (some ⟨ga, o, none⟩) (r.length + 1) c) ∧ r.length + 1 ≤ c ∧ c ≤ maxLen ∧ w.frozen? ⟨b, 0, none⟩ = false ∧
    w.cell? ⟨ga, o, none⟩ = some (.int .i64 t.kind) ∧ w.cell? ⟨ga, o + 1, none⟩ = some (.string ⟨t.text.toArray⟩) ∧ w.cell? ⟨ga, o + 2, none⟩ = some (.int .i64 t.num) ∧ w.cell? ⟨ga, o + 3, none⟩ = some (.int .i64 t.place) ∧
    (t.kind ≠ 5 → ∀ w', w'.heap[b]? = some (.cells #[.slice (some ⟨ga, o + 4, none⟩) r.length (c - 1)] 57 (0, 0)) → Fo b w.heap.size w w' → Ps b ga r w') := by
  obtain ⟨o, c, h1, h2, h3, h4⟩ := h.mem
  have h0 := h4 0 t rfl
  simp only [Nat.zero_mul, Nat.add_zero] at h0
  refine ⟨o, c, by simp [World.cell?, h1], by simpa using h2, h3, by simp [World.frozen?, h1], h0.1, h0.2.1, h0.2.2.1, h0.2.2.2, ?_⟩
  intro hk w' hb hf
  have hfew := h.few
  simp only [List.length_cons] at hfew h2
  refine ⟨h.good.tail hk, fun u hu => h.tidy u (by simp [hu]), ⟨o + 4, c - 1, hb, by omega, by omega, fun k u hu => ?_⟩, Nat.lt_of_lt_of_le h.gl hf.size, h.ne, by omega⟩
  have := h4 (k + 1) u (by simpa using hu)
  have hc : ∀ j, w'.cell? ⟨ga, j, none⟩ = w.cell? ⟨ga, j, none⟩ := fun j => hf.cell h.gl h.ne
  rw [hc, hc, hc, hc]
  rw [show o + 4 + k * 4 = o + (k + 1) * 4 by omega]
  exact this

theorem Ps.set3 {b ga : Nat} {l : List Lx.Tok} {w : World} (h : Ps b ga l w) {g : Nat} (h1 : g ≠ b) (h2 : g ≠ ga) (x0 x1 x2 : Value) : Ps b ga l (w3 w g x0 x1 x2) := h.keep (w3_other (fun e => h1 e.symm) x0 x1 x2) (w3_other (fun e => h2 e.symm) x0 x1 x2) (by rw [w3_size]; exact Nat.le_refl _)
theorem Ps.set4 {b ga : Nat} {l : List Lx.Tok} {w : World} (h : Ps b ga l w) {g : Nat} (h1 : g ≠ b) (h2 : g ≠ ga) (x0 x1 x2 x3 : Value) : Ps b ga l (w4 w g x0 x1 x2 x3) := h.keep (w4_other (fun e => h1 e.symm) x0 x1 x2 x3) (w4_other (fun e => h2 e.symm) x0 x1 x2 x3) (by rw [w4_size]; exact Nat.le_refl _)
theorem Ps.set7 {b ga : Nat} {l : List Lx.Tok} {w : World} (h : Ps b ga l w) {g : Nat} (h1 : g ≠ b) (h2 : g ≠ ga) (x0 x1 x2 x3 x4 x5 x6 : Value) : Ps b ga l (w7 w g x0 x1 x2 x3 x4 x5 x6) := h.keep (w7_other (fun e => h1 e.symm) x0 x1 x2 x3 x4 x5 x6) (w7_other (fun e => h2 e.symm) x0 x1 x2 x3 x4 x5 x6) (by rw [w7_size]; exact Nat.le_refl _)
theorem Ps.set8 {b ga : Nat} {l : List Lx.Tok} {w : World} (h : Ps b ga l w) {g : Nat} (h1 : g ≠ b) (h2 : g ≠ ga) (x0 x1 x2 x3 x4 x5 x6 x7 : Value) : Ps b ga l (w8 w g x0 x1 x2 x3 x4 x5 x6 x7) := h.keep (w8_other (fun e => h1 e.symm) x0 x1 x2 x3 x4 x5 x6 x7) (w8_other (fun e => h2 e.symm) x0 x1 x2 x3 x4 x5 x6 x7) (by rw [w8_size]; exact Nat.le_refl _)
theorem Ps.set9 {b ga : Nat} {l : List Lx.Tok} {w : World} (h : Ps b ga l w) {g : Nat} (h1 : g ≠ b) (h2 : g ≠ ga) (x0 x1 x2 x3 x4 x5 x6 x7 x8 : Value) : Ps b ga l (w9 w g x0 x1 x2 x3 x4 x5 x6 x7 x8) := h.keep (w9_other (fun e => h1 e.symm) x0 x1 x2 x3 x4 x5 x6 x7 x8) (w9_other (fun e => h2 e.symm) x0 x1 x2 x3 x4 x5 x6 x7 x8) (by rw [w9_size]; exact Nat.le_refl _)
theorem heap_new (w : World) (o : Obj) : (w.alloc o).heap[w.heap.size]? = some o := by
  show (w.heap.push _)[w.heap.size]? = _
  rw [Array.getElem?_push, if_pos rfl]
def thrownP (a e : Nat) : List PanicEntry := [{ v := .iface 76 (.agg #[.int .i64 a, .int .i64 e]), recovered := false }]
/-- What the reading of a part answers: it goes on, with a value; or a fault is thrown. -/
def PPost (b ga : Nat) {α : Type} (w : World) (r : Px.R α) (V : α → Value → World → Prop) (e : Ending) (w' : World) : Prop :=
  match r with
  | .inl (x, l') => ∃ v, e = .returned v ∧ V x v w' ∧ Ps b ga l' w' ∧ Fo b w.heap.size w w'
  | .inr (a, er) => e = .panicked (thrownP a er) ∧ Fo b w.heap.size w w'
theorem ptext_ne {a x : List UInt8} (h : ¬ a = x) : ((⟨a.toArray⟩ : ByteArray).toList == (⟨x.toArray⟩ : ByteArray).toList) = false := by
  rw [ByteArray.toList_eq, ByteArray.toList_eq]; simp; exact h
theorem ptext_eq (x : List UInt8) : ((⟨x.toArray⟩ : ByteArray).toList == (⟨x.toArray⟩ : ByteArray).toList) = true := by simp
theorem cls_ne3 (x : Lx.B) : cls x ≠ 3 := by
  match x with
  | [] => decide
  | c :: _ => simp only [cls]; repeat' split
              all_goals decide
theorem cls_ne5 {x : Lx.B} (h : x ≠ []) : cls x ≠ 5 := by
  match x, h with
  | c :: _, _ => simp only [cls]; repeat' split
                 all_goals decide

set_option maxRecDepth 100000 in
set_option maxHeartbeats 2000000 in
theorem pnext_any {b ga : Nat} {t : Lx.Tok} {r : List Lx.Tok} {w : World} (h : Ps b ga (t :: r) w) :
    Calls Tryz.prog 36 #[.pointer (some ⟨b, 0, none⟩)] w fun e w' => e = .returned (.agg #[.int .i64 t.kind, .string ⟨t.text.toArray⟩, .int .i64 t.num, .int .i64 t.place]) ∧ Below w.heap.size w w' := by
  have hb := h.there
  have hg := h.gl
  have hfew := h.few
  simp only [List.length_cons] at hfew
  obtain ⟨o, c, c0, hc1, hc2, f0, x0, x1, x2, x3, _⟩ := h.cells
  clear h
  go_enter Tryz.func36, Tryz.ntmps36
  go_wp2
  refine bodyPost_ret (v := tokV t.kind ⟨t.text.toArray⟩ t.num t.place) (by simp [results, Tryz.results36, go_sem]) rfl ⟨rfl, ?_⟩
  exact (Below.refl _ _).alloc (Nat.le_refl _) _
end Go.Proofs.YtifebbdjdllfpaaGreatDoor
/- The parser goes on by one token, or gives up. -/
namespace Go.Proofs.YtifebbdjdllfpaaGreatDoor
open Go.RowKit
set_option linter.unusedSimpArgs false
set_option linter.unusedVariables false

theorem tokF0 (a : Value) (t : Value) (m p : Value) (w : World) : (Instr.field 81 (.agg #[a, t, m, p]) 0).run Tryz.prog w = .ok a w := by kernel_rfl
theorem tokF1 (a : Value) (t : Value) (m p : Value) (w : World) : (Instr.field 81 (.agg #[a, t, m, p]) 1).run Tryz.prog w = .ok t w := by kernel_rfl
theorem tokF2 (a : Value) (t : Value) (m p : Value) (w : World) : (Instr.field 81 (.agg #[a, t, m, p]) 2).run Tryz.prog w = .ok m w := by kernel_rfl
theorem tokF3 (a : Value) (t : Value) (m p : Value) (w : World) : (Instr.field 81 (.agg #[a, t, m, p]) 3).run Tryz.prog w = .ok p w := by kernel_rfl
set_option maxRecDepth 100000 in
set_option maxHeartbeats 2000000 in
theorem pgiveUp_any {b ga : Nat} {t : Lx.Tok} {r : List Lx.Tok} {w : World} (h : Ps b ga (t :: r) w) (er : Nat) :
    Calls Tryz.prog 52 #[.pointer (some ⟨b, 0, none⟩), .int .i64 er] w fun e w' => e = .panicked (thrownP t.place er) ∧ Below w.heap.size w w' := by
  have hn := pnext_any h
  have hf3 := tokF3
  go_enter Tryz.func52, Tryz.ntmps52
  go_wp2_with (go_at_call 36; refine hn.mono ?_; rintro e w1 ⟨rfl, hb1⟩)
  exact ⟨rfl, rfl, by assumption⟩

theorem heap_old {w : World} {k : Nat} {o : Obj} (h : k < w.heap.size) : (w.alloc o).heap[k]? = w.heap[k]? := ((Below.refl w.heap.size w).alloc (Nat.le_refl _) o).block k h
abbrev tokB (t : Lx.Tok) : Obj := .cells #[.int .i64 t.kind, .string ⟨t.text.toArray⟩, .int .i64 t.num, .int .i64 t.place] 81
set_option maxRecDepth 100000 in
set_option maxHeartbeats 2000000 in
theorem ptake_any {b ga : Nat} {t : Lx.Tok} {r : List Lx.Tok} {w : World} (h : Ps b ga (t :: r) w) (hk : t.kind ≠ 5) :
    Calls Tryz.prog 53 #[.pointer (some ⟨b, 0, none⟩)] w fun e w' => e = .returned (.agg #[.int .i64 t.kind, .string ⟨t.text.toArray⟩, .int .i64 t.num, .int .i64 t.place]) ∧ Ps b ga r w' ∧ Fo b w.heap.size w w' := by
  have hb := h.there
  have hg := h.gl
  have hne := h.ne
  have hfew := h.few
  simp only [List.length_cons] at hfew
  obtain ⟨o, c, c0, hc1, hc2, f0, x0, x1, x2, x3, hgo⟩ := h.cells
  replace hgo := (show Aside _ from hgo hk)
  obtain ⟨o', c', hblk, _⟩ := h.mem
  have hbl : w.heap[b]? = some (.cells #[.slice (some ⟨ga, o, none⟩) (r.length + 1) c] 57 (0, 0)) := by
    have := cell_of_one hblk
    rw [c0] at this
    simp at this
    rw [hblk]; simp [this]
  have hpos : 0 < r.length := by
    match r, h.good.tail hk with
    | u :: v, _ => simp
  have hc3 : ¬ c = 1 := by omega
  unfold maxLen at hc2
  clear h hblk
  go_enter Tryz.func53, Tryz.ntmps53
  go_wp2
  have hfo : Fo b w.heap.size w (((w.setCell ⟨b, 0, none⟩ (.slice (some ⟨ga, o + 4, none⟩) r.length (c - 1))).alloc (tokB t)).alloc (tokB t)) := ((Fo.set 0 _).alloc (by simp [World.setCell]) _).alloc (by simp [World.setCell]) _
  refine bodyPost_ret (v := .agg #[.int .i64 t.kind, .string ⟨t.text.toArray⟩, .int .i64 t.num, .int .i64 t.place]) (by simp [results, Tryz.results53, go_sem]) rfl ⟨rfl, hgo.out _ ?_ hfo, hfo⟩
  rw [heap_old (by simp [World.setCell]; omega), heap_old (by simpa [World.setCell] using hb)]
  simp [World.setCell, Array.getElem?_modify, hbl]

set_option maxRecDepth 100000 in
set_option maxHeartbeats 2000000 in
theorem pis_any {b ga : Nat} {l : List Lx.Tok} {w : World} (h : Ps b ga l w) (x : Lx.B) :
    Calls Tryz.prog 78 #[.pointer (some ⟨b, 0, none⟩), .string ⟨x.toArray⟩] w fun e w' => e = .returned (.bool (Px.sees (cls x) x l)) ∧ Below w.heap.size w w' := by
  obtain ⟨t, r, rfl, htd⟩ := h.head
  have hn := pnext_any h
  rw [← isB_sees htd (cls_ne3 x)]
  by_cases hx : t.text = x
  · have ht2 := ptext_eq t.text
    by_cases hk : t.kind = 3
    · have hres : isB x t = false := by simp [isB, hk]
      rw [hres]
      have hkI : ((t.kind : Int) != 3) = false := by simp; omega
      subst hx
      clear hk hres htd h
      go_enter Tryz.func78, Tryz.ntmps78
      go_wp2_with (go_at_call 36; refine hn.mono ?_; rintro e w1 ⟨rfl, hb1⟩)
      go_ret
      exact ⟨rfl, by first | exact hb1.alloc hb1.size _ | exact Below.alloc (by assumption) (Below.size (by assumption)) _⟩
    · have hres : isB x t = true := by simp [isB, hk, hx]
      rw [hres]
      have hkI : ((t.kind : Int) != 3) = true := by simp; omega
      subst hx
      clear hk hres htd h
      go_enter Tryz.func78, Tryz.ntmps78
      go_wp2_with (go_at_call 36; refine hn.mono ?_; rintro e w1 ⟨rfl, hb1⟩)
      go_ret
      exact ⟨rfl, by first | exact hb1.alloc hb1.size _ | exact Below.alloc (by assumption) (Below.size (by assumption)) _⟩
  · have hres : isB x t = false := by simp [isB, hx]
    rw [hres]
    have ht2 := ptext_ne hx
    clear hres htd h
    go_enter Tryz.func78, Tryz.ntmps78
    go_wp2_with (go_at_call 36; refine hn.mono ?_; rintro e w1 ⟨rfl, hb1⟩)
    go_ret
    exact ⟨rfl, by first | exact hb1.alloc hb1.size _ | exact Below.alloc (by assumption) (Below.size (by assumption)) _⟩

theorem sees_tail {b ga : Nat} {l : List Lx.Tok} {w : World} {x : Lx.B} (h : Ps b ga l w) (hx : x ≠ []) (hs : Px.sees (cls x) x l = true) : ∃ t r, l = t :: r ∧ t.kind ≠ 5 := by
  obtain ⟨t, r, rfl, h1, _⟩ := Px.sees_head hs
  exact ⟨t, r, rfl, by have := cls_ne5 hx; omega⟩
set_option maxRecDepth 100000 in
set_option maxHeartbeats 2000000 in
theorem ptakes_yes {b ga : Nat} {l : List Lx.Tok} {w : World} (h : Ps b ga l w) (x : Lx.B) (hx : x ≠ []) (hs : Px.sees (cls x) x l = true) :
    Calls Tryz.prog 51 #[.pointer (some ⟨b, 0, none⟩), .string ⟨x.toArray⟩] w fun e w' => e = .returned (.bool true) ∧ Ps b ga l.tail w' ∧ Fo b w.heap.size w w' := by
  have hi := pis_any h x
  rw [hs] at hi
  obtain ⟨t, r, rfl, hk⟩ := sees_tail h hx hs
  clear hs hx
  go_enter Tryz.func51, Tryz.ntmps51
  go_wp2_with fail
  refine hi.mono ?_
  rintro e w1 ⟨rfl, hb1⟩
  have h1 := h.below hb1
  go_wp2_with fail
  refine (ptake_any h1 hk).mono ?_
  rintro e w2 ⟨rfl, h2, hf2⟩
  go_wp2
  go_ret
  exact ⟨rfl, h2, (Fo.of_below hb1).call hf2 hb1.size⟩
set_option maxRecDepth 100000 in
set_option maxHeartbeats 2000000 in
theorem ptakes_no {b ga : Nat} {l : List Lx.Tok} {w : World} (h : Ps b ga l w) (x : Lx.B) (hs : Px.sees (cls x) x l = false) :
    Calls Tryz.prog 51 #[.pointer (some ⟨b, 0, none⟩), .string ⟨x.toArray⟩] w fun e w' => e = .returned (.bool false) ∧ Ps b ga l w' ∧ Below w.heap.size w w' := by
  have hi := pis_any h x
  rw [hs] at hi
  clear hs
  go_enter Tryz.func51, Tryz.ntmps51
  go_wp2_with fail
  refine hi.mono ?_
  rintro e w1 ⟨rfl, hb1⟩
  have h1 := h.below hb1
  go_wp2
  go_ret
  exact ⟨rfl, h1, hb1⟩
set_option maxRecDepth 100000 in
set_option maxHeartbeats 2000000 in
theorem pneed_yes {b ga : Nat} {l : List Lx.Tok} {w : World} (h : Ps b ga l w) (x : Lx.B) (hx : x ≠ []) (hs : Px.sees (cls x) x l = true) :
    Calls Tryz.prog 34 #[.pointer (some ⟨b, 0, none⟩), .string ⟨x.toArray⟩] w fun e w' => e = .returned (.tuple #[]) ∧ Ps b ga l.tail w' ∧ Fo b w.heap.size w w' := by
  have hi := ptakes_yes h x hx hs
  clear hs hx
  go_enter Tryz.func34, Tryz.ntmps34
  go_wp2_with fail
  refine hi.mono ?_
  rintro e w1 ⟨rfl, h1, hf1⟩
  go_wp2
  go_end0
  exact ⟨rfl, h1, hf1⟩
set_option maxRecDepth 100000 in
set_option maxHeartbeats 2000000 in
theorem pneed_no {b ga : Nat} {l : List Lx.Tok} {w : World} (h : Ps b ga l w) (x : Lx.B) (hs : Px.sees (cls x) x l = false) :
    Calls Tryz.prog 34 #[.pointer (some ⟨b, 0, none⟩), .string ⟨x.toArray⟩] w fun e w' => e = .panicked (thrownP (Px.place l) 31) ∧ Fo b w.heap.size w w' := by
  have hi := ptakes_no h x hs
  obtain ⟨t, r, rfl, _⟩ := h.head
  clear hs
  go_enter Tryz.func34, Tryz.ntmps34
  go_wp2_with fail
  refine hi.mono ?_
  rintro e w1 ⟨rfl, h1, hb1⟩
  go_wp2_with fail
  refine (pgiveUp_any h1 31).mono ?_
  rintro e w2 ⟨rfl, hb2⟩
  exact ⟨rfl, rfl, (Fo.of_below hb1).below hb2 hb1.size⟩
theorem pneed_any {b ga : Nat} {l : List Lx.Tok} {w : World} (h : Ps b ga l w) (k : Nat) (x : Lx.B) (hx : x ≠ []) (hk : cls x = k) :
    Calls Tryz.prog 34 #[.pointer (some ⟨b, 0, none⟩), .string ⟨x.toArray⟩] w fun e w' => PPost b ga w (Px.needK k x l) (fun _ v _ => v = .tuple #[]) e w' := by
  subst hk
  unfold Px.needK
  rcases hs : Px.sees (cls x) x l with _ | _
  · refine (pneed_no h x hs).mono ?_
    rintro e w1 ⟨rfl, hf⟩
    exact ⟨rfl, hf⟩
  · refine (pneed_yes h x hx hs).mono ?_
    rintro e w1 ⟨rfl, h1, hf⟩
    exact ⟨_, rfl, rfl, h1, hf⟩
end Go.Proofs.YtifebbdjdllfpaaGreatDoor
/- Numbers, names, depths: the parser's reading. -/
namespace Go.Proofs.YtifebbdjdllfpaaGreatDoor
open Go.RowKit
set_option linter.unusedSimpArgs false
set_option linter.unusedVariables false

theorem preserved_iff (x : Lx.B) : Px.reserved x = ((x == [118, 101, 114, 115, 105, 111, 110]) || ((x == [115, 116, 97, 116, 101]) || ((x == [102, 110]) || ((x == [111, 110]) || ((x == [108, 101, 116]) || ((x == [115, 101, 116]) || ((x == [100, 101, 108]) || ((x == [105, 102]) || ((x == [101, 108, 115, 101]) || ((x == [102, 111, 114]) || ((x == [116, 111]) || ((x == [114, 101, 116]) || ((x == [116, 114, 117, 101]) || ((x == [102, 97, 108, 115, 101]) || ((x == [105, 110, 116]) || ((x == [98, 111, 111, 108]) || (x == [116, 101, 120, 116]))))))))))))))))) := by
  simp only [Px.reserved, Px.words, List.contains_cons, List.contains_nil, Bool.or_false]
set_option maxRecDepth 100000 in
set_option maxHeartbeats 4000000 in
theorem preserved_any (x : Lx.B) (w : World) : Calls Tryz.prog 87 #[.string ⟨x.toArray⟩] w fun r w' => r = .returned (.bool (Px.reserved x)) ∧ w' = w := by
  have hone : Aside (Px.reserved x = _) := preserved_iff x
  go_enter Tryz.func87, Tryz.ntmps87
  go_wp2
  all_goals
    rename_i hz hy
    first
    | exact absurd (hy.symm.trans hz) Bool.false_ne_true
    | (have h1 : Px.reserved x = true := by rw [hone.out]; simp only [hy, Bool.true_or, Bool.or_true]
       go_ret
       exact ⟨ret_bool h1.symm, rfl⟩)
    | (have h1 : Px.reserved x = false := by rw [hone.out]; simp only [*, Bool.false_or]
       go_ret
       exact ⟨ret_bool h1.symm, rfl⟩)
set_option maxRecDepth 100000 in
set_option maxHeartbeats 2000000 in
theorem pnumber_any {b ga : Nat} {l : List Lx.Tok} {w : World} (h : Ps b ga l w) :
    Calls Tryz.prog 35 #[.pointer (some ⟨b, 0, none⟩)] w fun e w' => PPost b ga w (Px.number l) (fun n v _ => v = .int .i64 n) e w' := by
  obtain ⟨t, r, rfl, _⟩ := h.head
  have hn := pnext_any h
  have hf0 := tokF0
  have hf2 := tokF2
  simp only [Px.number]
  by_cases hk : t.kind = 2
  · rw [if_pos hk]
    have hkI : ((t.kind : Int) != 2) = false := by simp; omega
    have hk5 : t.kind ≠ 5 := by omega
    clear hk
    go_enter Tryz.func35, Tryz.ntmps35
    go_wp2_with fail
    refine hn.mono ?_
    rintro e w1 ⟨rfl, hb1⟩
    have h1 := h.below hb1
    go_wp2_with fail
    refine (ptake_any h1 hk5).mono ?_
    rintro e w2 ⟨rfl, h2, hf2⟩
    go_wp2
    go_ret
    exact ⟨_, rfl, rfl, h2, (Fo.of_below hb1).call hf2 hb1.size⟩
  · rw [if_neg hk]
    have hkI : ((t.kind : Int) != 2) = true := by simp; omega
    clear hk
    go_enter Tryz.func35, Tryz.ntmps35
    go_wp2_with fail
    refine hn.mono ?_
    rintro e w1 ⟨rfl, hb1⟩
    have h1 := h.below hb1
    go_wp2_with fail
    refine (pgiveUp_any h1 31).mono ?_
    rintro e w2 ⟨rfl, hb2⟩
    exact ⟨rfl, rfl, (Fo.of_below hb1).below hb2 hb1.size⟩
abbrev zeroTok : Obj := .cells #[.int .i64 0, .string ⟨#[]⟩, .int .i64 0, .int .i64 0] 81
/-- A token's value. -/
def TokV (t : Lx.Tok) (v : Value) : Prop := v = .agg #[.int .i64 t.kind, .string ⟨t.text.toArray⟩, .int .i64 t.num, .int .i64 t.place]
set_option maxRecDepth 100000 in
set_option maxHeartbeats 4000000 in
theorem pname_any {b ga : Nat} {l : List Lx.Tok} {w : World} (h : Ps b ga l w) :
    Calls Tryz.prog 79 #[.pointer (some ⟨b, 0, none⟩)] w fun e w' => PPost b ga w (Px.name l) (fun t v _ => TokV t v) e w' := by
  obtain ⟨t, r, rfl, _⟩ := h.head
  have h0 := h.alloc zeroTok
  have hn := pnext_any h0
  have hbw : Below w.heap.size w (w.alloc zeroTok) := (Below.refl _ _).alloc (Nat.le_refl _) _
  have hs0 := heap_new w zeroTok
  have hsz0 : (w.alloc zeroTok).heap.size = w.heap.size + 1 := by simp
  have hwb : w.heap.size ≠ b := by have := h.there; omega
  have hwga : w.heap.size ≠ ga := by have := h.gl; omega
  simp only [Px.name]
  by_cases hk : t.kind = 1 ∧ Px.reserved t.text = false
  · rw [if_pos hk]
    obtain ⟨hk1, hres⟩ := hk
    have hkI : ((t.kind : Int) != 1) = false := by simp; omega
    have hk5 : t.kind ≠ 5 := by omega
    have hR := preserved_any t.text
    rw [hres] at hR
    clear hk1 hres
    go_enter Tryz.func79, Tryz.ntmps79
    go_wp2_with fail
    generalize w.alloc zeroTok = w0 at *
    refine hn.mono ?_
    rintro e w1 ⟨rfl, hb1⟩
    have h1 := (h0.below hb1).alloc (tokB t)
    have hb1' : Below w.heap.size w (w1.alloc (tokB t)) := (hbw.trans (hb1.mono hbw.size)).alloc (by have := hbw.size; have := hb1.size; omega) _
    have hs1 : (w1.alloc (tokB t)).heap[w.heap.size]? = some zeroTok := by
      rw [heap_old (by have := hb1.size; omega), hb1.block _ (by omega)]; exact hs0
    have hl1 : w.heap.size < (w1.alloc (tokB t)).heap.size := by have := hb1.size; simp; omega
    clear hn hs0 hb1 h0
    go_wp2_with fail
    refine (hR _).mono ?_
    rintro e w2 ⟨rfl, rfl⟩
    generalize w1.alloc (tokB t) = w2 at *
    go_wp2_with fail
    refine (ptake_any h1 hk5).mono ?_
    rintro e w3 ⟨rfl, h3, hf3⟩
    have hs3 : w3.heap[w.heap.size]? = some zeroTok := (hf3.block _ hl1 hwb).trans hs1
    have hl3 : w.heap.size < w3.heap.size := by have := hf3.size; omega
    obtain ⟨e0, e1, e2, e3, k0, k1, k2, k3⟩ := cells_of4 hs3
    have hf : Fo b w.heap.size w w3 := (Fo.of_below hb1').call hf3 (by omega)
    clear hs3 hs1 hR hf3
    go_wp2
    exact bodyPost_ret (v := .agg #[.int .i64 t.kind, .string ⟨t.text.toArray⟩, .int .i64 t.num, .int .i64 t.place]) (by simp [results, Tryz.results79, go_sem, e0, e1, e2, e3]) rfl ⟨_, rfl, rfl, h3.set4 hwb hwga _ _ _ _, hf.set4 (Nat.le_refl _) _ _ _ _⟩
  · rw [if_neg hk]
    by_cases hk1 : t.kind = 1
    · have hkI : ((t.kind : Int) != 1) = false := by simp; omega
      have hres : Px.reserved t.text = true := by
        rcases hr : Px.reserved t.text with _ | _
        · exact absurd ⟨hk1, hr⟩ hk
        · rfl
      have hR := preserved_any t.text
      rw [hres] at hR
      clear hk1 hres hk
      go_enter Tryz.func79, Tryz.ntmps79
      go_wp2_with fail
      generalize w.alloc zeroTok = w0 at *
      refine hn.mono ?_
      rintro e w1 ⟨rfl, hb1⟩
      have h1 := (h0.below hb1).alloc (tokB t)
      have hb1' : Below w.heap.size w (w1.alloc (tokB t)) := (hbw.trans (hb1.mono hbw.size)).alloc (by have := hbw.size; have := hb1.size; omega) _
      clear hn hs0 hb1 h0
      go_wp2_with fail
      refine (hR _).mono ?_
      rintro e w2 ⟨rfl, rfl⟩
      generalize w1.alloc (tokB t) = w2 at *
      go_wp2_with fail
      refine (pgiveUp_any h1 31).mono ?_
      rintro e w3 ⟨rfl, hb3⟩
      exact ⟨rfl, rfl, (Fo.of_below hb1').below hb3 hb1'.size⟩
    · have hkI : ((t.kind : Int) != 1) = true := by simp; omega
      clear hk1 hk
      go_enter Tryz.func79, Tryz.ntmps79
      go_wp2_with fail
      generalize w.alloc zeroTok = w0 at *
      refine hn.mono ?_
      rintro e w1 ⟨rfl, hb1⟩
      have h1 := (h0.below hb1).alloc (tokB t)
      have hb1' : Below w.heap.size w (w1.alloc (tokB t)) := (hbw.trans (hb1.mono hbw.size)).alloc (by have := hbw.size; have := hb1.size; omega) _
      clear hn hs0 hb1 h0
      go_wp2_with fail
      generalize w1.alloc (tokB t) = w2 at *
      refine (pgiveUp_any h1 31).mono ?_
      rintro e w3 ⟨rfl, hb3⟩
      exact ⟨rfl, rfl, (Fo.of_below hb1').below hb3 hb1'.size⟩
set_option maxHeartbeats 2000000 in
theorem pwithin_ok {b ga : Nat} {l : List Lx.Tok} {w : World} (h : Ps b ga l w) (d m : Nat) (hd : d ≤ m) :
    Calls Tryz.prog 103 #[.pointer (some ⟨b, 0, none⟩), .int .i64 d, .int .i64 m] w fun e w' => e = .returned (.tuple #[]) ∧ w' = w := by
  have hdI : ¬ ((m : Int) < (d : Int)) := by omega
  go_enter Tryz.func103, Tryz.ntmps103
  go_wp2
  go_end0
  exact ⟨rfl, rfl⟩
set_option maxHeartbeats 2000000 in
theorem pwithin_bad {b ga : Nat} {l : List Lx.Tok} {w : World} (h : Ps b ga l w) (d m : Nat) (hd : m < d) :
    Calls Tryz.prog 103 #[.pointer (some ⟨b, 0, none⟩), .int .i64 d, .int .i64 m] w fun e w' => e = .panicked (thrownP (Px.place l) 32) ∧ Fo b w.heap.size w w' := by
  obtain ⟨t, r, rfl, _⟩ := h.head
  have hdI : ((m : Int) < (d : Int)) := by omega
  go_enter Tryz.func103, Tryz.ntmps103
  go_wp2_with fail
  refine (pgiveUp_any h 32).mono ?_
  rintro e w2 ⟨rfl, hb2⟩
  exact ⟨rfl, rfl, Fo.of_below hb2⟩
end Go.Proofs.YtifebbdjdllfpaaGreatDoor
/- Types and slots: the parser's reading. -/
namespace Go.Proofs.YtifebbdjdllfpaaGreatDoor
open Go.RowKit
set_option linter.unusedSimpArgs false
set_option linter.unusedVariables false

/-- Whether the next token is one of these words. -/
def anyOf (ws : List Lx.B) (l : List Lx.Tok) : Bool := ws.any fun x => Px.sees (cls x) x l
set_option maxRecDepth 100000 in
set_option maxHeartbeats 4000000 in
theorem pindex_any {b ga : Nat} {l : List Lx.Tok} {w : World} (h : Ps b ga l w) (ws : List Lx.B) (g : Nat) (hg : g < w.heap.size) (hw : ws.length ≤ 100) (hc : ∀ (i : Nat) (x : Lx.B), ws[i]? = some x → w.cell? ⟨g, i, none⟩ = some (.string ⟨x.toArray⟩)) :
    Calls Tryz.prog 149 #[.slice (some ⟨g, 0, none⟩) ws.length ws.length, .func (.func 78) #[.pointer (some ⟨b, 0, none⟩)] #[]] w fun e w' => (∃ z : Int, e = .returned (.int .i64 z) ∧ decide (0 ≤ z) = anyOf ws l) ∧ Below w.heap.size w w' := by
  obtain ⟨ans, hans⟩ : ∃ ans, Aside (ans = anyOf ws l) := ⟨_, rfl⟩
  rw [← hans.out]
  go_enter Tryz.func149, Tryz.ntmps149
  go_wp2_with fail
  go_loopg [8] ws.length (fun m ix wr => ∃ q : Nat, q ≤ ws.length ∧ m = ws.length - q ∧ ix = .int .i64 q ∧ Below w.heap.size w wr ∧ Aside (ans = anyOf (ws.drop q) l))
  case atStart => exact ⟨0, Nat.zero_le _, rfl, rfl, Below.refl _ _, hans⟩
  case round =>
    obtain ⟨q, hq, rfl, rfl, hB, hno⟩ := hrel
    by_cases hlt : q < ws.length
    · obtain ⟨x, hx⟩ : ∃ x, ws[q]? = some x := ⟨ws[q], List.getElem?_eq_getElem hlt⟩
      have hcx : wr.cell? ⟨g, q, none⟩ = some (.string ⟨x.toArray⟩) := (hB.cell (p := ⟨g, q, none⟩) hg).trans (hc q x hx)
      have hltI : (q : Int) < (ws.length : Int) := by omega
      have hgl : g < wr.heap.size := by have := hB.size; omega
      have hi := pis_any (h.keep (hB.block b h.there) (hB.block ga h.gl) hB.size) x
      have hd : ws.drop q = x :: ws.drop (q + 1) := by
        rw [List.drop_eq_getElem_cons hlt]
        have := List.getElem?_eq_getElem hlt
        rw [hx] at this; simp at this; rw [← this]
      have hstep : Aside (ans = (Px.sees (cls x) x l || anyOf (ws.drop (q + 1)) l)) := by
        show _ = _
        rw [hno.out, hd]; rfl
      clear hno hd hx hc hans
      rcases hs : Px.sees (cls x) x l with _ | _
      · rw [hs] at hi
        have hnext : Aside (ans = anyOf (ws.drop (q + 1)) l) := by
          show _ = _
          rw [hstep.out, hs, Bool.false_or]
        clear hstep hs
        go_wp2_with fail
        refine hi.mono ?_
        rintro e w2 ⟨rfl, hb2⟩
        go_wp2_with fail
        go_roundg (ws.length - (q + 1))
        case measure => omega
        case rel => exact ⟨q + 1, by omega, rfl, by go_num, hB.trans (hb2.mono hB.size), hnext⟩
      · rw [hs] at hi
        have hnext : Aside (ans = true) := by
          show _ = _
          rw [hstep.out, hs, Bool.true_or]
        clear hstep hs
        go_wp2_with fail
        refine hi.mono ?_
        rintro e w2 ⟨rfl, hb2⟩
        go_wp2
        go_ret
        exact ⟨⟨_, rfl, by rw [hnext.out]; simp⟩, hB.trans (hb2.mono hB.size)⟩
    · have hltI : ¬ (q : Int) < (ws.length : Int) := by omega
      have hnext : Aside (ans = false) := by
        show _ = _
        rw [hno.out, List.drop_eq_nil_of_le (by omega)]; rfl
      clear hno hans
      go_wp2
      go_ret
      exact ⟨⟨_, rfl, by rw [hnext.out]; rfl⟩, hB⟩
set_option maxRecDepth 100000 in
set_option maxHeartbeats 4000000 in
theorem pcontains_any {b ga : Nat} {l : List Lx.Tok} {w : World} (h : Ps b ga l w) (ws : List Lx.B) (g : Nat) (hg : g < w.heap.size) (hw : ws.length ≤ 100) (hc : ∀ (i : Nat) (x : Lx.B), ws[i]? = some x → w.cell? ⟨g, i, none⟩ = some (.string ⟨x.toArray⟩)) :
    Calls Tryz.prog 124 #[.slice (some ⟨g, 0, none⟩) ws.length ws.length, .func (.func 78) #[.pointer (some ⟨b, 0, none⟩)] #[]] w fun e w' => e = .returned (.bool (anyOf ws l)) ∧ Below w.heap.size w w' := by
  have hi := pindex_any h ws g hg hw hc
  clear hc h
  go_enter Tryz.func124, Tryz.ntmps124
  go_wp2_with fail
  refine hi.mono ?_
  rintro e w1 ⟨⟨z, rfl, hz⟩, hb1⟩
  replace hz := (show Aside _ from hz)
  go_wp2
  go_ret
  exact ⟨ret_bool (by rw [← hz.out]), hb1⟩
/-- One of these words. -/
def oneOf (ws : List Lx.B) (l : List Lx.Tok) : Px.R Lx.B :=
  match l with
  | t :: r => if anyOf ws l then .inl (t.text, r) else Px.fail 31 l
  | [] => Px.fail 31 l
set_option maxRecDepth 100000 in
set_option maxHeartbeats 4000000 in
theorem poneOf_any {b ga : Nat} {l : List Lx.Tok} {w : World} (h : Ps b ga l w) (ws : List Lx.B) (hne : ∀ x ∈ ws, x ≠ []) (g : Nat) (hg : g < w.heap.size) (hw : ws.length ≤ 100) (hc : ∀ (i : Nat) (x : Lx.B), ws[i]? = some x → w.cell? ⟨g, i, none⟩ = some (.string ⟨x.toArray⟩)) :
    Calls Tryz.prog 104 #[.pointer (some ⟨b, 0, none⟩), .slice (some ⟨g, 0, none⟩) ws.length ws.length] w fun e w' => PPost b ga w (oneOf ws l) (fun x v _ => v = .string ⟨x.toArray⟩) e w' := by
  have hi := pcontains_any h ws g hg hw hc
  obtain ⟨t, r, rfl, _⟩ := h.head
  have hf1 := tokF1
  have hmf : ∀ (fn : Fn) (first cap : Array Value) (w : World), (Instr.makeFunc fn first cap).run Tryz.prog w = .ok (.func fn first cap) w := fun _ _ _ _ => rfl
  simp only [oneOf]
  rcases ha : anyOf ws (t :: r) with _ | _
  · rw [ha] at hi
    clear ha hc
    go_enter Tryz.func104, Tryz.ntmps104
    go_wp2_with fail
    refine hi.mono ?_
    rintro e w1 ⟨rfl, hb1⟩
    have h1 := h.below hb1
    go_wp2_with fail
    refine (pgiveUp_any h1 31).mono ?_
    rintro e w2 ⟨rfl, hb2⟩
    exact ⟨rfl, rfl, (Fo.of_below hb1).below hb2 hb1.size⟩
  · rw [ha] at hi
    have hk5 : t.kind ≠ 5 := by
      obtain ⟨x, hx, hs⟩ := List.any_eq_true.1 ha
      obtain ⟨t', r', he, hk⟩ := sees_tail h (hne x hx) hs
      simp at he
      rw [he.1]; exact hk
    clear ha hc hne
    go_enter Tryz.func104, Tryz.ntmps104
    go_wp2_with fail
    refine hi.mono ?_
    rintro e w1 ⟨rfl, hb1⟩
    have h1 := h.below hb1
    go_wp2_with fail
    refine (ptake_any h1 hk5).mono ?_
    rintro e w2 ⟨rfl, h2, hf2⟩
    go_wp2
    go_ret
    exact ⟨_, rfl, rfl, h2, (Fo.of_below hb1).call hf2 hb1.size⟩
end Go.Proofs.YtifebbdjdllfpaaGreatDoor
/- Types and slots: the parser's reading, whole. -/
namespace Go.Proofs.YtifebbdjdllfpaaGreatDoor
open Go.RowKit
set_option linter.unusedSimpArgs false
set_option linter.unusedVariables false

theorem sees_kind {k k' : Nat} {x y : Lx.B} {l : List Lx.Tok} (h : Px.sees k x l = true) (hk : k' ≠ k) : Px.sees k' y l = false := by
  obtain ⟨t, r, rfl, h1, _⟩ := Px.sees_head h
  simp [Px.sees]; intro h2; omega
theorem sees_text {k k' : Nat} {x y : Lx.B} {l : List Lx.Tok} (h : Px.sees k x l = true) (hk : y ≠ x) : Px.sees k' y l = false := by
  obtain ⟨t, r, rfl, _, h1⟩ := Px.sees_head h
  simp [Px.sees]; intro _ h2; exact hk (h2.symm.trans h1)
theorem sees_inl {k : Nat} {x : Lx.B} {t : Lx.Tok} {r : List Lx.Tok} (h : Px.sees k x (t :: r) = true) : t.text = x := by
  obtain ⟨t', r', he, _, h1⟩ := Px.sees_head h
  simp at he; rw [he.1]; exact h1
theorem key_as (l : List Lx.Tok) : Px.key l = oneOf [[105, 110, 116], [116, 101, 120, 116]] l := by
  match l with
  | [] => rfl
  | t :: r =>
    show (if Px.sees 1 [105, 110, 116] (t :: r) then _ else if Px.sees 1 [116, 101, 120, 116] (t :: r) then _ else _) = if anyOf [[105, 110, 116], [116, 101, 120, 116]] (t :: r) then _ else _
    have ha : anyOf [[105, 110, 116], [116, 101, 120, 116]] (t :: r) = (Px.sees 1 [105, 110, 116] (t :: r) || (Px.sees 1 [116, 101, 120, 116] (t :: r) || false)) := rfl
    rw [ha]
    rcases h1 : Px.sees 1 [105, 110, 116] (t :: r) with _ | _
    · rcases h2 : Px.sees 1 [116, 101, 120, 116] (t :: r) with _ | _
      · rfl
      · simp only [Bool.false_eq_true, if_false, if_true, Bool.or_false, Bool.or_true, sees_inl h2, List.tail_cons]
    · simp only [if_true, Bool.true_or, sees_inl h1, List.tail_cons]
theorem typ_as (k : Nat) (l : List Lx.Tok) : Px.typ (k + 1) l =
    if Px.sees 4 [91] l then Px.bind (Px.typ k l.tail) fun t l1 => Px.bind (Px.need [93] l1) fun _ l2 => .inl ([91] ++ t ++ [93], l2)
    else if Px.sees 4 [123] l then Px.bind (oneOf [[105, 110, 116], [116, 101, 120, 116]] l.tail) fun a l1 => Px.bind (Px.need [58] l1) fun _ l2 => Px.bind (Px.typ k l2) fun t l3 => Px.bind (Px.need [125] l3) fun _ l4 => .inl ([123] ++ a ++ [58] ++ t ++ [125], l4)
    else oneOf [[105, 110, 116], [98, 111, 111, 108], [116, 101, 120, 116]] l := by
  simp only [Px.typ, ← key_as]
  rcases h4 : Px.sees 4 [91] l with _ | _
  · rcases h5 : Px.sees 4 [123] l with _ | _
    · simp only [Bool.false_eq_true, if_false]
      match l, h4, h5 with
      | [], _, _ => rfl
      | t :: r, _, _ =>
        have ha : anyOf [[105, 110, 116], [98, 111, 111, 108], [116, 101, 120, 116]] (t :: r) = (Px.sees 1 [105, 110, 116] (t :: r) || (Px.sees 1 [98, 111, 111, 108] (t :: r) || (Px.sees 1 [116, 101, 120, 116] (t :: r) || false))) := rfl
        simp only [oneOf, ha]
        rcases h1 : Px.sees 1 [105, 110, 116] (t :: r) with _ | _
        · rcases h2 : Px.sees 1 [98, 111, 111, 108] (t :: r) with _ | _
          · rcases h3 : Px.sees 1 [116, 101, 120, 116] (t :: r) with _ | _
            · rfl
            · simp only [Bool.false_eq_true, if_false, if_true, Bool.or_false, Bool.or_true, sees_inl h3, List.tail_cons]
          · simp only [Bool.false_eq_true, if_false, if_true, Bool.false_or, Bool.true_or, sees_inl h2, List.tail_cons]
        · simp only [if_true, Bool.true_or, sees_inl h1, List.tail_cons]
    · simp only [sees_kind h5 (k' := 1) (by decide), Bool.false_eq_true, if_false, if_true]
  · simp only [sees_kind h4 (k' := 1) (by decide), Bool.false_eq_true, if_false, if_true]
theorem oneOf_len {ws : List Lx.B} {n : Nat} (hw : ∀ x ∈ ws, x.length ≤ n) {l l' : List Lx.Tok} {x : Lx.B} (h : oneOf ws l = .inl (x, l')) : x.length ≤ n := by
  match l, h with
  | [], h => simp [oneOf, Px.fail] at h
  | t :: r, h =>
    simp only [oneOf] at h
    split at h
    · rename_i ha
      obtain ⟨y, hy, hs⟩ := List.any_eq_true.1 ha
      simp at h
      rw [← h.1, sees_inl hs]; exact hw y hy
    · simp [Px.fail] at h
theorem typ_len : ∀ (k : Nat) (l l' : List Lx.Tok) (x : Lx.B), Px.typ k l = .inl (x, l') → x.length ≤ 4 + 7 * k
  | 0, l, l', x, h => by simp [Px.typ, Px.fail] at h
  | k + 1, l, l', x, h => by
    rw [typ_as] at h
    split at h
    · rcases h1 : Px.typ k l.tail with ⟨t, l1⟩ | f
      · rw [h1] at h; simp only [Px.bind] at h
        rcases h2 : Px.need [93] l1 with ⟨u, l2⟩ | f
        · rw [h2] at h; simp at h
          have := typ_len k _ _ _ h1
          rw [← h.1]; simp; omega
        · rw [h2] at h; simp at h
      · rw [h1] at h; simp [Px.bind] at h
    · split at h
      · rcases h0 : oneOf [[105, 110, 116], [116, 101, 120, 116]] l.tail with ⟨a, l1⟩ | f
        · rw [h0] at h; simp only [Px.bind] at h
          have ha := oneOf_len (n := 4) (by decide) h0
          rcases h2 : Px.need [58] l1 with ⟨u, l2⟩ | f
          · rw [h2] at h; simp only at h
            rcases h1 : Px.typ k l2 with ⟨t, l3⟩ | f
            · rw [h1] at h; simp only at h
              rcases h3 : Px.need [125] l3 with ⟨u, l4⟩ | f
              · rw [h3] at h; simp at h
                have := typ_len k _ _ _ h1
                rw [← h.1]; simp; omega
              · rw [h3] at h; simp at h
            · rw [h1] at h; simp at h
          · rw [h2] at h; simp at h
        · rw [h0] at h; simp [Px.bind] at h
      · have := oneOf_len (n := 4) (by decide) h
        omega
theorem pcat (a c : List UInt8) : (⟨a.toArray⟩ ++ ⟨c.toArray⟩ : ByteArray) = ⟨(a ++ c).toArray⟩ := bytes_same (by rw [ByteArray.data_append]; simp)
theorem pcat5 (x y : Lx.B) : Value.string (⟨#[123]⟩ ++ ⟨x.toArray⟩ ++ ⟨#[58]⟩ ++ ⟨y.toArray⟩ ++ ⟨#[125]⟩) = .string ⟨([123] ++ x ++ [58] ++ y ++ [125]).toArray⟩ := by rw [← pcat, ← pcat, ← pcat, ← pcat]
theorem pcat3 (y : Lx.B) : Value.string (⟨#[91]⟩ ++ ⟨y.toArray⟩ ++ ⟨#[93]⟩) = .string ⟨([91] ++ y ++ [93]).toArray⟩ := by rw [← pcat, ← pcat]
abbrev strs (ws : List Lx.B) : Obj := .cells (ws.map fun x => Value.string ⟨x.toArray⟩).toArray 9
theorem strs_cell {w : World} {g : Nat} {ws : List Lx.B} (h : w.heap[g]? = some (strs ws)) : ∀ (i : Nat) (x : Lx.B), ws[i]? = some x → w.cell? ⟨g, i, none⟩ = some (.string ⟨x.toArray⟩) := by
  intro i x hx
  simp [World.cell?, h, hx]
/-- What the reading of a type at depth d answers, k depths left. -/
def TypeOk (k : Nat) : Prop := ∀ (d b ga : Nat) (l : List Lx.Tok) (w : World), d + k = 5 → Ps b ga l w → Calls Tryz.prog 80 #[.pointer (some ⟨b, 0, none⟩), .int .i64 d] w fun e w' => PPost b ga w (Px.typ k l) (fun x v _ => v = .string ⟨x.toArray⟩) e w'
set_option maxRecDepth 100000 in
set_option maxHeartbeats 8000000 in
theorem ptype_zero : TypeOk 0 := by
  intro d b ga l w hd h
  go_enter Tryz.func80, Tryz.ntmps80
  go_wp2_with fail
  refine (pwithin_bad h d 4 (by omega)).mono ?_
  rintro e w1 ⟨rfl, hf1⟩
  exact ⟨rfl, rfl, hf1⟩
set_option maxRecDepth 100000 in
set_option maxHeartbeats 8000000 in
theorem ptype_step (k : Nat) (IH : TypeOk k) : TypeOk (k + 1) := by
  intro d b ga l w hd h
  obtain ⟨res, hres⟩ : ∃ res, Aside (res = Px.typ (k + 1) l) := ⟨_, rfl⟩
  rw [← hres.out]
  replace hres : Aside (res = _) := hres.out.trans (typ_as k l)
  have hd5 : (d : Int) + 1 ≤ 6 := by omega
  go_enter Tryz.func80, Tryz.ntmps80
  go_wp2_with fail
  refine (pwithin_ok h d 4 (by omega)).mono ?_
  rintro e w1 ⟨rfl, rfl⟩
  have IH' : ∀ (l : List Lx.Tok) (w : World), Ps b ga l w → Calls Tryz.prog 80 #[.pointer (some ⟨b, 0, none⟩), .int .i64 ((d : Int) + 1)] w fun e w' => PPost b ga w (Px.typ k l) (fun x v _ => v = .string ⟨x.toArray⟩) e w' := fun l w h => IH (d + 1) b ga l w (by omega) h
  rcases h4 : Px.sees 4 [91] l with _ | _
  · go_wp2_with fail
    refine (ptakes_no h [91] h4).mono ?_
    rintro e w2 ⟨rfl, h2, hb2⟩
    rcases h5 : Px.sees 4 [123] l with _ | _
    · replace hres : Aside (res = oneOf [[105, 110, 116], [98, 111, 111, 108], [116, 101, 120, 116]] l) := by
        show _ = _
        rw [hres.out, if_neg (by rw [h4]; simp), if_neg (by rw [h5]; simp)]
      go_wp2_with fail
      refine (ptakes_no h2 [123] h5).mono ?_
      rintro e w3 ⟨rfl, h3, hb3⟩
      have hF : Below w1.heap.size w1 (w3.alloc (strs [[105, 110, 116], [98, 111, 111, 108], [116, 101, 120, 116]])) := (hb2.trans (hb3.mono hb2.size)).alloc (by have := hb2.size; have := hb3.size; omega) _
      have hP := h3.alloc (strs [[105, 110, 116], [98, 111, 111, 108], [116, 101, 120, 116]])
      have hC := poneOf_any hP [[105, 110, 116], [98, 111, 111, 108], [116, 101, 120, 116]] (by decide) w3.heap.size (by simp) (by decide) (strs_cell (heap_new w3 _))
      clear h4 h5
      go_wp2_with fail
      refine (show Calls Tryz.prog 104 #[.pointer (some ⟨b, 0, none⟩), .slice (some ⟨w3.heap.size, 0, none⟩) 3 3] (w3.alloc (strs [[105, 110, 116], [98, 111, 111, 108], [116, 101, 120, 116]])) _ from hC).mono ?_
      rcases hq : oneOf [[105, 110, 116], [98, 111, 111, 108], [116, 101, 120, 116]] l with ⟨x, l4⟩ | ⟨a, er⟩
      · rintro e w4 ⟨v, rfl, rfl, h5, hf5⟩
        rw [hq] at hres
        clear hq hC
        go_wp2
        go_ret
        rw [hres.out]
        exact ⟨_, rfl, rfl, h5, (Fo.of_below hF).call hf5 hF.size⟩
      · rintro e w4 ⟨rfl, hf5⟩
        refine ⟨rfl, ?_⟩
        rw [hres.out, hq]
        exact ⟨rfl, (Fo.of_below hF).call hf5 hF.size⟩
    · replace hres : Aside (res = Px.bind (oneOf [[105, 110, 116], [116, 101, 120, 116]] l.tail) fun a l1 => Px.bind (Px.need [58] l1) fun _ l2 => Px.bind (Px.typ k l2) fun t l3 => Px.bind (Px.need [125] l3) fun _ l4 => .inl ([123] ++ a ++ [58] ++ t ++ [125], l4)) := by
        show _ = _
        rw [hres.out, if_neg (by rw [h4]; simp), if_pos h5]
      go_wp2_with fail
      refine (ptakes_yes h2 [123] (by decide) h5).mono ?_
      rintro e w3 ⟨rfl, h3, hf3⟩
      have hF3 : Fo b w1.heap.size w1 w3 := (Fo.of_below hb2).call hf3 hb2.size
      have hF := hF3.alloc hF3.size (strs [[105, 110, 116], [116, 101, 120, 116]])
      have hP := h3.alloc (strs [[105, 110, 116], [116, 101, 120, 116]])
      have hC := poneOf_any hP [[105, 110, 116], [116, 101, 120, 116]] (by decide) w3.heap.size (by simp) (by decide) (strs_cell (heap_new w3 _))
      clear h4 h5
      go_wp2_with fail
      refine (show Calls Tryz.prog 104 #[.pointer (some ⟨b, 0, none⟩), .slice (some ⟨w3.heap.size, 0, none⟩) 2 2] (w3.alloc (strs [[105, 110, 116], [116, 101, 120, 116]])) _ from hC).mono ?_
      rcases hq : oneOf [[105, 110, 116], [116, 101, 120, 116]] l.tail with ⟨x, l4⟩ | ⟨a, er⟩
      · rintro e w4 ⟨v, rfl, rfl, h5, hf5⟩
        have hxl := oneOf_len (n := 4) (by decide) hq
        rw [hq] at hres
        have hF5 := hF.call hf5 hF.size
        clear hq hC hf5 hF hF3 hP h3 hf3 hb2 h2
        go_wp2_with fail
        refine (pneed_any h5 4 [58] (by decide) (by decide)).mono ?_
        rcases hq : Px.need [58] l4 with ⟨u, l5⟩ | ⟨a, er⟩
        · rw [show Px.needK 4 [58] l4 = _ from hq]
          rintro e w5 ⟨v, rfl, rfl, h6, hf6⟩
          replace hres : Aside (res = Px.bind (Px.typ k l5) fun t l3 => Px.bind (Px.need [125] l3) fun _ l4 => .inl ([123] ++ x ++ [58] ++ t ++ [125], l4)) := by
            show _ = _
            rw [hres.out]; simp only [Px.bind, hq]
          have hF6 := hF5.call hf6 hF5.size
          clear hq hF5 hf6 h5
          go_wp2_with fail
          refine (IH' l5 w5 h6).mono ?_
          rcases hq : Px.typ k l5 with ⟨y, l6⟩ | ⟨a, er⟩
          · rintro e w6 ⟨v, rfl, rfl, h7, hf7⟩
            have hyl := typ_len k _ _ _ hq
            replace hres : Aside (res = Px.bind (Px.need [125] l6) fun _ l4 => .inl ([123] ++ x ++ [58] ++ y ++ [125], l4)) := by
              show _ = _
              rw [hres.out]; simp only [Px.bind, hq]
            have hF7 := hF6.call hf7 hF6.size
            clear hq hF6 hf7 h6
            go_wp2_with fail
            refine (pneed_any h7 4 [125] (by decide) (by decide)).mono ?_
            rcases hq : Px.need [125] l6 with ⟨u, l7⟩ | ⟨a, er⟩
            · rw [show Px.needK 4 [125] l6 = _ from hq]
              rintro e w7 ⟨v, rfl, rfl, h8, hf8⟩
              replace hres : Aside (res = .inl ([123] ++ x ++ [58] ++ y ++ [125], l7)) := by
                show _ = _
                rw [hres.out]; simp only [Px.bind, hq]
              have hF8 := hF7.call hf8 hF7.size
              have hxz : (⟨x.toArray⟩ : ByteArray).size = x.length := by show x.toArray.size = _; simp
              have hyz : (⟨y.toArray⟩ : ByteArray).size = y.length := by show y.toArray.size = _; simp
              have c0 : ¬ 9223372036854775807 < 1 + x.length := by omega
              have c1 : ¬ 9223372036854775807 < 1 + x.length + 1 := by omega
              have c2 : ¬ 9223372036854775807 < 1 + x.length + 1 + y.length := by omega
              have c3 : ¬ 9223372036854775807 < 1 + x.length + 1 + y.length + 1 := by omega
              clear hq hF7 hf8 h7
              go_wp2
              go_ret
              rw [hres.out]
              exact ⟨_, rfl, pcat5 x y, h8, hF8⟩
            · rw [show Px.needK 4 [125] l6 = _ from hq]
              rintro e w7 ⟨rfl, hf8⟩
              refine ⟨rfl, ?_⟩
              rw [hres.out, hq]
              exact ⟨rfl, hF7.call hf8 hF7.size⟩
          · rintro e w6 ⟨rfl, hf7⟩
            refine ⟨rfl, ?_⟩
            rw [hres.out, hq]
            exact ⟨rfl, hF6.call hf7 hF6.size⟩
        · rw [show Px.needK 4 [58] l4 = _ from hq]
          rintro e w5 ⟨rfl, hf6⟩
          refine ⟨rfl, ?_⟩
          rw [hres.out]
          simp only [Px.bind, hq]
          exact ⟨rfl, hF5.call hf6 hF5.size⟩
      · rintro e w4 ⟨rfl, hf5⟩
        refine ⟨rfl, ?_⟩
        rw [hres.out, hq]
        exact ⟨rfl, hF.call hf5 hF.size⟩
  · replace hres : Aside (res = Px.bind (Px.typ k l.tail) fun t l1 => Px.bind (Px.need [93] l1) fun _ l2 => .inl ([91] ++ t ++ [93], l2)) := by
      show _ = _
      rw [hres.out, if_pos h4]
    go_wp2_with fail
    refine (ptakes_yes h [91] (by decide) h4).mono ?_
    rintro e w2 ⟨rfl, h2, hF2⟩
    clear h4
    go_wp2_with fail
    refine (IH' l.tail w2 h2).mono ?_
    rcases hq : Px.typ k l.tail with ⟨y, l6⟩ | ⟨a, er⟩
    · rintro e w6 ⟨v, rfl, rfl, h7, hf7⟩
      have hyl := typ_len k _ _ _ hq
      replace hres : Aside (res = Px.bind (Px.need [93] l6) fun _ l4 => .inl ([91] ++ y ++ [93], l4)) := by
        show _ = _
        rw [hres.out]; simp only [Px.bind, hq]
      have hF7 := hF2.call hf7 hF2.size
      clear hq hF2 hf7 h2
      go_wp2_with fail
      refine (pneed_any h7 4 [93] (by decide) (by decide)).mono ?_
      rcases hq : Px.need [93] l6 with ⟨u, l7⟩ | ⟨a, er⟩
      · rw [show Px.needK 4 [93] l6 = _ from hq]
        rintro e w7 ⟨v, rfl, rfl, h8, hf8⟩
        replace hres : Aside (res = .inl ([91] ++ y ++ [93], l7)) := by
          show _ = _
          rw [hres.out]; simp only [Px.bind, hq]
        have hF8 := hF7.call hf8 hF7.size
        have hyz : (⟨y.toArray⟩ : ByteArray).size = y.length := by show y.toArray.size = _; simp
        have c1 : ¬ 9223372036854775807 < 1 + y.length := by omega
        have c2 : ¬ 9223372036854775807 < 1 + y.length + 1 := by omega
        clear hq hF7 hf8 h7
        go_wp2
        go_ret
        rw [hres.out]
        exact ⟨_, rfl, pcat3 y, h8, hF8⟩
      · rw [show Px.needK 4 [93] l6 = _ from hq]
        rintro e w7 ⟨rfl, hf8⟩
        refine ⟨rfl, ?_⟩
        rw [hres.out, hq]
        exact ⟨rfl, hF7.call hf8 hF7.size⟩
    · rintro e w6 ⟨rfl, hf7⟩
      refine ⟨rfl, ?_⟩
      rw [hres.out, hq]
      exact ⟨rfl, hF2.call hf7 hF2.size⟩
theorem ptype_any : ∀ k, TypeOk k
  | 0 => ptype_zero
  | k + 1 => ptype_step k (ptype_any k)
end Go.Proofs.YtifebbdjdllfpaaGreatDoor
/- Slots: the parser's reading. -/
namespace Go.Proofs.YtifebbdjdllfpaaGreatDoor
open Go.RowKit
set_option linter.unusedSimpArgs false
set_option linter.unusedVariables false

abbrev zeroSl : Obj := .cells #[.string ⟨#[]⟩, .string ⟨#[]⟩, .int .i64 0] 90
def SlV (s : Px.Sl) (v : Value) : Prop := v = .agg #[.string ⟨s.name.toArray⟩, .string ⟨s.type.toArray⟩, .int .i64 s.place]
/-- A way through a region that has come to its end by a panic: nothing is left of it. -/
theorem skip_way {Z : Prop} (w : World) (h : Z) : wpAny Tryz.prog .any #[] (fun _ _ _ => True) 0 #[] { tmps := #[], defers := [] } w → Z := fun _ => h
set_option maxRecDepth 100000 in
set_option maxHeartbeats 8000000 in
theorem pslot_any {b ga : Nat} {l : List Lx.Tok} {w : World} (h : Ps b ga l w) :
    Calls Tryz.prog 54 #[.pointer (some ⟨b, 0, none⟩)] w fun e w' => PPost b ga w (Px.slot l) (fun s v _ => SlV s v) e w' := by
  obtain ⟨res, hres⟩ : ∃ res, Aside (res = Px.slot l) := ⟨_, rfl⟩
  rw [← hres.out]
  have hwb : w.heap.size ≠ b := by have := h.there; omega
  have hwga : w.heap.size ≠ ga := by have := h.gl; omega
  have h0 := h.alloc zeroSl
  have hs0 := heap_new w zeroSl
  have hF0 : Fo b w.heap.size w (w.alloc zeroSl) := (Fo.refl _ _ _).alloc (Nat.le_refl _) _
  have hl0 : w.heap.size < (w.alloc zeroSl).heap.size := by simp
  have hC := pname_any h0
  go_enter Tryz.func54, Tryz.ntmps54
  go_wp2_with fail
  generalize w.alloc zeroSl = w0 at *
  refine hC.mono ?_
  rcases hq : Px.name l with ⟨t, l1⟩ | ⟨a, er⟩
  · rintro e w1 ⟨v, rfl, rfl, h1, hf1⟩
    replace hres : Aside (res = Px.bind (Px.need [58] l1) fun _ l2 => Px.bind (Px.typ 4 l2) fun y l3 => .inl (⟨t.text, y, t.place⟩, l3)) := by
      show _ = _
      rw [hres.out, Px.slot, hq]; rfl
    have hs1 : w1.heap[w.heap.size]? = some zeroSl := (hf1.block _ hl0 hwb).trans hs0
    have hF1 := hF0.call hf1 hF0.size
    have hl1 : w.heap.size < w1.heap.size := by have := hf1.size; omega
    have h2 := h1.alloc (tokB t)
    have hs2 : (w1.alloc (tokB t)).heap[w.heap.size]? = some zeroSl := (heap_old hl1).trans hs1
    have hF2 := hF1.alloc hF1.size (tokB t)
    have hl2 : w.heap.size < (w1.alloc (tokB t)).heap.size := by simp; omega
    have hn2 := heap_new w1 (tokB t)
    have hm2 : w1.heap.size < (w1.alloc (tokB t)).heap.size := by simp
    have hgb : w1.heap.size ≠ b := by have := h1.there; omega
    clear hC hs0 hs1 hF0 hF1 h0 h1 hf1 hq hl0
    go_wp2_with fail
    generalize w1.alloc (tokB t) = w2 at *
    generalize w1.heap.size = g3 at *
    refine (pneed_any h2 4 [58] (by decide) (by decide)).mono ?_
    rcases hq : Px.need [58] l1 with ⟨u, l2⟩ | ⟨a, er⟩
    · rw [show Px.needK 4 [58] l1 = _ from hq]
      rintro e w3 ⟨v, rfl, rfl, h3, hf3⟩
      replace hres : Aside (res = Px.bind (Px.typ 4 l2) fun y l3 => .inl (⟨t.text, y, t.place⟩, l3)) := by
        show _ = _
        rw [hres.out, hq]; rfl
      have hs3 : w3.heap[w.heap.size]? = some zeroSl := (hf3.block _ hl2 hwb).trans hs2
      have hn3 : w3.heap[g3]? = some (tokB t) := (hf3.block _ hm2 hgb).trans hn2
      have hF3 := hF2.call hf3 hF2.size
      have hl3 : w.heap.size < w3.heap.size := by have := hf3.size; omega
      have hm3 : g3 < w3.heap.size := by have := hf3.size; omega
      obtain ⟨x0, x1, x2, x3, _⟩ := cells_of4 hn3
      have hT : ∀ w', Ps b ga l2 w' → Calls Tryz.prog 80 #[.pointer (some ⟨b, 0, none⟩), .int .i64 1] w' fun e w'' => PPost b ga w' (Px.typ 4 l2) (fun x v _ => v = .string ⟨x.toArray⟩) e w'' := fun w' h' => ptype_any 4 1 b ga l2 w' (by decide) h'
      clear hs2 hn2 hF2 h2 hf3 hq
      rcases hq : Px.typ 4 l2 with ⟨y, l3⟩ | ⟨a, er⟩
      · rw [hq] at hT
        replace hres : Aside (res = .inl (⟨t.text, y, t.place⟩, l3)) := by
          show _ = _
          rw [hres.out, hq]; rfl
        replace hT : ∀ w', Ps b ga l2 w' → Calls Tryz.prog 80 #[.pointer (some ⟨b, 0, none⟩), .int .i64 1] w' fun e w'' => ∃ v, e = .returned v ∧ v = .string ⟨y.toArray⟩ ∧ Ps b ga l3 w'' ∧ Fo b w'.heap.size w' w'' := hT
        clear hq
        have hne1 : g3 ≠ w.heap.size := by omega
        have hne2 : w.heap.size ≠ g3 := by omega
        go_wp2_with fail
        go_region_held3 (fun w' => w'.cell? ⟨g3, 1, none⟩ = some (.string ⟨t.text.toArray⟩) ∧ w'.cell? ⟨g3, 3, none⟩ = some (.int .i64 t.place)) (go_keep)
          ((go_at_call 80; refine (hT w3.drew (h3.keep rfl rfl (Nat.le_refl _))).mono ?_; rintro e w4 ⟨v, rfl, rfl, h4, hf4⟩; have y1 := (hf4.cell (o := 1) hm3 hgb).trans x1; have y3 := (hf4.cell (o := 3) hm3 hgb).trans x3; have hl4 : w.heap.size < w4.heap.size := Nat.lt_of_lt_of_le hl3 hf4.size; have hs4 : w4.heap[w.heap.size]? = some zeroSl := (hf4.block _ hl3 hwb).trans hs3; obtain ⟨e0, e1, e2, k0, k1, k2⟩ := cells_of3 hs4))
        go_wp2
        rw [hres.out]
        exact bodyPost_ret (v := .agg #[.string ⟨t.text.toArray⟩, .string ⟨y.toArray⟩, .int .i64 t.place]) (by simp [results, Tryz.results54, go_sem, e0, e1, e2]) rfl ⟨_, rfl, rfl, h4.set3 hwb hwga _ _ _, ((hF3.trans (Fo.drew _ _ _)).trans (hf4.mono (Nat.le_of_lt hl3))).set3 (Nat.le_refl _) _ _ _⟩
      · rw [hq] at hT
        replace hres : Aside (res = .inr (a, er)) := by
          show _ = _
          rw [hres.out, hq]; rfl
        replace hT : ∀ w', Ps b ga l2 w' → Calls Tryz.prog 80 #[.pointer (some ⟨b, 0, none⟩), .int .i64 1] w' fun e w'' => e = .panicked (thrownP a er) ∧ Fo b w'.heap.size w' w'' := hT
        clear hq
        go_wp2_with fail
        have hpost : ∀ w4, Fo b w3.drew.heap.size w3.drew w4 → PPost b ga w res (fun s v _ => SlV s v) (.panicked (thrownP a er)) w4 := fun w4 hf4 => by
          rw [hres.out]
          exact ⟨rfl, (hF3.trans (Fo.drew _ _ _)).trans (hf4.mono (Nat.le_of_lt hl3))⟩
        go_region_with (go_at_call 80; refine (hT w3.drew (h3.keep rfl rfl (Nat.le_refl _))).mono ?_; rintro e w4 ⟨rfl, hf4⟩; refine skip_way w4 ⟨rfl, hpost w4 hf4⟩ ?_)
        all_goals trivial
    · rw [show Px.needK 4 [58] l1 = _ from hq]
      rintro e w3 ⟨rfl, hf3⟩
      refine ⟨rfl, ?_⟩
      rw [hres.out, hq]
      exact ⟨rfl, hF2.call hf3 hF2.size⟩
  · rintro e w1 ⟨rfl, hf1⟩
    refine ⟨rfl, ?_⟩
    rw [hres.out, Px.slot, hq]
    exact ⟨rfl, hF0.call hf1 hF0.size⟩
end Go.Proofs.YtifebbdjdllfpaaGreatDoor
/- Parts in round brackets: the parser's reading, over whatever takes one part. -/
namespace Go.Proofs.YtifebbdjdllfpaaGreatDoor
open Go.RowKit
set_option linter.unusedSimpArgs false
set_option linter.unusedVariables false

/-- What one part's taking does: the list that lies in memory (by Inv) is longer by it; or a fault is thrown. -/
def PartPost (b ga n : Nat) {α : Type} (Inv : List α → World → Prop) (acc : List α) (w : World) (r : Px.R α) (e : Ending) (w' : World) : Prop :=
  match r with
  | .inl (x, l') => e = .returned (.tuple #[]) ∧ Inv (acc ++ [x]) w' ∧ Ps b ga l' w' ∧ Fo b n w w'
  | .inr (a, er) => e = .panicked (thrownP a er) ∧ Fo b n w w'
/-- What the taking of all does. -/
def ListPost (b ga n : Nat) {α : Type} (Inv : List α → World → Prop) (w : World) (r : Px.R (List α)) (e : Ending) (w' : World) : Prop :=
  match r with
  | .inl (xs, l') => e = .returned (.tuple #[]) ∧ Inv xs w' ∧ Ps b ga l' w' ∧ Fo b n w w'
  | .inr (a, er) => e = .panicked (thrownP a er) ∧ Fo b n w w'
theorem items_more {α : Type} {q : Px.P α} {f n : Nat} {acc : List α} {l : List Lx.Tok} (hn : 0 < n) : Px.items q (f + 1) n acc l = if Px.sees 4 [44] l then Px.bind (q l.tail) fun x l2 => Px.items q f (n + 1) (acc ++ [x]) l2 else if Px.sees 4 [41] l then .inl (acc, l.tail) else Px.fail 31 l := by
  simp only [Px.items]
  rcases h1 : Px.sees 4 [41] l with _ | _
  · simp only [Bool.false_eq_true, if_false]
    rw [Px.sep, if_neg (by omega)]
    unfold Px.need Px.needK
    rcases h2 : Px.sees 4 [44] l with _ | _
    · rfl
    · rfl
  · simp only [if_true]
    rw [if_neg (by rw [sees_text h1 (by decide)]; simp)]
theorem items_first {α : Type} {q : Px.P α} {f : Nat} {acc : List α} {l : List Lx.Tok} : Px.items q (f + 1) 0 acc l = if Px.sees 4 [41] l then .inl (acc, l.tail) else Px.bind (q l) fun x l2 => Px.items q f 1 (acc ++ [x]) l2 := by
  simp only [Px.items, Px.sep, if_true, Px.bind]
theorem items_fuel {α : Type} {q : Px.P α} (hq : Px.Ok q) : ∀ (f g n : Nat) (acc : List α) (l : List Lx.Tok), Px.Good l → l.length < f → l.length < g → Px.items q f n acc l = Px.items q g n acc l
  | 0, _, _, _, _, _, h, _ => by omega
  | _, 0, _, _, _, _, _, h => by omega
  | f + 1, g + 1, n, acc, l, hg, h1, h2 => by
    simp only [Px.items]
    split
    · rfl
    · refine Px.bind_congr fun u l1 e1 => Px.bind_congr fun x l2 e2 => ?_
      have a1 := (Px.sep_res hg).ok u l1 e1
      have a2 := (hq l1 a1.good).ok x l2 e2
      exact items_fuel hq f g (n + 1) _ l2 a2.good (by have := a1.less; have := a2.less; omega) (by have := a1.less; have := a2.less; omega)
set_option maxRecDepth 100000 in
set_option maxHeartbeats 8000000 in
theorem plisted_any {α : Type} {b ga n K : Nat} {caps : Array Value} {q : Px.P α} {Inv : List α → World → Prop} {l : List Lx.Tok} {w : World} (h : Ps b ga l w) (hn : n ≤ w.heap.size) (hok : Px.Ok q)
    (hK : ∀ (args : Array Value) (w : World), (callFunc K args).run Tryz.prog w = .ok (.enter K args) w)
    (hq : ∀ (acc : List α) (l1 : List Lx.Tok) (w1 : World), Ps b ga l1 w1 → Inv acc w1 → n ≤ w1.heap.size → acc.length + l1.length ≤ 4096 → Calls Tryz.prog K caps w1 fun e w2 => PartPost b ga n Inv acc w1 (q l1) e w2)
    (hI : ∀ (acc : List α) (w1 w2 : World), Inv acc w1 → Fo b w1.heap.size w1 w2 → Inv acc w2) (h0 : Inv [] w) :
    Calls Tryz.prog 81 #[.pointer (some ⟨b, 0, none⟩), .func (.func K) #[] caps] w fun e w' => ListPost b ga n Inv w (Px.bind (Px.need [40] l) fun _ l1 => Px.items q (l1.length + 1) 0 [] l1) e w' := by
  obtain ⟨res, hres⟩ : ∃ res, Aside (res = Px.bind (Px.need [40] l) fun _ l1 => Px.items q (l1.length + 1) 0 [] l1) := ⟨_, rfl⟩
  rw [← hres.out]
  go_enter Tryz.func81, Tryz.ntmps81
  go_wp2_with fail
  refine (pneed_any h 4 [40] (by decide) (by decide)).mono ?_
  rcases hx : Px.need [40] l with ⟨u, l1⟩ | ⟨a, er⟩
  · rw [show Px.needK 4 [40] l = _ from hx]
    rintro e w1 ⟨v, rfl, rfl, h1, hf1⟩
    replace hres : Aside (res = Px.items q (l1.length + 1) 0 [] l1) := by
      show _ = _
      rw [hres.out, hx]; rfl
    have hF1 := hf1.mono hn
    have i1 := hI _ _ _ h0 hf1
    have hn1 : n ≤ w1.heap.size := by have := hf1.size; omega
    clear hx hf1 h0
    rcases hs : Px.sees 4 [41] l1 with _ | _
    · replace hres : Aside (res = Px.bind (q l1) fun x l2 => Px.items q l1.length 1 [x] l2) := by
        show _ = _
        rw [hres.out, items_first, if_neg (by rw [hs]; simp)]; rfl
      go_wp2_with fail
      refine (ptakes_no h1 [41] hs).mono ?_
      rintro e w2 ⟨rfl, h2, hb2⟩
      have i2 := hI _ _ _ i1 (Fo.of_below hb2)
      have hF2 := hF1.below hb2 hn1
      have hn2 : n ≤ w2.heap.size := by have := hb2.size; omega
      clear hs hb2 i1 hF1 h1
      have hC := hq [] l1 w2 h2 i2 hn2 (by have := h2.few; simpa using this)
      go_wp2_with fail
      refine (show Calls Tryz.prog K caps w2 _ by simpa using hC).mono ?_
      rcases hx : q l1 with ⟨x, l2⟩ | ⟨a, er⟩
      · rintro e w3 ⟨rfl, i3, h3, hf3⟩
        have hg1 : Px.Good l1 := h2.good
        have hlen := ((hok l1 hg1).ok x l2 hx).less
        have hfew := h2.few
        replace hres : Aside (res = Px.items q (l2.length + 1) 1 [x] l2) := by
          show _ = _
          rw [hres.out, hx]
          exact items_fuel hok _ _ _ _ _ ((hok l1 hg1).ok x l2 hx).good (by omega) (by omega)
        have hF3 := hF2.trans hf3
        have hn3 : n ≤ w3.heap.size := by have := hf3.size; omega
        clear hx hC i2 hF2 h2 hf3 hn2 hn1
        go_wp2_with fail
        go_loopg [] (l2.length + 1) (fun m wr => ∃ (acc : List α) (l4 : List Lx.Tok) (c : Nat), 0 < c ∧ m = l4.length + 1 ∧ Ps b ga l4 wr ∧ Inv acc wr ∧ Fo b n w wr ∧ n ≤ wr.heap.size ∧ acc.length + l4.length ≤ 4096 ∧ Aside (res = Px.items q (l4.length + 1) c acc l4))
        case atStart => exact ⟨[] ++ [x], l2, 1, by omega, rfl, h3, i3, hF3, hn3, by simp; omega, hres⟩
        case round =>
          clear hres h3 i3 hF3 hn3
          obtain ⟨acc, l4, c, hc, rfl, h4, i4, hF4, hn4, hal, hres⟩ := hrel
          replace hres : Aside (res = _) := hres.out.trans (items_more hc)
          rcases hs4 : Px.sees 4 [44] l4 with _ | _
          · go_wp2_with fail
            refine (ptakes_no h4 [44] hs4).mono ?_
            rintro e w5 ⟨rfl, h5, hb5⟩
            have i5 := hI _ _ _ i4 (Fo.of_below hb5)
            have hF5 := hF4.below hb5 hn4
            have hn5 : n ≤ w5.heap.size := by have := hb5.size; omega
            go_wp2_with fail
            refine (pneed_any h5 4 [41] (by decide) (by decide)).mono ?_
            rcases hs5 : Px.sees 4 [41] l4 with _ | _
            · replace hres : Aside (res = .inr (Px.place l4, 31)) := by
                show _ = _
                rw [hres.out, if_neg (by rw [hs4]; simp), if_neg (by rw [hs5]; simp)]; rfl
              rw [show Px.needK 4 [41] l4 = .inr (Px.place l4, 31) by unfold Px.needK; rw [if_neg (by rw [hs5]; simp)]; rfl]
              rintro e w6 ⟨rfl, hf6⟩
              refine ⟨rfl, ?_⟩
              rw [hres.out]
              exact ⟨rfl, hF5.call hf6 hn5⟩
            · replace hres : Aside (res = .inl (acc, l4.tail)) := by
                show _ = _
                rw [hres.out, if_neg (by rw [hs4]; simp), if_pos hs5]
              rw [show Px.needK 4 [41] l4 = .inl ((), l4.tail) by unfold Px.needK; rw [if_pos hs5]]
              rintro e w6 ⟨v, rfl, rfl, h6, hf6⟩
              have i6 := hI _ _ _ i5 hf6
              go_wp2
              go_end0
              rw [hres.out]
              exact ⟨rfl, i6, h6, hF5.call hf6 hn5⟩
          · replace hres : Aside (res = Px.bind (q l4.tail) fun x l2 => Px.items q l4.length (c + 1) (acc ++ [x]) l2) := by
              show _ = _
              rw [hres.out, if_pos hs4]
            go_wp2_with fail
            refine (ptakes_yes h4 [44] (by decide) hs4).mono ?_
            rintro e w5 ⟨rfl, h5, hf5⟩
            have i5 := hI _ _ _ i4 hf5
            have hF5 := hF4.call hf5 hn4
            have hn5 : n ≤ w5.heap.size := by have := hf5.size; omega
            have hlt : l4.tail.length + 1 = l4.length := by
              obtain ⟨t, r, rfl, _⟩ := Px.sees_head hs4
              simp
            have hC := hq acc l4.tail w5 h5 i5 hn5 (by omega)
            clear hs4 h4 i4 hF4 hn4
            go_wp2_with fail
            refine (show Calls Tryz.prog K caps w5 _ by simpa using hC).mono ?_
            rcases hx : q l4.tail with ⟨y, l6⟩ | ⟨a, er⟩
            · rintro e w6 ⟨rfl, i6, h6, hf6⟩
              have hlen := ((hok l4.tail h5.good).ok y l6 hx).less
              replace hres : Aside (res = Px.items q (l6.length + 1) (c + 1) (acc ++ [y]) l6) := by
                show _ = _
                rw [hres.out, hx]
                exact items_fuel hok _ _ _ _ _ ((hok l4.tail h5.good).ok y l6 hx).good (by omega) (by omega)
              have hn6 : n ≤ w6.heap.size := by have := hf6.size; omega
              go_wp2_with fail
              go_roundg (l6.length + 1)
              case measure => omega
              case rel => exact ⟨acc ++ [y], l6, c + 1, by omega, rfl, h6, i6, hF5.trans hf6, hn6, by simp; omega, hres⟩
            · rintro e w6 ⟨rfl, hf6⟩
              refine ⟨rfl, ?_⟩
              rw [hres.out, hx]
              exact ⟨rfl, hF5.trans hf6⟩
      · rintro e w3 ⟨rfl, hf3⟩
        refine ⟨rfl, ?_⟩
        rw [hres.out, hx]
        exact ⟨rfl, hF2.trans hf3⟩
    · replace hres : Aside (res = .inl ([], l1.tail)) := by
        show _ = _
        rw [hres.out, items_first, if_pos hs]
      go_wp2_with fail
      refine (ptakes_yes h1 [41] (by decide) hs).mono ?_
      rintro e w2 ⟨rfl, h2, hf2⟩
      have i2 := hI _ _ _ i1 hf2
      go_wp2
      go_end0
      rw [hres.out]
      exact ⟨rfl, i2, h2, hF1.call hf2 hn1⟩
  · rw [show Px.needK 4 [40] l = _ from hx]
    rintro e w1 ⟨rfl, hf1⟩
    refine ⟨rfl, ?_⟩
    rw [hres.out, hx]
    exact ⟨rfl, hf1.mono hn⟩
end Go.Proofs.YtifebbdjdllfpaaGreatDoor
/- One parameter of a function: the parser's reading. -/
namespace Go.Proofs.YtifebbdjdllfpaaGreatDoor
open Go.RowKit
set_option linter.unusedSimpArgs false
set_option linter.unusedVariables false

theorem owns_fo {w w' : World} {b base sz n : Nat} {e : TypeId} {v : Value} {xs : List Value} (h : w.ownsRow base e sz v n xs) (f : Fo b w.heap.size w w') (hb : b < base) : w'.ownsRow base e sz v n xs := by
  obtain ⟨h1, h2⟩ := h
  refine ⟨h1, ?_⟩
  rcases h2 with h2 | ⟨g, cap, cur, hv, hg, hh, r⟩
  · exact Or.inl h2
  · exact Or.inr ⟨g, cap, cur, hv, hg, (f.block g (Array.getElem?_eq_some_iff.1 hh).1 (by omega)).trans hh, r⟩
/-- What is owned is a row in memory. -/
theorem owns_slrow {w : World} {base sz n : Nat} {e : TypeId} {v : Value} {xs : List Value} {B : Nat → Prop} (h : w.ownsRow base e sz v n xs) (hB : ∀ g, base ≤ g → g < w.heap.size → B g) : SlRow B w sz v n xs := by
  obtain ⟨h1, h2⟩ := h
  refine ⟨h1, ?_⟩
  rcases h2 with h2 | ⟨g, cap, cur, hv, hg, hh, hn, hc, hs, ht⟩
  · exact Or.inl h2
  · have hl := (Array.getElem?_eq_some_iff.1 hh).1
    refine Or.inr ⟨g, 0, cap, hv, hn, hc, hB g hg hl, hl, fun j u hj => ?_⟩
    rw [Nat.zero_add, Lib.cell_of_heap hh]
    rw [← ht, List.getElem?_take] at hj
    split at hj
    · simpa using hj
    · simp at hj
theorem grown_far {w w5 : World} {o : Obj} {v : Value} {base g sz n : Nat} {e : TypeId} {xs : List Value} (hgrow : (w.alloc o).grownBy w5 v.ownBlock) (hown : w.ownsRow base e sz v n xs) (hg : g < base) (hl : g < w.heap.size) : w5.heap[g]? = w.heap[g]? := by
  rw [hgrow.block g (by simp; omega) (fun e => by have := (hown.lt g e.symm).1; omega)]
  exact heap_old hl
theorem grown_fo {w w5 : World} {o : Obj} {v : Value} {b base m sz n : Nat} {e : TypeId} {xs : List Value} (hgrow : (w.alloc o).grownBy w5 v.ownBlock) (hown : w.ownsRow base e sz v n xs) (hm : m ≤ base) (hl : m ≤ w.heap.size) : Fo b m w w5 :=
  ⟨hgrow.os, hgrow.tape, hgrow.output, by have := hgrow.size; simp at this; omega, fun k h1 _ => grown_far hgrow hown (by omega) (by omega)⟩

theorem slotInfo : (Tryz.prog.info? 90).map (fun i => (i.zero, i.size, i.bytes)) = some (some (.agg #[.string ⟨#[]⟩, .string ⟨#[]⟩, .int .i64 0]), 3, 40) := by kernel_rfl
abbrev fnObj (nm : Lx.B) (on : Bool) (ps : Value) (y : Lx.B) (bs : Value) (pl : Nat) : Obj := .cells #[.string ⟨nm.toArray⟩, .bool on, ps, .string ⟨y.toArray⟩, .slice none 0 0, bs, .int .i64 pl] 38 (0, 0)
abbrev ptrObj (b : Nat) : Obj := .cells #[.pointer (some ⟨b, 0, none⟩)] 77 (0, 0)
/-- At gf lies a function whose parameters so far are acc; at gp the parser's place. -/
structure FnBox (b gp gf : Nat) (nm : Lx.B) (on : Bool) (pl : Nat) (acc : List Px.Sl) (w : World) : Prop where
  ptr : w.heap[gp]? = some (ptrObj b)
  fn : ∃ ps, w.heap[gf]? = some (fnObj nm on ps [] (.slice none 0 0) pl) ∧ w.ownsRow (gf + 1) 90 3 ps acc.length (acc.flatMap slCells)
theorem FnBox.fo {b gp gf : Nat} {nm : Lx.B} {on : Bool} {pl : Nat} {acc : List Px.Sl} {w w' : World} (h : FnBox b gp gf nm on pl acc w) (f : Fo b w.heap.size w w') (h1 : b < gp) (h2 : gp < gf) : FnBox b gp gf nm on pl acc w' := by
  obtain ⟨hp, ps, hf, ho⟩ := h
  exact ⟨(f.block gp (Array.getElem?_eq_some_iff.1 hp).1 (by omega)).trans hp, ps, (f.block gf (Array.getElem?_eq_some_iff.1 hf).1 (by omega)).trans hf, owns_fo ho f (by omega)⟩

set_option maxRecDepth 100000 in
set_option maxHeartbeats 8000000 in
theorem pparam_any {b ga n gp gf : Nat} {nm : Lx.B} {on : Bool} {pl : Nat} (h1 : b < gp) (h2 : gp < gf) (hga : ga < gp) (hng : n ≤ gf) (acc : List Px.Sl) (l : List Lx.Tok) (w : World) (h : Ps b ga l w) (hi : FnBox b gp gf nm on pl acc w) (hn : n ≤ w.heap.size) (hal : acc.length + l.length ≤ 4096) :
    Calls Tryz.prog 82 #[.pointer (some ⟨gf, 0, none⟩), .pointer (some ⟨gp, 0, none⟩)] w fun e w' => PartPost b ga n (FnBox b gp gf nm on pl) acc w (Px.slot l) e w' := by
  obtain ⟨i0, hi0, hz0, hz1, hz2⟩ := info_parts slotInfo
  obtain ⟨hp, ps, hf, hown⟩ := hi
  have hlp : gp < w.heap.size := (Array.getElem?_eq_some_iff.1 hp).1
  have hlf : gf < w.heap.size := (Array.getElem?_eq_some_iff.1 hf).1
  have c0 := cell_of_one hp
  obtain ⟨_, _, c2, _, _, _, _, _, _, k2, _⟩ := cells_of7 hf
  obtain ⟨ao, cap, rfl⟩ := slice_of hown
  have hC : ∀ w', Ps b ga l w' → _ := fun w' h' => pslot_any h'
  rcases hq : Px.slot l with ⟨s, l'⟩ | ⟨a, er⟩
  · rw [hq] at hC
    replace hC : ∀ w', Ps b ga l w' → Calls Tryz.prog 54 #[.pointer (some ⟨b, 0, none⟩)] w' fun e w'' => ∃ v, e = .returned v ∧ SlV s v ∧ Ps b ga l' w'' ∧ Fo b w'.heap.size w' w'' := hC
    clear hq
    go_enter Tryz.func82, Tryz.ntmps82
    go_wp2_with fail
    go_region_law (first
      | (refine step_append_lies _ (by rfl) _ _ 28 (by rfl) (gf + 1) 90 i0 _ 3 40 Tryz.underlying28 hi0 hz0 hz1 hz2 rfl (by omega) _ acc.length (acc.flatMap slCells) (by rfl) (hown4.alloc _)
          ⟨w4.heap.size, 0, none⟩ 1 1 [.string ⟨s.name.toArray⟩, .string ⟨s.type.toArray⟩, .int .i64 s.place] (by rfl) (by rfl) (World.news_of_block (cs := #[.string ⟨s.name.toArray⟩, .string ⟨s.type.toArray⟩, .int .i64 s.place]) (t := 90) (fr := (0, 0)) (heap_new w4 _)) (by simp [Value.oneCell'])
          (by omega) (by unfold maxLen; omega) (by omega) (by simp; omega) (w4.heap.size + 1) (by simp) ?_; intro g cap5 w5 hown5 hgrow hat hlt5; have hf5 := (grown_far hgrow hown4 (Nat.lt_succ_self gf) hlf4).trans hf4; obtain ⟨_, _, e2, _, _, _, _, _, _, m2, _⟩ := cells_of7 hf5)
      | (go_simp; go_at_call 54; refine (hC w.drew (h.keep rfl rfl (Nat.le_refl _))).mono ?_; rintro e w4 ⟨v, rfl, rfl, h4, fo4⟩; have hown4 := owns_fo (w := w.drew) (w' := w4) hown.drew fo4 (by omega); have hlf4 : gf < w4.heap.size := Nat.lt_of_lt_of_le hlf fo4.size; have hf4 := (fo4.block gf hlf (by omega)).trans hf; have y2 := (cells_of7 hf4).2.2.1))
    all_goals
      go_wp2
      go_end0
      have hfo : Fo b n w w5 := (((Fo.drew b n w).trans (fo4.mono hn)).trans (grown_fo hgrow hown4 (by omega) (by have := fo4.size; have hx : w.heap.size ≤ w4.heap.size := this; omega)))
      have hlp4 : gp < w4.heap.size := Nat.lt_of_lt_of_le hlp fo4.size
      have hp5 : w5.heap[gp]? = some (ptrObj b) := (grown_far hgrow hown4 (by omega) hlp4).trans ((fo4.block gp hlp (by omega)).trans hp)
      have h5 : Ps b ga l' w5 := h4.keep (grown_far hgrow hown4 (by omega) h4.there) (grown_far hgrow hown4 (by omega) h4.gl) (by have := hgrow.size; simp at this; omega)
      refine ⟨rfl, ⟨?_, .slice (some ⟨g, 0, none⟩) (acc.length + 1) cap5, ?_, ?_⟩, h5.other 2 _ (by omega) (by omega), hfo.fresh (by omega) 2 _⟩
      · exact (Below.heap_setCell _ _ _ _ (by show gp ≠ gf; omega)).trans hp5
      · exact (by simp [World.setCell, Array.getElem?_modify, hf5])
      · have := ownsRow_setCell_below hown5 (a := ⟨gf, 2, none⟩) (by show gf < gf + 1; omega) (.slice (some ⟨g, 0, none⟩) (acc.length + 1) cap5)
        simpa [slCells] using this
  · rw [hq] at hC
    replace hC : ∀ w', Ps b ga l w' → Calls Tryz.prog 54 #[.pointer (some ⟨b, 0, none⟩)] w' fun e w'' => e = .panicked (thrownP a er) ∧ Fo b w'.heap.size w' w'' := hC
    have hpost : ∀ w4, Fo b w.drew.heap.size w.drew w4 → PartPost b ga n (FnBox b gp gf nm on pl) acc w (.inr (a, er)) (.panicked (thrownP a er)) w4 := fun w4 fo4 => ⟨rfl, (Fo.drew b n w).trans (fo4.mono hn)⟩
    clear hq
    go_enter Tryz.func82, Tryz.ntmps82
    go_wp2_with fail
    go_region_law (go_simp; go_at_call 54; refine (hC w.drew (h.keep rfl rfl (Nat.le_refl _))).mono ?_; rintro e w4 ⟨rfl, fo4⟩; refine skip_way w4 ⟨rfl, hpost w4 fo4⟩ ?_)
    all_goals trivial
end Go.Proofs.YtifebbdjdllfpaaGreatDoor
