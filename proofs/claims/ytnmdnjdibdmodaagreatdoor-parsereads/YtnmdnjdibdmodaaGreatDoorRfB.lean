import Derived.Test.YtnmdnjdibdmodaaGreatDoorRfA
import Derived.Test.YtnmdnjdibdmodaaGreatDoorRepBase
import Derived.Test.YtnmdnjdibdmodaaGreatDoorPsB
/- How strongly an operator binds, as the document's function answers. -/
namespace Go.Proofs.YtnmdnjdibdmodaaGreatDoor
open Go.RowKit
set_option linter.unusedSimpArgs false
set_option linter.unusedVariables false

theorem bytes_no {t x : List UInt8} (h : ¬ t = x) : (t == x) = false := by simpa using h
set_option maxRecDepth 100000 in
set_option maxHeartbeats 8000000 in
theorem level_of_any (u : Lx.Tok) (w : World) : Calls Tryz.prog 105 #[tokV u.kind ⟨u.text.toArray⟩ u.num u.place] w fun r w' => r = .returned (.tuple #[.int .i64 ((Px.levelOf u).1 : Nat), .int .i64 ((Px.levelOf u).2 : Nat)]) ∧ Below w.heap.size w w' := by
  obtain ⟨k, t, m, p⟩ := u
  have hb : ∀ o, Below w.heap.size w (w.alloc o) := fun o => (Below.refl _ _).alloc (Nat.le_refl _) _
  by_cases hk : k = 4
  rotate_left
  · have hl : Px.levelOf ⟨k, t, m, p⟩ = (0, 0) := by unfold Px.levelOf; rw [if_neg hk]
    rw [hl]
    have hkI : ((k : Int) != 4) = true := by simp; omega
    clear hl hk
    go_enter Tryz.func105, Tryz.ntmps105
    go_wp2
    exact bodyPost_ret (v := .tuple #[.int .i64 0, .int .i64 0]) (by simp [results, Tryz.results105, go_sem]) rfl ⟨rfl, hb _⟩
  subst hk
  by_cases h0 : t = [124, 124]
  · subst h0
    go_enter Tryz.func105, Tryz.ntmps105
    go_wp2
    exact bodyPost_ret (v := .tuple #[.int .i64 1, .int .i64 1]) (by simp [results, Tryz.results105, go_sem]) rfl ⟨rfl, hb _⟩
  by_cases h1 : t = [38, 38]
  · subst h1
    go_enter Tryz.func105, Tryz.ntmps105
    go_wp2
    exact bodyPost_ret (v := .tuple #[.int .i64 2, .int .i64 2]) (by simp [results, Tryz.results105, go_sem]) rfl ⟨rfl, hb _⟩
  by_cases h2 : t = [61, 61]
  · subst h2
    go_enter Tryz.func105, Tryz.ntmps105
    go_wp2
    exact bodyPost_ret (v := .tuple #[.int .i64 3, .int .i64 3]) (by simp [results, Tryz.results105, go_sem]) rfl ⟨rfl, hb _⟩
  by_cases h3 : t = [33, 61]
  · subst h3
    go_enter Tryz.func105, Tryz.ntmps105
    go_wp2
    exact bodyPost_ret (v := .tuple #[.int .i64 3, .int .i64 4]) (by simp [results, Tryz.results105, go_sem]) rfl ⟨rfl, hb _⟩
  by_cases h4 : t = [60]
  · subst h4
    go_enter Tryz.func105, Tryz.ntmps105
    go_wp2
    exact bodyPost_ret (v := .tuple #[.int .i64 3, .int .i64 5]) (by simp [results, Tryz.results105, go_sem]) rfl ⟨rfl, hb _⟩
  by_cases h5 : t = [60, 61]
  · subst h5
    go_enter Tryz.func105, Tryz.ntmps105
    go_wp2
    exact bodyPost_ret (v := .tuple #[.int .i64 3, .int .i64 6]) (by simp [results, Tryz.results105, go_sem]) rfl ⟨rfl, hb _⟩
  by_cases h6 : t = [62]
  · subst h6
    go_enter Tryz.func105, Tryz.ntmps105
    go_wp2
    exact bodyPost_ret (v := .tuple #[.int .i64 3, .int .i64 7]) (by simp [results, Tryz.results105, go_sem]) rfl ⟨rfl, hb _⟩
  by_cases h7 : t = [62, 61]
  · subst h7
    go_enter Tryz.func105, Tryz.ntmps105
    go_wp2
    exact bodyPost_ret (v := .tuple #[.int .i64 3, .int .i64 8]) (by simp [results, Tryz.results105, go_sem]) rfl ⟨rfl, hb _⟩
  by_cases h8 : t = [43]
  · subst h8
    go_enter Tryz.func105, Tryz.ntmps105
    go_wp2
    exact bodyPost_ret (v := .tuple #[.int .i64 4, .int .i64 9]) (by simp [results, Tryz.results105, go_sem]) rfl ⟨rfl, hb _⟩
  by_cases h9 : t = [45]
  · subst h9
    go_enter Tryz.func105, Tryz.ntmps105
    go_wp2
    exact bodyPost_ret (v := .tuple #[.int .i64 4, .int .i64 10]) (by simp [results, Tryz.results105, go_sem]) rfl ⟨rfl, hb _⟩
  by_cases h10 : t = [42]
  · subst h10
    go_enter Tryz.func105, Tryz.ntmps105
    go_wp2
    exact bodyPost_ret (v := .tuple #[.int .i64 5, .int .i64 11]) (by simp [results, Tryz.results105, go_sem]) rfl ⟨rfl, hb _⟩
  by_cases h11 : t = [47]
  · subst h11
    go_enter Tryz.func105, Tryz.ntmps105
    go_wp2
    exact bodyPost_ret (v := .tuple #[.int .i64 5, .int .i64 12]) (by simp [results, Tryz.results105, go_sem]) rfl ⟨rfl, hb _⟩
  by_cases h12 : t = [37]
  · subst h12
    go_enter Tryz.func105, Tryz.ntmps105
    go_wp2
    exact bodyPost_ret (v := .tuple #[.int .i64 5, .int .i64 13]) (by simp [results, Tryz.results105, go_sem]) rfl ⟨rfl, hb _⟩
  have hl : Px.levelOf ⟨4, t, m, p⟩ = (0, 0) := by simp [Px.levelOf, h0, h1, h2, h3, h4, h5, h6, h7, h8, h9, h10, h11, h12]
  rw [hl]
  replace h0 := bytes_no h0
  replace h1 := bytes_no h1
  replace h2 := bytes_no h2
  replace h3 := bytes_no h3
  replace h4 := bytes_no h4
  replace h5 := bytes_no h5
  replace h6 := bytes_no h6
  replace h7 := bytes_no h7
  replace h8 := bytes_no h8
  replace h9 := bytes_no h9
  replace h10 := bytes_no h10
  replace h11 := bytes_no h11
  replace h12 := bytes_no h12
  clear hl
  go_enter Tryz.func105, Tryz.ntmps105
  go_wp2
  exact bodyPost_ret (v := .tuple #[.int .i64 0, .int .i64 0]) (by simp [results, Tryz.results105, go_sem]) rfl ⟨rfl, hb _⟩
end Go.Proofs.YtnmdnjdibdmodaaGreatDoor
/- Expressions of the document's reader: their cells, and the operators of one level. -/
namespace Go.Proofs.YtnmdnjdibdmodaaGreatDoor
open Go.RowKit
set_option linter.unusedSimpArgs false
set_option linter.unusedVariables false

@[reducible] def exV (k o n : Nat) (t : Lx.B) (sl : Value) (p : Nat) : Value := .agg #[.int .i64 k, .int .i64 o, .int .i64 n, .string ⟨t.toArray⟩, .int .i64 0, .string ⟨#[]⟩, sl, .int .i64 p]
@[reducible] def exL (k o n : Nat) (t : Lx.B) (sl : Value) (p : Nat) : List Value := [.int .i64 k, .int .i64 o, .int .i64 n, .string ⟨t.toArray⟩, .int .i64 0, .string ⟨#[]⟩, sl, .int .i64 p]
/-- What a part of an expression's reading answers: eight cells, whatever behind a fault; else the expression. -/
def EP (b ga ca : Nat) (ts : List Lx.Tok) (q : Px.P Px.Ex) (S : RSt) (w : World) (r : Ending) (w' : World) : Prop :=
  ∃ (k o n : Nat) (t : Lx.B) (ao : Option Addr) (an ac p : Nat), r = .returned (exV k o n t (.slice ao an ac) p) ∧ RS b ga ca ts (st (lift q S)) w' ∧ Fr b w w' ∧ ∀ e l', lift q S = .inl (e, l') → IsEx (From w.heap.size) w' e (exL k o n t (.slice ao an ac) p)
/-- Block g holds an expression's eight cells. -/
def E8 (g : Nat) (w : World) (k o n : Nat) (t : Lx.B) (sl : Value) (p : Nat) : Prop := w.heap[g]? = some (.cells #[.int .i64 k, .int .i64 o, .int .i64 n, .string ⟨t.toArray⟩, .int .i64 0, .string ⟨#[]⟩, sl, .int .i64 p] 51 (0, 0))
def E8any (g : Nat) (w : World) : Prop := ∃ x0 x1 x2 x3 x4 x5 x6 x7, w.heap[g]? = some (.cells #[x0, x1, x2, x3, x4, x5, x6, x7] 51 (0, 0))
theorem E8.any {g : Nat} {w : World} {k o n : Nat} {t : Lx.B} {sl : Value} {p : Nat} (h : E8 g w k o n t sl p) : E8any g w := ⟨_, _, _, _, _, _, _, _, h⟩
theorem E8any.lt {g : Nat} {w : World} (h : E8any g w) : g < w.heap.size := by
  obtain ⟨_, _, _, _, _, _, _, _, h⟩ := h
  exact (Array.getElem?_eq_some_iff.1 h).1
theorem E8any.fr {g b : Nat} {w w' : World} (h : E8any g w) (f : Fr b w w') (hn : g ≠ b) : E8any g w' := by
  have hl := h.lt
  obtain ⟨x0, x1, x2, x3, x4, x5, x6, x7, h⟩ := h
  exact ⟨x0, x1, x2, x3, x4, x5, x6, x7, (f.block g hl hn).trans h⟩
theorem E8.fr {g b : Nat} {w w' : World} {k o n : Nat} {t : Lx.B} {sl : Value} {p : Nat} (h : E8 g w k o n t sl p) (f : Fr b w w') (hn : g ≠ b) : E8 g w' k o n t sl p := (f.block g h.any.lt hn).trans h
theorem E8any.cells {g : Nat} {w : World} (h : E8any g w) : ∃ x0 x1 x2 x3 x4 x5 x6 x7, w.cell? ⟨g, 0, none⟩ = some x0 ∧ w.cell? ⟨g, 1, none⟩ = some x1 ∧ w.cell? ⟨g, 2, none⟩ = some x2 ∧ w.cell? ⟨g, 3, none⟩ = some x3 ∧ w.cell? ⟨g, 4, none⟩ = some x4 ∧ w.cell? ⟨g, 5, none⟩ = some x5 ∧ w.cell? ⟨g, 6, none⟩ = some x6 ∧ w.cell? ⟨g, 7, none⟩ = some x7 ∧
    w.frozen? ⟨g, 0, none⟩ = false ∧ w.frozen? ⟨g, 1, none⟩ = false ∧ w.frozen? ⟨g, 2, none⟩ = false ∧ w.frozen? ⟨g, 3, none⟩ = false ∧ w.frozen? ⟨g, 4, none⟩ = false ∧ w.frozen? ⟨g, 5, none⟩ = false ∧ w.frozen? ⟨g, 6, none⟩ = false ∧ w.frozen? ⟨g, 7, none⟩ = false := by
  obtain ⟨x0, x1, x2, x3, x4, x5, x6, x7, h⟩ := h
  refine ⟨x0, x1, x2, x3, x4, x5, x6, x7, ?_, ?_, ?_, ?_, ?_, ?_, ?_, ?_, ?_, ?_, ?_, ?_, ?_, ?_, ?_, ?_⟩
  all_goals first | simp [World.cell?, h] | simp [World.frozen?, h]
theorem E8.cells {g : Nat} {w : World} {k o n : Nat} {t : Lx.B} {sl : Value} {p : Nat} (h : E8 g w k o n t sl p) : w.cell? ⟨g, 0, none⟩ = some (.int .i64 k) ∧ w.cell? ⟨g, 1, none⟩ = some (.int .i64 o) ∧ w.cell? ⟨g, 2, none⟩ = some (.int .i64 n) ∧ w.cell? ⟨g, 3, none⟩ = some (.string ⟨t.toArray⟩) ∧ w.cell? ⟨g, 4, none⟩ = some (.int .i64 0) ∧ w.cell? ⟨g, 5, none⟩ = some (.string ⟨#[]⟩) ∧ w.cell? ⟨g, 6, none⟩ = some sl ∧ w.cell? ⟨g, 7, none⟩ = some (.int .i64 p) := by
  unfold E8 at h
  refine ⟨?_, ?_, ?_, ?_, ?_, ?_, ?_, ?_⟩
  all_goals simp [World.cell?, h]
abbrev w8r (w : World) (g : Nat) (x0 x1 x2 x3 x4 x5 x6 x7 : Value) : World := (((((((w.setCell ⟨g, 0, none⟩ x0).setCell ⟨g, 1, none⟩ x1).setCell ⟨g, 2, none⟩ x2).setCell ⟨g, 3, none⟩ x3).setCell ⟨g, 4, none⟩ x4).setCell ⟨g, 5, none⟩ x5).setCell ⟨g, 6, none⟩ x6).setCell ⟨g, 7, none⟩ x7
theorem RS.set8 {b ga ca : Nat} {ts : List Lx.Tok} {S : RSt} {w : World} (h : RS b ga ca ts S w) {g : Nat} (h1 : g ≠ b) (h2 : g ≠ ga) (x0 x1 x2 x3 x4 x5 x6 x7 : Value) : RS b ga ca ts S (w8r w g x0 x1 x2 x3 x4 x5 x6 x7) :=
  (((((((h.other 0 x0 h1 h2).other 1 x1 h1 h2).other 2 x2 h1 h2).other 3 x3 h1 h2).other 4 x4 h1 h2).other 5 x5 h1 h2).other 6 x6 h1 h2).other 7 x7 h1 h2
theorem Fr.set8 {b : Nat} {w w' : World} (h : Fr b w w') {g : Nat} (hg : w.heap.size ≤ g) (x0 x1 x2 x3 x4 x5 x6 x7 : Value) : Fr b w (w8r w' g x0 x1 x2 x3 x4 x5 x6 x7) :=
  (((((((h.fresh hg 0 x0).fresh hg 1 x1).fresh hg 2 x2).fresh hg 3 x3).fresh hg 4 x4).fresh hg 5 x5).fresh hg 6 x6).fresh hg 7 x7
theorem set8_blk {w : World} {g : Nat} (h : E8any g w) (x0 x1 x2 x3 x4 x5 x6 x7 : Value) : (w8r w g x0 x1 x2 x3 x4 x5 x6 x7).heap[g]? = some (.cells #[x0, x1, x2, x3, x4, x5, x6, x7] 51 (0, 0)) := by
  obtain ⟨y0, y1, y2, y3, y4, y5, y6, y7, h⟩ := h
  simp [w8r, World.setCell, Array.getElem?_modify, h]
theorem set8_other {w : World} {g k : Nat} (hk : k ≠ g) (x0 x1 x2 x3 x4 x5 x6 x7 : Value) : (w8r w g x0 x1 x2 x3 x4 x5 x6 x7).heap[k]? = w.heap[k]? := by
  simp only [w8r]
  rw [Below.heap_setCell _ _ _ _ hk, Below.heap_setCell _ _ _ _ hk, Below.heap_setCell _ _ _ _ hk, Below.heap_setCell _ _ _ _ hk, Below.heap_setCell _ _ _ _ hk, Below.heap_setCell _ _ _ _ hk, Below.heap_setCell _ _ _ _ hk, Below.heap_setCell _ _ _ _ hk]
theorem Since.set8 {w : World} {g B : Nat} (hg : g < B) (x0 x1 x2 x3 x4 x5 x6 x7 : Value) : Since (From B) w (w8r w g x0 x1 x2 x3 x4 x5 x6 x7) :=
  ⟨by simp [w8r, World.setCell], fun k h1 _ => set8_other (by have : B ≤ k := h1; omega) _ _ _ _ _ _ _ _⟩
theorem E8any.new (w : World) : E8any w.heap.size (w.alloc (.cells #[.int .i64 0, .int .i64 0, .int .i64 0, .string ⟨#[]⟩, .int .i64 0, .string ⟨#[]⟩, .slice none 0 0, .int .i64 0] 51)) := ⟨_, _, _, _, _, _, _, _, by show (w.heap.push _)[w.heap.size]? = _; rw [Array.getElem?_push, if_pos rfl]⟩
end Go.Proofs.YtnmdnjdibdmodaaGreatDoor
/- The document's expr and level. -/
namespace Go.Proofs.YtnmdnjdibdmodaaGreatDoor
open Go.RowKit
set_option linter.unusedSimpArgs false
set_option linter.unusedVariables false

def deepP (d : Nat) (q : Px.P Px.Ex) : Px.P Px.Ex := fun l => if 24 < d then Px.fail 32 l else q l
theorem lift_deep (d : Nat) (q : Px.P Px.Ex) (S : RSt) : lift (deepP d q) S = lift q (deepS d S) := by
  unfold deepP deepS
  rcases S with l | f
  · simp only [lift]
    by_cases h : 24 < d
    · rw [if_pos h, if_pos h]; rfl
    · rw [if_neg h, if_neg h]
  · by_cases h : 24 < d
    · rw [if_pos h]; rfl
    · rw [if_neg h]; rfl

set_option maxRecDepth 100000 in
set_option maxHeartbeats 8000000 in
theorem expr_step (b ga ca : Nat) (ts : List Lx.Tok) (d : Nat) (q : Px.P Px.Ex) (hlev : ∀ (S : RSt) (w : World), RS b ga ca ts S w → Calls Tryz.prog 92 #[.pointer (some ⟨b, 0, none⟩), .int .i64 1, .int .i64 d] w fun r w' => EP b ga ca ts q S w r w') (S : RSt) (w : World) (h : RS b ga ca ts S w) :
    Calls Tryz.prog 79 #[.pointer (some ⟨b, 0, none⟩), .int .i64 d] w fun r w' => EP b ga ca ts (deepP d q) S w r w' := by
  obtain ⟨N0, p0, er0, hr, hcase⟩ := h.at
  have hbl := hr.there
  have hgl := hr.gl
  have hb0 : Below w.heap.size w (w.alloc (.cells #[.int .i64 0, .int .i64 0, .int .i64 0, .string ⟨#[]⟩, .int .i64 0, .string ⟨#[]⟩, .slice none 0 0, .int .i64 0] 51)) := (Below.refl _ _).alloc (Nat.le_refl _) _
  have hs0 := E8any.new w
  have hR0 := h.below hb0
  have hr0 := hr.same hb0
  have hf0 : Fr b w (w.alloc (.cells #[.int .i64 0, .int .i64 0, .int .i64 0, .string ⟨#[]⟩, .int .i64 0, .string ⟨#[]⟩, .slice none 0 0, .int .i64 0] 51)) := Fr.of_below hb0
  have hg2 : w.heap.size ≠ b := by omega
  have hg2a : w.heap.size ≠ ga := by omega
  go_enter Tryz.func79, Tryz.ntmps79
  go_upto_region 1 with fail
  generalize w.alloc (.cells #[.int .i64 0, .int .i64 0, .int .i64 0, .string ⟨#[]⟩, .int .i64 0, .string ⟨#[]⟩, .slice none 0 0, .int .i64 0] 51) = w0 at *
  obtain ⟨c0, c1, c2, c3, f1, f2, f3⟩ := hr0.cells
  have hb3 := hr0.there
  clear hb0 h hr hr0
  rcases hcase with ⟨rfl, l, rfl⟩ | ⟨h0, rfl⟩
  · go_wp2_with fail
    refine (deep_any b ga ca ts (.inl l) d w0 hR0).mono ?_
    rintro e w1 ⟨rfl, hR1, hg1⟩
    have hf1 : Fr b w w1 := hf0.trans hg1
    have hs1 := hs0.fr hg1 hg2
    clear c0 c1 c2 c3 f1 f2 f3
    go_wp2_with fail
    refine (hlev _ w1 hR1).mono ?_
    rintro e w2 ⟨k, o, n, t, ao, an, ac, p, rfl, hR2, hgg, hval⟩
    have hf2 : Fr b w w2 := hf1.trans hgg
    have hs2 := hs1.fr hgg hg2
    obtain ⟨x0, x1, x2, x3, x4, x5, x6, x7, e0, e1, e2, e3, e4, e5, e6, e7, k0, k1, k2, k3, k4, k5, k6, k7⟩ := hs2.cells
    have hgs := hs2.lt
    have hl1 : w.heap.size < w1.heap.size := hs1.lt
    go_wp2
    exact bodyPost_ret (v := exV k o n t (.slice ao an ac) p) (by simp [results, Tryz.results79, go_sem, e0, e1, e2, e3, e4, e5, e6, e7]) rfl
      ⟨k, o, n, t, ao, an, ac, p, rfl, by rw [lift_deep]; exact hR2.set8 hg2 hg2a _ _ _ _ _ _ _ _, hf2.set8 (Nat.le_refl _) _ _ _ _ _ _ _ _, fun e l' hu => by
        rw [lift_deep] at hu
        exact (((hval e l' hu).since (Since.set8 hl1 _ _ _ _ _ _ _ _)).base (from_mono (by omega)))⟩
  · have her : ((er0 : Int) != 0) = true := by simp; omega
    obtain ⟨x0, x1, x2, x3, x4, x5, x6, x7, e0, e1, e2, e3, e4, e5, e6, e7, k0, k1, k2, k3, k4, k5, k6, k7⟩ := hs0.cells
    have hgs := hs0.lt
    go_wp2
    exact bodyPost_ret (v := exV 0 0 0 [] (.slice none 0 0) 0) (by simp [results, Tryz.results79, go_sem, e0, e1, e2, e3, e4, e5, e6, e7]) rfl
      ⟨0, 0, 0, [], none, 0, 0, 0, rfl, hR0.set8 hg2 hg2a _ _ _ _ _ _ _ _, hf0.set8 (Nat.le_refl _) _ _ _ _ _ _ _ _, fun e l' hu => by simp [lift] at hu⟩
end Go.Proofs.YtnmdnjdibdmodaaGreatDoor
/- What lies in memory lies below its end. -/
namespace Go.Proofs.YtnmdnjdibdmodaaGreatDoor
open Go.RowKit
set_option linter.unusedVariables false

theorem SlRow.low {B B' : Nat → Prop} {w : World} {sz : Nat} {v : Value} {n : Nat} {row : List Value} (hb : ∀ k, B k → k < w.heap.size → B' k) (h : SlRow B w sz v n row) : SlRow B' w sz v n row := by
  obtain ⟨h1, h2⟩ := h
  refine ⟨h1, ?_⟩
  rcases h2 with h2 | ⟨g, o, cap, hv, hc, hm, hB, hg, r⟩
  · exact Or.inl h2
  · exact Or.inr ⟨g, o, cap, hv, hc, hm, hb _ hB hg, hg, r⟩
mutual
theorem IsEx.low {B B' : Nat → Prop} {w : World} (hb : ∀ k, B k → k < w.heap.size → B' k) : ∀ {e : Px.Ex} {cs : List Value}, IsEx B w e cs → IsEx B' w e cs
  | .mk k o n t args p, cs, h => by
    rw [IsEx] at h ⊢
    obtain ⟨sl, row, hc, hr, ha⟩ := h
    exact ⟨sl, row, hc, hr.low hb, AllEx.low hb ha⟩
theorem AllEx.low {B B' : Nat → Prop} {w : World} (hb : ∀ k, B k → k < w.heap.size → B' k) : ∀ {l : List Px.Ex} {cs : List Value}, AllEx B w l cs → AllEx B' w l cs
  | [], cs, h => by rw [AllEx] at h ⊢; exact h
  | e :: r, cs, h => by
    rw [AllEx] at h ⊢
    obtain ⟨c1, c2, hc, h1, h2⟩ := h
    exact ⟨c1, c2, hc, IsEx.low hb h1, AllEx.low hb h2⟩
end
/-- Two expressions side by side in a new block, and what stands over them. -/
theorem bin_ex {P : Nat → Prop} {w : World} {gs op p : Nat} {x y : Px.Ex} {cx cy : List Value} (hP : P gs) (hg : gs < w.heap.size) (hc : ∀ (j : Nat) (u : Value), (cx ++ cy)[j]? = some u → w.cell? ⟨gs, j, none⟩ = some u) (hx : IsEx P w x cx) (hy : IsEx P w y cy) :
    IsEx P w (.mk 15 op 0 [] [x, y] p) (exL 15 op 0 [] (.slice (some ⟨gs, 0, none⟩) 2 2) p) := by
  have lx := hx.len
  have ly := hy.len
  rw [IsEx]
  refine ⟨.slice (some ⟨gs, 0, none⟩) 2 2, cx ++ cy, rfl, ⟨by simp; omega, Or.inr ⟨gs, 0, 2, rfl, Nat.le_refl _, by unfold maxLen; omega, hP, hg, fun j u hj => by rw [Nat.zero_add]; exact hc j u hj⟩⟩, ?_⟩
  rw [AllEx]
  refine ⟨cx, cy, rfl, hx, ?_⟩
  rw [AllEx]
  exact ⟨cy, [], by simp, hy, by rw [AllEx]⟩
end Go.Proofs.YtnmdnjdibdmodaaGreatDoor
/- A level's round in memory. -/
namespace Go.Proofs.YtnmdnjdibdmodaaGreatDoor
open Go.RowKit
set_option linter.unusedSimpArgs false
set_option linter.unusedVariables false

abbrev zeroEx : Obj := .cells #[.int .i64 0, .int .i64 0, .int .i64 0, .string ⟨#[]⟩, .int .i64 0, .string ⟨#[]⟩, .slice none 0 0, .int .i64 0] 51
theorem E8.new (w : World) (k o n : Nat) (t : Lx.B) (sl : Value) (p : Nat) : E8 w.heap.size (w.alloc (.cells #[.int .i64 k, .int .i64 o, .int .i64 n, .string ⟨t.toArray⟩, .int .i64 0, .string ⟨#[]⟩, sl, .int .i64 p] 51)) k o n t sl p := by
  show (w.heap.push _)[w.heap.size]? = _
  rw [Array.getElem?_push, if_pos rfl]
set_option maxHeartbeats 2000000 in
theorem cell_at {w : World} {g j : Nat} {a : Array Value} {T : TypeId} {v : Value} (h : w.heap[g]? = some (.cells a T (0, 0))) (hv : a[j]? = some v) : w.cell? ⟨g, j, none⟩ = some v := by
  simp [World.cell?, h, hv]
set_option maxHeartbeats 2000000 in
/-- A round's end: two expressions side by side in a new block, and the box set anew. -/
theorem level_mem {b ga ca : Nat} {ts : List Lx.Tok} {P : Nat → Prop} {w wD : World} {g7 k o nn p k2 o2 n2 p2 op pl : Nat} {t t2 : Lx.B} {ao ao2 : Option Addr} {an ac an2 ac2 : Nat} {S : RSt} (hg7 : g7 ≠ b) (hg7a : g7 ≠ ga) (hw7 : w.heap.size < g7) (hP : P (wD.heap.size + 1)) (hP7 : ¬ P g7)
    (hR : RS b ga ca ts S wD) (hE : E8 g7 wD k o nn t (.slice ao an ac) p) (hs : E8any w.heap.size wD) (hf : Fr b w wD) {wF : World}
    (hwF : wF = ((w8r wD g7 (.int .i64 15) (.int .i64 op) (.int .i64 0) (.string ⟨#[]⟩) (.int .i64 0) (.string ⟨#[]⟩) (.slice (some ⟨wD.heap.size + 1, 0, none⟩) 2 2) (.int .i64 pl)).alloc (.cells #[.int .i64 k2, .int .i64 o2, .int .i64 n2, .string ⟨t2.toArray⟩, .int .i64 0, .string ⟨#[]⟩, .slice ao2 an2 ac2, .int .i64 p2] 51)).alloc (.cells #[.int .i64 k, .int .i64 o, .int .i64 nn, .string ⟨t.toArray⟩, .int .i64 0, .string ⟨#[]⟩, .slice ao an ac, .int .i64 p, .int .i64 k2, .int .i64 o2, .int .i64 n2, .string ⟨t2.toArray⟩, .int .i64 0, .string ⟨#[]⟩, .slice ao2 an2 ac2, .int .i64 p2] 51)) :
    RS b ga ca ts S wF ∧ E8 g7 wF 15 op 0 [] (.slice (some ⟨wD.heap.size + 1, 0, none⟩) 2 2) pl ∧ E8any w.heap.size wF ∧ Fr b w wF ∧ ∀ x y, IsEx P wD x (exL k o nn t (.slice ao an ac) p) → IsEx P wD y (exL k2 o2 n2 t2 (.slice ao2 an2 ac2) p2) → IsEx P wF (.mk 15 op 0 [] [x, y] pl) (exL 15 op 0 [] (.slice (some ⟨wD.heap.size + 1, 0, none⟩) 2 2) pl) := by
  have h7 := hE.any.lt
  have hsl := hs.lt
  have hsz : (w8r wD g7 (.int .i64 15) (.int .i64 op) (.int .i64 0) (.string ⟨#[]⟩) (.int .i64 0) (.string ⟨#[]⟩) (.slice (some ⟨wD.heap.size + 1, 0, none⟩) 2 2) (.int .i64 pl)).heap.size = wD.heap.size := by simp [w8r, World.setCell]
  have hR8 := hR.set8 hg7 hg7a (.int .i64 15) (.int .i64 op) (.int .i64 0) (.string ⟨#[]⟩) (.int .i64 0) (.string ⟨#[]⟩) (.slice (some ⟨wD.heap.size + 1, 0, none⟩) 2 2) (.int .i64 pl)
  have hE8 := set8_blk hE.any (.int .i64 15) (.int .i64 op) (.int .i64 0) (.string ⟨#[]⟩) (.int .i64 0) (.string ⟨#[]⟩) (.slice (some ⟨wD.heap.size + 1, 0, none⟩) 2 2) (.int .i64 pl)
  have hf8 := hf.set8 (Nat.le_of_lt hw7) (.int .i64 15) (.int .i64 op) (.int .i64 0) (.string ⟨#[]⟩) (.int .i64 0) (.string ⟨#[]⟩) (.slice (some ⟨wD.heap.size + 1, 0, none⟩) 2 2) (.int .i64 pl)
  have hoth : ∀ kk, kk ≠ g7 → (w8r wD g7 (.int .i64 15) (.int .i64 op) (.int .i64 0) (.string ⟨#[]⟩) (.int .i64 0) (.string ⟨#[]⟩) (.slice (some ⟨wD.heap.size + 1, 0, none⟩) 2 2) (.int .i64 pl)).heap[kk]? = wD.heap[kk]? := fun kk h => set8_other h _ _ _ _ _ _ _ _
  generalize w8r wD g7 (.int .i64 15) (.int .i64 op) (.int .i64 0) (.string ⟨#[]⟩) (.int .i64 0) (.string ⟨#[]⟩) (.slice (some ⟨wD.heap.size + 1, 0, none⟩) 2 2) (.int .i64 pl) = wX at *
  have hb : Below wX.heap.size wX wF := by
    rw [hwF]
    exact ((Below.refl _ _).alloc (Nat.le_refl _) _).alloc (by simp) _
  have hnew : wF.heap[wD.heap.size + 1]? = some (.cells #[.int .i64 k, .int .i64 o, .int .i64 nn, .string ⟨t.toArray⟩, .int .i64 0, .string ⟨#[]⟩, .slice ao an ac, .int .i64 p, .int .i64 k2, .int .i64 o2, .int .i64 n2, .string ⟨t2.toArray⟩, .int .i64 0, .string ⟨#[]⟩, .slice ao2 an2 ac2, .int .i64 p2] 51 (0, 0)) := by
    rw [hwF]
    show (Array.push _ _)[wD.heap.size + 1]? = _
    rw [Array.getElem?_push, if_pos (by simp [hsz])]
  clear hwF
  have hlF : wD.heap.size + 1 < wF.heap.size := (Array.getElem?_eq_some_iff.1 hnew).1
  have hsince : Since P wD wF := ⟨by omega, fun kk h1 h2 => (hb.block kk (by omega)).trans (hoth kk (fun e => hP7 (by rw [← e]; exact h1)))⟩
  refine ⟨hR8.below hb, (hb.block g7 (by omega)).trans hE8, ?_, hf8.trans (Fr.of_below hb), fun x y hx hy => ?_⟩
  · obtain ⟨x0, x1, x2, x3, x4, x5, x6, x7, hx⟩ := hs
    exact ⟨x0, x1, x2, x3, x4, x5, x6, x7, (hb.block _ (by omega)).trans ((hoth _ (by omega)).trans hx)⟩
  · exact bin_ex hP hlF (fun j v hj => cell_at hnew (by rw [← Array.getElem?_toList]; exact hj)) (hx.since hsince) (hy.since hsince)
end Go.Proofs.YtnmdnjdibdmodaaGreatDoor
/- The document's level, over a contract of the next one. -/
namespace Go.Proofs.YtnmdnjdibdmodaaGreatDoor
open Go.RowKit
set_option linter.unusedSimpArgs false
set_option linter.unusedVariables false

/-- Where the loop over operators of a level is. -/
def LvlAt (ts : List Lx.Tok) (n : Nat) (q : Px.P Px.Ex) (P : Nat → Prop) (res : Px.R Px.Ex) (f c : Nat) (S : RSt) (w : World) (cs : List Value) : Prop :=
  (∃ acc l, S = .inl l ∧ l.length < f ∧ c + l.length ≤ 4096 ∧ IsEx P w acc cs ∧ res = Px.chain n q f c acc l) ∨ ∃ fl, S = .inr fl ∧ res = .inr fl

set_option maxRecDepth 100000 in
set_option maxHeartbeats 16000000 in
theorem level_step (b ga ca : Nat) (ts : List Lx.Tok) (n d : Nat) (hn1 : 1 ≤ n) (hn5 : n ≤ 5) (q : Px.P Px.Ex) (hq : Px.Ok q) (hsub : ∀ (S : RSt) (w : World), RS b ga ca ts S w → Calls Tryz.prog 92 #[.pointer (some ⟨b, 0, none⟩), .int .i64 ((n : Int) + 1), .int .i64 d] w fun r w' => EP b ga ca ts q S w r w') (S : RSt) (w : World) (h : RS b ga ca ts S w) :
    Calls Tryz.prog 92 #[.pointer (some ⟨b, 0, none⟩), .int .i64 n, .int .i64 d] w fun r w' => EP b ga ca ts (Px.level n q) S w r w' := by
  obtain ⟨N0, p0, er0, hr, hcase⟩ := h.at
  have hbl := hr.there
  have hgl := hr.gl
  have hfew := hr.few
  have hb0 : Below w.heap.size w (w.alloc zeroEx) := (Below.refl _ _).alloc (Nat.le_refl _) _
  have hs0 := E8any.new w
  have hR0 := h.below hb0
  have hr0 := hr.same hb0
  have hf0 : Fr b w (w.alloc zeroEx) := Fr.of_below hb0
  have hg2 : w.heap.size ≠ b := by omega
  have hg2a : w.heap.size ≠ ga := by omega
  have hn5I : ¬ 5 < (n : Int) := by omega
  have hsz0 : w.heap.size < (w.alloc zeroEx).heap.size := by simp
  go_enter Tryz.func92, Tryz.ntmps92
  go_upto_region 1 with fail
  generalize w.alloc zeroEx = w0 at *
  obtain ⟨c0, c1, c2, c3, f1, f2, f3⟩ := hr0.cells
  have hb3 := hr0.there
  clear hb0 hr hr0
  rcases hcase with ⟨rfl, l, rfl⟩ | ⟨h0, rfl⟩
  · have hg : Px.Good l := h.1
    obtain ⟨Nl, hNl, _⟩ := h.2
    have hll : l.length ≤ 4096 := by rw [← hNl]; simp; omega
    clear h
    go_wp2_with fail
    refine (hsub _ w0 hR0).mono ?_
    rintro e w1 ⟨k, o, nn, t, ao, an, ac, p, rfl, hR1, hgg, hval⟩
    have hf1 : Fr b w w1 := hf0.trans hgg
    have hs1 := hs0.fr hgg hg2
    have hsz1 : w0.heap.size ≤ w1.heap.size := hgg.size
    clear c0 c1 c2 c3 f1 f2 f3 hR0 hf0 hs0
    go_wp2_with fail
    have hE7 := E8.new w1 k o nn t (.slice ao an ac) p
    have hb17 : Below w1.heap.size w1 (w1.alloc (.cells #[.int .i64 k, .int .i64 o, .int .i64 nn, .string ⟨t.toArray⟩, .int .i64 0, .string ⟨#[]⟩, .slice ao an ac, .int .i64 p] 51)) := (Below.refl _ _).alloc (Nat.le_refl _) _
    have hR2 := hR1.below hb17
    have hf2 := hf1.trans (Fr.of_below (b := b) hb17)
    have hs2 := hs1.fr (Fr.of_below (b := b) hb17) hg2
    have hP : ∀ kk, From w0.heap.size kk → kk < w1.heap.size → (fun g => w0.heap.size ≤ g ∧ g ≠ w1.heap.size) kk := fun kk h1 h2 => ⟨h1, by omega⟩
    have hat : Aside (LvlAt ts n q (fun g => w0.heap.size ≤ g ∧ g ≠ w1.heap.size) (Px.level n q l) ((match q l with | .inl (_, l1) => l1.length | .inr _ => 0) + 1) 0 (st (lift q (.inl l))) (w1.alloc (.cells #[.int .i64 k, .int .i64 o, .int .i64 nn, .string ⟨t.toArray⟩, .int .i64 0, .string ⟨#[]⟩, .slice ao an ac, .int .i64 p] 51)) (exL k o nn t (.slice ao an ac) p)) := by
      show LvlAt _ _ _ _ _ _ _ _ _ _
      unfold LvlAt
      simp only [lift]
      rcases hql : q l with ⟨x, l1⟩ | fl
      · have ha := (hq l hg).ok x l1 hql
        refine Or.inl ⟨x, l1, rfl, by simp, by have := ha.less; omega, ?_, by simp only [Px.level, hql, Px.bind]⟩
        exact ((hval x l1 (by simp only [lift, hql])).low hP).since (Since.of_below hb17)
      · exact Or.inr ⟨fl, rfl, by simp only [Px.level, hql, Px.bind]⟩
    obtain ⟨res, hres⟩ : ∃ res, Aside (res = Px.level n q l) := ⟨_, rfl⟩
    rw [← hres.out] at hat
    have hg7 : w1.heap.size ≠ b := by omega
    have hg7a : w1.heap.size ≠ ga := by have := hs1.lt; omega
    have hg67 : w.heap.size ≠ w1.heap.size := by omega
    generalize (w1.alloc (.cells #[.int .i64 k, .int .i64 o, .int .i64 nn, .string ⟨t.toArray⟩, .int .i64 0, .string ⟨#[]⟩, .slice ao an ac, .int .i64 p] 51)) = w2 at *
    generalize ((match q l with | .inl (_, l1) => l1.length | .inr _ => 0) + 1) = F at *
    generalize st (lift q (.inl l)) = S2 at *
    clear hval hb17 hR1 hf1 hs1 hP hgg
    generalize w1.heap.size = g7 at *
    go_wp2_with fail
    go_loopg [8] F (fun g cnt wr => ∃ (c : Nat) (S' : RSt) (k o nn : Nat) (t : Lx.B) (ao : Option Addr) (an ac p : Nat), cnt = .int .i64 c ∧ c ≤ 4096 ∧ RS b ga ca ts S' wr ∧ E8 g7 wr k o nn t (.slice ao an ac) p ∧ E8any w.heap.size wr ∧ Fr b w wr ∧ Aside (LvlAt ts n q (fun x => w0.heap.size ≤ x ∧ x ≠ g7) res g c S' wr (exL k o nn t (.slice ao an ac) p)))
    case atStart => exact ⟨0, S2, k, o, nn, t, ao, an, ac, p, rfl, by omega, hR2, hE7, hs2, hf2, hat⟩
    case round =>
      clear hat hR2 hE7 hs2 hf2
      obtain ⟨c, S', k, o, nn, t, ao, an, ac, p, rfl, hc, hR, hE, hs6, hf, hat⟩ := hrel
      have hfin : Aside (∀ (w9 : World) (k o nn : Nat) (t : Lx.B) (ao : Option Addr) (an ac p : Nat), RS b ga ca ts (st res) w9 → Fr b w w9 → (∀ e l', res = .inl (e, l') → IsEx (From w.heap.size) w9 e (exL k o nn t (.slice ao an ac) p)) → EP b ga ca ts (Px.level n q) (.inl l) w (.returned (exV k o nn t (.slice ao an ac) p)) w9) := by
        intro w9 k o nn t ao an ac p h1 h2 h3
        have e : lift (Px.level n q) (.inl l) = res := hres.out.symm
        exact ⟨k, o, nn, t, ao, an, ac, p, rfl, by rw [e]; exact h1, h2, by rw [e]; exact h3⟩
      obtain ⟨N, pp, er, hr, hcase⟩ := hR.at
      obtain ⟨c0, c1, c2, c3, f1, f2, f3⟩ := hr.cells
      have hbt := hr.there
      rcases hcase with ⟨rfl, l', rfl⟩ | ⟨h0, rfl⟩
      · obtain ⟨acc, hlf, hcl, hacc, hch⟩ : ∃ acc, l'.length < gk ∧ c + l'.length ≤ 4096 ∧ IsEx (fun x => w0.heap.size ≤ x ∧ x ≠ g7) wr acc (exL k o nn t (.slice ao an ac) p) ∧ res = Px.chain n q gk c acc l' := by
          rcases hat.out with ⟨acc, l2, h1, h2, h3, h4, h5⟩ | ⟨fl, h1, _⟩
          · simp at h1; subst h1; exact ⟨acc, h2, h3, h4, h5⟩
          · simp at h1
        have hgd := hR.1
        obtain ⟨N', hN', hr'⟩ := hR.2
        match l', hgd, hN', hlf, hcl, hch, hR with
        | u :: rr, hgd, hN', hlf, hcl, hch, hR =>
          obtain ⟨hu, hN2, hlt⟩ := drop_head hN'
          clear c0 c1 c2 c3 f1 f2 f3 hr
          obtain ⟨c0, c1, c2, c3, f1, f2, f3⟩ := hr'.cells
          obtain ⟨x0, x1, x2, x3⟩ := hr'.row N' u hu
          have hltI : (N' : Int) < (ts.length : Int) := by omega
          have hgl' := hr'.gl
          have hl7 := hE.any.lt
          have hl6 := hs6.lt
          go_upto_region 9 with fail
          go_region
          have hbA : Below wr.heap.size wr ((wr.alloc (.cells #[.int .i64 u.kind, .string ⟨u.text.toArray⟩, .int .i64 u.num, .int .i64 u.place] 39)).drew) := ((Below.refl _ _).alloc (Nat.le_refl _) _).trans ⟨rfl, rfl, rfl, Nat.le_refl _, fun _ _ => rfl⟩
          have d0 : ((wr.alloc (.cells #[.int .i64 u.kind, .string ⟨u.text.toArray⟩, .int .i64 u.num, .int .i64 u.place] 39)).drew).cell? ⟨wr.heap.size, 0, none⟩ = some (.int .i64 u.kind) := by simp
          have d1 : ((wr.alloc (.cells #[.int .i64 u.kind, .string ⟨u.text.toArray⟩, .int .i64 u.num, .int .i64 u.place] 39)).drew).cell? ⟨wr.heap.size, 1, none⟩ = some (.string ⟨u.text.toArray⟩) := by simp
          have d2 : ((wr.alloc (.cells #[.int .i64 u.kind, .string ⟨u.text.toArray⟩, .int .i64 u.num, .int .i64 u.place] 39)).drew).cell? ⟨wr.heap.size, 2, none⟩ = some (.int .i64 u.num) := by simp
          have d3 : ((wr.alloc (.cells #[.int .i64 u.kind, .string ⟨u.text.toArray⟩, .int .i64 u.num, .int .i64 u.place] 39)).drew).cell? ⟨wr.heap.size, 3, none⟩ = some (.int .i64 u.place) := by simp
          have d4 : wr.heap.size < ((wr.alloc (.cells #[.int .i64 u.kind, .string ⟨u.text.toArray⟩, .int .i64 u.num, .int .i64 u.place] 39)).drew).heap.size := by simp
          have hRA := hR.below hbA
          have hEA : E8 g7 ((wr.alloc (.cells #[.int .i64 u.kind, .string ⟨u.text.toArray⟩, .int .i64 u.num, .int .i64 u.place] 39)).drew) k o nn t (.slice ao an ac) p := (hbA.block g7 hl7).trans hE
          have hsA := hs6.fr (Fr.of_below (b := b) hbA) hg2
          have hfA := hf.trans (Fr.of_below (b := b) hbA)
          have haA := hacc.since (Since.of_below hbA)
          have hrA := hr'.same hbA
          have hgTb : wr.heap.size ≠ b := by omega
          have hgT7 : wr.heap.size ≠ g7 := by omega
          clear x0 x1 x2 x3 c0 c1 c2 c3 f1 f2 f3 hbA hR hE hs6 hf hacc hr'
          generalize ((wr.alloc (.cells #[.int .i64 u.kind, .string ⟨u.text.toArray⟩, .int .i64 u.num, .int .i64 u.place] 39)).drew) = wA at *
          generalize wr.heap.size = gT at *
          go_wp2_with fail
          refine (level_of_any u wA).mono ?_
          rintro e wB ⟨rfl, hbB⟩
          have hRB := hRA.below hbB
          have hEB : E8 g7 wB k o nn t (.slice ao an ac) p := (hbB.block g7 hEA.any.lt).trans hEA
          have hsB := hsA.fr (Fr.of_below (b := b) hbB) hg2
          have hfB := hfA.trans (Fr.of_below (b := b) hbB)
          have haB := haA.since (Since.of_below hbB)
          have hrB := hrA.same hbB
          have dB3 := (hbB.cell (p := ⟨gT, 3, none⟩) d4).trans d3
          have dB4 : gT < wB.heap.size := by have := hbB.size; omega
          clear d0 d1 d2 d3 d4 hbB hRA hEA hsA hfA haA hrA
          obtain ⟨F', rfl⟩ : ∃ F', gk = F' + 1 := ⟨gk - 1, by omega⟩
          have hchain : Aside (res = if (Px.levelOf u).1 = n then (if n = 3 ∧ 0 < c then Px.fail 31 (u :: rr) else Px.bind (q rr) fun x l1 => Px.chain n q F' (c + 1) (.mk 15 (Px.levelOf u).2 0 [] [acc, x] u.place) l1) else .inl (acc, u :: rr)) := by
            show _ = _
            rw [hch]; rfl
          clear hch
          have hup : ∀ B g', g' < w0.heap.size → (fun x => w0.heap.size ≤ x ∧ x ≠ g7) B → B ≠ g' := fun B g' h1 h2 => by have := h2.1; omega
          by_cases hlv : (Px.levelOf u).1 = n
          · have hlvI : (((Px.levelOf u).1 : Int) != (n : Int)) = false := by simp; omega
            by_cases h31 : n = 3 ∧ 0 < c
            · obtain ⟨rfl, hc0⟩ := h31
              have hcI : (0 : Int) < (c : Int) := by omega
              have hrr : res = Px.fail 31 (u :: rr) := by rw [hchain.out, if_pos hlv, if_pos ⟨rfl, hc0⟩]
              clear hchain
              go_wp2_with fail
              refine (fail_any b ga ca ts (.inl (u :: rr)) 31 wB (by decide) hRB).mono ?_
              rintro e wC ⟨rfl, hRC, hgC⟩
              have hEC := hEB.fr hgC hg7
              have hsC := hsB.fr hgC hg2
              have hfC := hfB.trans hgC
              obtain ⟨y0, y1, y2, y3, y4, y5, y6, y7⟩ := hEC.cells
              have hl7 := hEC.any.lt
              obtain ⟨x0, x1, x2, x3, x4, x5, x6, x7, e0, e1, e2, e3, e4, e5, e6, e7, k0, k1, k2, k3, k4, k5, k6, k7⟩ := hsC.cells
              have hl6 := hsC.lt
              have hend := hfin.out _ k o nn t ao an ac p ((by rw [hrr]; exact hRC : RS b ga ca ts (st res) wC).set8 hg2 hg2a (.int .i64 k) (.int .i64 o) (.int .i64 nn) (.string ⟨t.toArray⟩) (.int .i64 0) (.string ⟨#[]⟩) (.slice ao an ac) (.int .i64 p)) (hfC.set8 (Nat.le_refl w.heap.size) (.int .i64 k) (.int .i64 o) (.int .i64 nn) (.string ⟨t.toArray⟩) (.int .i64 0) (.string ⟨#[]⟩) (.slice ao an ac) (.int .i64 p)) (fun e l' he => by
                          rw [hrr] at he
                          simp [Px.fail] at he)
              go_wp2
              exact bodyPost_ret (v := exV k o nn t (.slice ao an ac) p) (by simp [results, Tryz.results92, go_sem, e0, e1, e2, e3, e4, e5, e6, e7]) rfl hend
            · have hu4 : u.kind ≠ 5 := by
                intro h5
                have : Px.levelOf u = (0, 0) := by unfold Px.levelOf; rw [if_neg (by omega)]
                rw [this] at hlv; simp at hlv; omega
              have hg2r : Px.Good rr := hgd.tail hu4
              have hlt2 : N' + 1 < ts.length := by
                rcases Nat.lt_or_ge (N' + 1) ts.length with h | h
                · exact h
                · rw [List.drop_eq_nil_of_le h] at hN2; subst hN2; exact absurd hg2r (by simp [Px.Good])
              have hrr : Aside (res = Px.bind (q rr) fun x l1 => Px.chain n q F' (c + 1) (.mk 15 (Px.levelOf u).2 0 [] [acc, x] u.place) l1) := by
                show _ = _
                rw [hchain.out, if_pos hlv, if_neg h31]
              have hnc : (n : Int) = 3 → ¬ (0 : Int) < (c : Int) := by intro h1 h2; exact h31 ⟨by omega, by omega⟩
              clear hchain
              obtain ⟨c0, c1, c2, c3, f1, f2, f3⟩ := hrB.cells
              have hbB := hrB.there
              have hRC : RS b ga ca ts (.inl rr) (wB.setCell ⟨b, 1, none⟩ (.int .i64 ((N' : Int) + 1))) := ⟨hg2r, N' + 1, hN2, hrB.fr (Fr.set 1 _) ((set_blk hrB.blk).1 _) hlt2⟩
              have hEC := hEB.fr (Fr.set (b := b) 1 (.int .i64 ((N' : Int) + 1))) hg7
              have hsC := hsB.fr (Fr.set (b := b) 1 (.int .i64 ((N' : Int) + 1))) hg2
              have hfC := hfB.trans (Fr.set (b := b) 1 (.int .i64 ((N' : Int) + 1)))
              have haC := haB.since (w' := wB.setCell ⟨b, 1, none⟩ (.int .i64 ((N' : Int) + 1))) ⟨by simp [World.setCell], fun kk h1 h2 => (Fr.set (b := b) 1 (.int .i64 ((N' : Int) + 1))).block kk h2 (by have := h1.1; omega)⟩
              have dC3 : (wB.setCell ⟨b, 1, none⟩ (.int .i64 ((N' : Int) + 1))).cell? ⟨gT, 3, none⟩ = some (.int .i64 u.place) := ((Fr.set (b := b) 1 (.int .i64 ((N' : Int) + 1))).cell dB4 hgTb).trans dB3
              have dC4 : gT < (wB.setCell ⟨b, 1, none⟩ (.int .i64 ((N' : Int) + 1))).heap.size := by simp [World.setCell]; exact dB4
              by_cases hn3 : n = 3
              · subst hn3
                have hcI : ¬ (0 : Int) < (c : Int) := by omega
                go_wp2_with fail
                generalize wB.setCell ⟨b, 1, none⟩ (.int .i64 ((N' : Int) + 1)) = wC at *
                refine (show Calls Tryz.prog 92 #[.pointer (some ⟨b, 0, none⟩), .int .i64 (4), .int .i64 d] wC _ from hsub _ wC hRC).mono ?_
                rintro e wD ⟨k2, o2, n2, t2, ao2, an2, ac2, p2, rfl, hRD, hgD, hvD⟩
                have hl7C := hEC.any.lt
                have hED := hEC.fr hgD hg7
                have hsD := hsC.fr hgD hg2
                have hfD := hfC.trans hgD
                have haD := haC.since (w' := wD) ⟨hgD.size, fun kk h1 h2 => hgD.block kk h2 (by have := h1.1; omega)⟩
                have dD3 := (hgD.cell dC4 hgTb).trans dC3
                have dD4 : gT < wD.heap.size := by have := hgD.size; omega
                clear c0 c1 c2 c3 f1 f2 f3 hEB hsB hfB haB hrB hRB dB3 dB4 hEC hsC hfC haC dC3
                obtain ⟨y0, y1, y2, y3, y4, y5, y6, y7⟩ := hED.cells
                have hl7 := hED.any.lt
                obtain ⟨_, _, _, _, _, _, _, _, _, _, _, _, _, _, _, _, j0, j1, j2, j3, j4, j5, j6, j7⟩ := hED.any.cells
                go_wp2
                obtain ⟨hR9, hE9, hs9, hf9, hx9⟩ := level_mem (P := fun x => w0.heap.size ≤ x ∧ x ≠ g7) hg7 hg7a (by omega) ⟨by omega, by omega⟩ (fun h => h.2 rfl) hRD hED hsD hfD rfl
                go_roundg F'
                case measure => omega
                case rel =>
                  refine ⟨c + 1, _, 15, (Px.levelOf u).2, 0, [], _, 2, 2, u.place, by go_num, by simp at hcl; omega, hR9, hE9, hs9, hf9, ?_⟩
                  show LvlAt _ _ _ _ _ _ _ _ _ _
                  unfold LvlAt
                  have hr2 := hrr.out
                  simp only [lift] at hvD ⊢
                  rcases hqr : q rr with ⟨x, l1⟩ | fl
                  · have ha := ((hq rr hg2r).ok x l1 hqr).less
                    simp at hlf hcl
                    refine Or.inl ⟨_, l1, rfl, by omega, by omega, hx9 _ x haD ((hvD x l1 hqr).low (fun kk h1 h2 => ⟨by have : wC.heap.size ≤ kk := h1; omega, by have : wC.heap.size ≤ kk := h1; omega⟩)), by rw [hr2, hqr]; rfl⟩
                  · exact Or.inr ⟨fl, rfl, by rw [hr2, hqr]; rfl⟩
              · have hn3I : ((n : Int) == 3) = false := by simp; omega
                go_wp2_with fail
                generalize wB.setCell ⟨b, 1, none⟩ (.int .i64 ((N' : Int) + 1)) = wC at *
                refine (show Calls Tryz.prog 92 #[.pointer (some ⟨b, 0, none⟩), .int .i64 ((n : Int) + 1), .int .i64 d] wC _ from hsub _ wC hRC).mono ?_
                rintro e wD ⟨k2, o2, n2, t2, ao2, an2, ac2, p2, rfl, hRD, hgD, hvD⟩
                have hl7C := hEC.any.lt
                have hED := hEC.fr hgD hg7
                have hsD := hsC.fr hgD hg2
                have hfD := hfC.trans hgD
                have haD := haC.since (w' := wD) ⟨hgD.size, fun kk h1 h2 => hgD.block kk h2 (by have := h1.1; omega)⟩
                have dD3 := (hgD.cell dC4 hgTb).trans dC3
                have dD4 : gT < wD.heap.size := by have := hgD.size; omega
                clear c0 c1 c2 c3 f1 f2 f3 hEB hsB hfB haB hrB hRB dB3 dB4 hEC hsC hfC haC dC3
                obtain ⟨y0, y1, y2, y3, y4, y5, y6, y7⟩ := hED.cells
                have hl7 := hED.any.lt
                obtain ⟨_, _, _, _, _, _, _, _, _, _, _, _, _, _, _, _, j0, j1, j2, j3, j4, j5, j6, j7⟩ := hED.any.cells
                go_wp2
                obtain ⟨hR9, hE9, hs9, hf9, hx9⟩ := level_mem (P := fun x => w0.heap.size ≤ x ∧ x ≠ g7) hg7 hg7a (by omega) ⟨by omega, by omega⟩ (fun h => h.2 rfl) hRD hED hsD hfD rfl
                go_roundg F'
                case measure => omega
                case rel =>
                  refine ⟨c + 1, _, 15, (Px.levelOf u).2, 0, [], _, 2, 2, u.place, by go_num, by simp at hcl; omega, hR9, hE9, hs9, hf9, ?_⟩
                  show LvlAt _ _ _ _ _ _ _ _ _ _
                  unfold LvlAt
                  have hr2 := hrr.out
                  simp only [lift] at hvD ⊢
                  rcases hqr : q rr with ⟨x, l1⟩ | fl
                  · have ha := ((hq rr hg2r).ok x l1 hqr).less
                    simp at hlf hcl
                    refine Or.inl ⟨_, l1, rfl, by omega, by omega, hx9 _ x haD ((hvD x l1 hqr).low (fun kk h1 h2 => ⟨by have : wC.heap.size ≤ kk := h1; omega, by have : wC.heap.size ≤ kk := h1; omega⟩)), by rw [hr2, hqr]; rfl⟩
                  · exact Or.inr ⟨fl, rfl, by rw [hr2, hqr]; rfl⟩
          · have hlvI : (((Px.levelOf u).1 : Int) != (n : Int)) = true := by simp; omega
            have hrr : res = .inl (acc, u :: rr) := by rw [hchain.out, if_neg hlv]
            clear hchain hlv
            obtain ⟨y0, y1, y2, y3, y4, y5, y6, y7⟩ := hEB.cells
            have hl7 := hEB.any.lt
            obtain ⟨x0, x1, x2, x3, x4, x5, x6, x7, e0, e1, e2, e3, e4, e5, e6, e7, k0, k1, k2, k3, k4, k5, k6, k7⟩ := hsB.cells
            have hl6 := hsB.lt
            have hend := hfin.out _ k o nn t ao an ac p ((by rw [hrr]; exact hRB : RS b ga ca ts (st res) wB).set8 hg2 hg2a (.int .i64 k) (.int .i64 o) (.int .i64 nn) (.string ⟨t.toArray⟩) (.int .i64 0) (.string ⟨#[]⟩) (.slice ao an ac) (.int .i64 p)) (hfB.set8 (Nat.le_refl w.heap.size) (.int .i64 k) (.int .i64 o) (.int .i64 nn) (.string ⟨t.toArray⟩) (.int .i64 0) (.string ⟨#[]⟩) (.slice ao an ac) (.int .i64 p)) (fun e l' he => by
                          rw [hrr] at he
                          simp at he
                          rw [← he.1]
                          exact (haB.since ⟨by simp [w8r, World.setCell], fun kk h1 _ => set8_other (by have := h1.1; omega) _ _ _ _ _ _ _ _⟩).base (fun kk h1 => by have := h1.1; show w.heap.size ≤ kk; omega))
            go_wp2
            exact bodyPost_ret (v := exV k o nn t (.slice ao an ac) p) (by simp [results, Tryz.results92, go_sem, e0, e1, e2, e3, e4, e5, e6, e7]) rfl hend
      · have her : ((er : Int) == 0) = false := by simp; omega
        have hrr : res = .inr (pp, er) := by
          rcases hat.out with ⟨acc, l2, h1, _⟩ | ⟨fl, h1, h2⟩
          · simp at h1
          · simp at h1; rw [h2, h1]
        obtain ⟨y0, y1, y2, y3, y4, y5, y6, y7⟩ := hE.cells
        have hl7 := hE.any.lt
        obtain ⟨x0, x1, x2, x3, x4, x5, x6, x7, e0, e1, e2, e3, e4, e5, e6, e7, k0, k1, k2, k3, k4, k5, k6, k7⟩ := hs6.cells
        have hl6 := hs6.lt
        have hfr := hf.set8 (Nat.le_refl w.heap.size) (.int .i64 k) (.int .i64 o) (.int .i64 nn) (.string ⟨t.toArray⟩) (.int .i64 0) (.string ⟨#[]⟩) (.slice ao an ac) (.int .i64 p)
        have hRS := hR.set8 hg2 hg2a (.int .i64 k) (.int .i64 o) (.int .i64 nn) (.string ⟨t.toArray⟩) (.int .i64 0) (.string ⟨#[]⟩) (.slice ao an ac) (.int .i64 p)
        have hend := hfin.out _ k o nn t ao an ac p (by rw [hrr]; exact hRS) hfr (fun e l' he => by rw [hrr] at he; simp at he)
        clear hfin hRS hfr hat hrr hR hr hsub hres
        go_wp2
        exact bodyPost_ret (v := exV k o nn t (.slice ao an ac) p) (by simp [results, Tryz.results92, go_sem, e0, e1, e2, e3, e4, e5, e6, e7]) rfl hend
  · have her : ((er0 : Int) != 0) = true := by simp; omega
    obtain ⟨x0, x1, x2, x3, x4, x5, x6, x7, e0, e1, e2, e3, e4, e5, e6, e7, k0, k1, k2, k3, k4, k5, k6, k7⟩ := hs0.cells
    have hgs := hs0.lt
    go_wp2
    exact bodyPost_ret (v := exV 0 0 0 [] (.slice none 0 0) 0) (by simp [results, Tryz.results92, go_sem, e0, e1, e2, e3, e4, e5, e6, e7]) rfl
      ⟨0, 0, 0, [], none, 0, 0, 0, rfl, hR0.set8 hg2 hg2a _ _ _ _ _ _ _ _, hf0.set8 (Nat.le_refl _) _ _ _ _ _ _ _ _, fun e l' hu => by simp [lift] at hu⟩
end Go.Proofs.YtnmdnjdibdmodaaGreatDoor
/- The document's level behind the last one: a unary. -/
namespace Go.Proofs.YtnmdnjdibdmodaaGreatDoor
open Go.RowKit
set_option linter.unusedSimpArgs false
set_option linter.unusedVariables false

set_option maxRecDepth 100000 in
set_option maxHeartbeats 4000000 in
theorem level_six (b ga ca : Nat) (ts : List Lx.Tok) (d : Nat) (q : Px.P Px.Ex) (hun : ∀ (S : RSt) (w : World), RS b ga ca ts S w → Calls Tryz.prog 104 #[.pointer (some ⟨b, 0, none⟩), .int .i64 d] w fun r w' => EP b ga ca ts q S w r w') (S : RSt) (w : World) (h : RS b ga ca ts S w) :
    Calls Tryz.prog 92 #[.pointer (some ⟨b, 0, none⟩), .int .i64 6, .int .i64 d] w fun r w' => EP b ga ca ts q S w r w' := by
  obtain ⟨N0, p0, er0, hr, hcase⟩ := h.at
  have hbl := hr.there
  have hgl := hr.gl
  have hb0 : Below w.heap.size w (w.alloc zeroEx) := (Below.refl _ _).alloc (Nat.le_refl _) _
  have hs0 := E8any.new w
  have hR0 := h.below hb0
  have hr0 := hr.same hb0
  have hf0 : Fr b w (w.alloc zeroEx) := Fr.of_below hb0
  have hg2 : w.heap.size ≠ b := by omega
  have hg2a : w.heap.size ≠ ga := by omega
  have hsz0 : w.heap.size < (w.alloc zeroEx).heap.size := by simp
  go_enter Tryz.func92, Tryz.ntmps92
  go_upto_region 1 with fail
  generalize w.alloc zeroEx = w0 at *
  obtain ⟨c0, c1, c2, c3, f1, f2, f3⟩ := hr0.cells
  have hb3 := hr0.there
  clear hb0 hr hr0
  rcases hcase with ⟨rfl, l, rfl⟩ | ⟨h0, rfl⟩
  · go_wp2_with fail
    refine (hun _ w0 hR0).mono ?_
    rintro e w2 ⟨k, o, n, t, ao, an, ac, p, rfl, hR2, hgg, hval⟩
    have hf2 : Fr b w w2 := hf0.trans hgg
    have hs2 := hs0.fr hgg hg2
    obtain ⟨x0, x1, x2, x3, x4, x5, x6, x7, e0, e1, e2, e3, e4, e5, e6, e7, k0, k1, k2, k3, k4, k5, k6, k7⟩ := hs2.cells
    have hgs := hs2.lt
    go_wp2
    exact bodyPost_ret (v := exV k o n t (.slice ao an ac) p) (by simp [results, Tryz.results92, go_sem, e0, e1, e2, e3, e4, e5, e6, e7]) rfl
      ⟨k, o, n, t, ao, an, ac, p, rfl, hR2.set8 hg2 hg2a _ _ _ _ _ _ _ _, hf2.set8 (Nat.le_refl _) _ _ _ _ _ _ _ _, fun e l' hu => by
        exact (((hval e l' hu).since (Since.set8 hsz0 _ _ _ _ _ _ _ _)).base (from_mono (by omega)))⟩
  · have her : ((er0 : Int) != 0) = true := by simp; omega
    obtain ⟨x0, x1, x2, x3, x4, x5, x6, x7, e0, e1, e2, e3, e4, e5, e6, e7, k0, k1, k2, k3, k4, k5, k6, k7⟩ := hs0.cells
    have hgs := hs0.lt
    go_wp2
    exact bodyPost_ret (v := exV 0 0 0 [] (.slice none 0 0) 0) (by simp [results, Tryz.results92, go_sem, e0, e1, e2, e3, e4, e5, e6, e7]) rfl
      ⟨0, 0, 0, [], none, 0, 0, 0, rfl, hR0.set8 hg2 hg2a _ _ _ _ _ _ _ _, hf0.set8 (Nat.le_refl _) _ _ _ _ _ _ _ _, fun e l' hu => by simp [lift] at hu⟩

/-- An expression of the document: the five levels over a unary. -/
theorem lvl_any (b ga ca : Nat) (ts : List Lx.Tok) (d : Nat) (q : Px.P Px.Ex) (hq : Px.Ok q) (hun : ∀ (S : RSt) (w : World), RS b ga ca ts S w → Calls Tryz.prog 104 #[.pointer (some ⟨b, 0, none⟩), .int .i64 d] w fun r w' => EP b ga ca ts q S w r w') (S : RSt) (w : World) (h : RS b ga ca ts S w) :
    Calls Tryz.prog 79 #[.pointer (some ⟨b, 0, none⟩), .int .i64 d] w fun r w' => EP b ga ca ts (deepP d (Px.lvl q)) S w r w' :=
  expr_step b ga ca ts d (Px.lvl q)
    (level_step b ga ca ts 1 d (by decide) (by decide) _ (Px.level_ok (Px.level_ok (Px.level_ok (Px.level_ok hq (by decide) (n := 5)) (by decide) (n := 4)) (by decide) (n := 3)) (by decide) (n := 2))
      (level_step b ga ca ts 2 d (by decide) (by decide) _ (Px.level_ok (Px.level_ok (Px.level_ok hq (by decide) (n := 5)) (by decide) (n := 4)) (by decide) (n := 3))
        (level_step b ga ca ts 3 d (by decide) (by decide) _ (Px.level_ok (Px.level_ok hq (by decide) (n := 5)) (by decide) (n := 4))
          (level_step b ga ca ts 4 d (by decide) (by decide) _ (Px.level_ok hq (by decide) (n := 5))
            (level_step b ga ca ts 5 d (by decide) (by decide) _ hq
              (level_six b ga ca ts d q hun)))))) S w h
end Go.Proofs.YtnmdnjdibdmodaaGreatDoor
/- Behind a fault the document's reader answers nothing; a unary's round in memory. -/
namespace Go.Proofs.YtnmdnjdibdmodaaGreatDoor
open Go.RowKit
set_option linter.unusedSimpArgs false
set_option linter.unusedVariables false

set_option maxRecDepth 100000 in
set_option maxHeartbeats 4000000 in
theorem level_bad (b ga ca : Nat) (ts : List Lx.Tok) (n d : Nat) (q : Px.P Px.Ex) (f : Nat × Nat) (w : World) (h : RS b ga ca ts (.inr f) w) :
    Calls Tryz.prog 92 #[.pointer (some ⟨b, 0, none⟩), .int .i64 n, .int .i64 d] w fun r w' => EP b ga ca ts q (.inr f) w r w' := by
  obtain ⟨N0, p0, er0, hr, hcase⟩ := h.at
  have hbl := hr.there
  have hgl := hr.gl
  have hb0 : Below w.heap.size w (w.alloc zeroEx) := (Below.refl _ _).alloc (Nat.le_refl _) _
  have hs0 := E8any.new w
  have hR0 := h.below hb0
  have hr0 := hr.same hb0
  have hf0 : Fr b w (w.alloc zeroEx) := Fr.of_below hb0
  have hg2 : w.heap.size ≠ b := by omega
  have hg2a : w.heap.size ≠ ga := by omega
  have h0 : er0 ≠ 0 := by
    rcases hcase with ⟨_, l, h⟩ | ⟨h, _⟩
    · cases h
    · exact h
  have her : ((er0 : Int) != 0) = true := by simp; omega
  go_enter Tryz.func92, Tryz.ntmps92
  go_upto_region 1 with fail
  generalize w.alloc zeroEx = w0 at *
  obtain ⟨c0, c1, c2, c3, f1, f2, f3⟩ := hr0.cells
  have hb3 := hr0.there
  clear hb0 hr hr0
  obtain ⟨x0, x1, x2, x3, x4, x5, x6, x7, e0, e1, e2, e3, e4, e5, e6, e7, k0, k1, k2, k3, k4, k5, k6, k7⟩ := hs0.cells
  have hgs := hs0.lt
  go_wp2
  exact bodyPost_ret (v := exV 0 0 0 [] (.slice none 0 0) 0) (by simp [results, Tryz.results92, go_sem, e0, e1, e2, e3, e4, e5, e6, e7]) rfl
    ⟨0, 0, 0, [], none, 0, 0, 0, rfl, hR0.set8 hg2 hg2a _ _ _ _ _ _ _ _, hf0.set8 (Nat.le_refl _) _ _ _ _ _ _ _ _, fun e l' hu => by simp [lift] at hu⟩

set_option maxRecDepth 100000 in
set_option maxHeartbeats 4000000 in
theorem unary_bad (b ga ca : Nat) (ts : List Lx.Tok) (d : Nat) (q : Px.P Px.Ex) (f : Nat × Nat) (w : World) (h : RS b ga ca ts (.inr f) w) :
    Calls Tryz.prog 104 #[.pointer (some ⟨b, 0, none⟩), .int .i64 d] w fun r w' => EP b ga ca ts q (.inr f) w r w' := by
  obtain ⟨N0, p0, er0, hr, hcase⟩ := h.at
  have hbl := hr.there
  have hgl := hr.gl
  have hb0 : Below w.heap.size w (w.alloc zeroEx) := (Below.refl _ _).alloc (Nat.le_refl _) _
  have hs0 := E8any.new w
  have hR0 := h.below hb0
  have hr0 := hr.same hb0
  have hf0 : Fr b w (w.alloc zeroEx) := Fr.of_below hb0
  have hg2 : w.heap.size ≠ b := by omega
  have hg2a : w.heap.size ≠ ga := by omega
  have h0 : er0 ≠ 0 := by
    rcases hcase with ⟨_, l, h⟩ | ⟨h, _⟩
    · cases h
    · exact h
  have her : ((er0 : Int) != 0) = true := by simp; omega
  go_enter Tryz.func104, Tryz.ntmps104
  go_upto_region 1 with fail
  generalize w.alloc zeroEx = w0 at *
  obtain ⟨c0, c1, c2, c3, f1, f2, f3⟩ := hr0.cells
  have hb3 := hr0.there
  clear hb0 hr hr0
  obtain ⟨x0, x1, x2, x3, x4, x5, x6, x7, e0, e1, e2, e3, e4, e5, e6, e7, k0, k1, k2, k3, k4, k5, k6, k7⟩ := hs0.cells
  have hgs := hs0.lt
  go_wp2
  exact bodyPost_ret (v := exV 0 0 0 [] (.slice none 0 0) 0) (by simp [results, Tryz.results104, go_sem, e0, e1, e2, e3, e4, e5, e6, e7]) rfl
    ⟨0, 0, 0, [], none, 0, 0, 0, rfl, hR0.set8 hg2 hg2a _ _ _ _ _ _ _ _, hf0.set8 (Nat.le_refl _) _ _ _ _ _ _ _ _, fun e l' hu => by simp [lift] at hu⟩

/-- An expr of the document too deep. -/
theorem lvl_zero (l : List Lx.Tok) : Px.lvl (Px.unary 0) l = Px.fail 32 l := rfl
set_option maxRecDepth 100000 in
set_option maxHeartbeats 8000000 in
theorem expr_over (b ga ca : Nat) (ts : List Lx.Tok) (S : RSt) (w : World) (h : RS b ga ca ts S w) :
    Calls Tryz.prog 79 #[.pointer (some ⟨b, 0, none⟩), .int .i64 25] w fun r w' => EP b ga ca ts (Px.lvl (Px.unary 0)) S w r w' := by
  obtain ⟨N0, p0, er0, hr, hcase⟩ := h.at
  have hbl := hr.there
  have hgl := hr.gl
  have hb0 : Below w.heap.size w (w.alloc zeroEx) := (Below.refl _ _).alloc (Nat.le_refl _) _
  have hs0 := E8any.new w
  have hR0 := h.below hb0
  have hr0 := hr.same hb0
  have hf0 : Fr b w (w.alloc zeroEx) := Fr.of_below hb0
  have hg2 : w.heap.size ≠ b := by omega
  have hg2a : w.heap.size ≠ ga := by omega
  go_enter Tryz.func79, Tryz.ntmps79
  go_upto_region 1 with fail
  generalize w.alloc zeroEx = w0 at *
  obtain ⟨c0, c1, c2, c3, f1, f2, f3⟩ := hr0.cells
  have hb3 := hr0.there
  clear hb0 h hr hr0
  rcases hcase with ⟨rfl, l, rfl⟩ | ⟨h0, rfl⟩
  · go_wp2_with fail
    refine (deep_any b ga ca ts (.inl l) 25 w0 hR0).mono ?_
    rintro e w1 ⟨rfl, hR1, hg1⟩
    have hR1' : RS b ga ca ts (.inr (Px.place l, 32)) w1 := hR1
    have hf1 : Fr b w w1 := hf0.trans hg1
    have hs1 := hs0.fr hg1 hg2
    clear c0 c1 c2 c3 f1 f2 f3
    go_wp2_with fail
    refine (level_bad b ga ca ts 1 25 (fun _ => .inr (0, 0)) _ w1 hR1').mono ?_
    rintro e w2 ⟨k, o, n, t, ao, an, ac, p, rfl, hR2, hgg, hval⟩
    have hf2 : Fr b w w2 := hf1.trans hgg
    have hs2 := hs1.fr hgg hg2
    obtain ⟨x0, x1, x2, x3, x4, x5, x6, x7, e0, e1, e2, e3, e4, e5, e6, e7, k0, k1, k2, k3, k4, k5, k6, k7⟩ := hs2.cells
    have hgs := hs2.lt
    go_wp2
    exact bodyPost_ret (v := exV k o n t (.slice ao an ac) p) (by simp [results, Tryz.results79, go_sem, e0, e1, e2, e3, e4, e5, e6, e7]) rfl
      ⟨k, o, n, t, ao, an, ac, p, rfl, hR2.set8 hg2 hg2a _ _ _ _ _ _ _ _, hf2.set8 (Nat.le_refl _) _ _ _ _ _ _ _ _, fun e l' hu => by
        simp only [lift, lvl_zero, Px.fail] at hu
        cases hu⟩
  · have her : ((er0 : Int) != 0) = true := by simp; omega
    obtain ⟨x0, x1, x2, x3, x4, x5, x6, x7, e0, e1, e2, e3, e4, e5, e6, e7, k0, k1, k2, k3, k4, k5, k6, k7⟩ := hs0.cells
    have hgs := hs0.lt
    go_wp2
    exact bodyPost_ret (v := exV 0 0 0 [] (.slice none 0 0) 0) (by simp [results, Tryz.results79, go_sem, e0, e1, e2, e3, e4, e5, e6, e7]) rfl
      ⟨0, 0, 0, [], none, 0, 0, 0, rfl, hR0.set8 hg2 hg2a _ _ _ _ _ _ _ _, hf0.set8 (Nat.le_refl _) _ _ _ _ _ _ _ _, fun e l' hu => by simp [lift] at hu⟩

theorem one_ex {P : Nat → Prop} {w : World} {gs k p : Nat} {x : Px.Ex} {cx : List Value} (hP : P gs) (hg : gs < w.heap.size) (hc : ∀ (j : Nat) (u : Value), cx[j]? = some u → w.cell? ⟨gs, j, none⟩ = some u) (hx : IsEx P w x cx) :
    IsEx P w (.mk k 0 0 [] [x] p) (exL k 0 0 [] (.slice (some ⟨gs, 0, none⟩) 1 1) p) := by
  have lx := hx.len
  rw [IsEx]
  refine ⟨.slice (some ⟨gs, 0, none⟩) 1 1, cx, rfl, ⟨by simp; omega, Or.inr ⟨gs, 0, 1, rfl, Nat.le_refl _, by unfold maxLen; omega, hP, hg, fun j u hj => by rw [Nat.zero_add]; exact hc j u hj⟩⟩, ?_⟩
  rw [AllEx]
  refine ⟨cx, [], by simp, hx, ?_⟩
  rw [AllEx]
theorem two_ex {P : Nat → Prop} {w : World} {gs k p : Nat} {x y : Px.Ex} {cx cy : List Value} (hP : P gs) (hg : gs < w.heap.size) (hc : ∀ (j : Nat) (u : Value), (cx ++ cy)[j]? = some u → w.cell? ⟨gs, j, none⟩ = some u) (hx : IsEx P w x cx) (hy : IsEx P w y cy) :
    IsEx P w (.mk k 0 0 [] [x, y] p) (exL k 0 0 [] (.slice (some ⟨gs, 0, none⟩) 2 2) p) := by
  have lx := hx.len
  have ly := hy.len
  rw [IsEx]
  refine ⟨.slice (some ⟨gs, 0, none⟩) 2 2, cx ++ cy, rfl, ⟨by simp; omega, Or.inr ⟨gs, 0, 2, rfl, Nat.le_refl _, by unfold maxLen; omega, hP, hg, fun j u hj => by rw [Nat.zero_add]; exact hc j u hj⟩⟩, ?_⟩
  rw [AllEx]
  refine ⟨cx, cy, rfl, hx, ?_⟩
  rw [AllEx]
  exact ⟨cy, [], by simp, hy, by rw [AllEx]⟩
end Go.Proofs.YtnmdnjdibdmodaaGreatDoor
/- The document's unary, over contracts of primary, expr and unary one deeper. -/
namespace Go.Proofs.YtnmdnjdibdmodaaGreatDoor
open Go.RowKit
set_option linter.unusedSimpArgs false
set_option linter.unusedVariables false

theorem st_bind_one {α β : Type} (X : Px.R α) (f : α → β) : st (Px.bind X fun x l => .inl (f x, l)) = st X := by
  rcases X with ⟨x, l⟩ | f <;> rfl
theorem bind_one_inl {α β : Type} {X : Px.R α} {f : α → β} {e : β} {l' : List Lx.Tok} (h : (Px.bind X fun x l => .inl (f x, l)) = .inl (e, l')) : ∃ x, X = .inl (x, l') ∧ e = f x := by
  rcases X with ⟨x, l⟩ | g
  · simp [Px.bind] at h; obtain ⟨h1, h2⟩ := h; exact ⟨x, by rw [h2], h1.symm⟩
  · simp [Px.bind] at h
/-- One expression in a new block, and the answer's box set. -/
theorem un_mem {b ga ca : Nat} {ts : List Lx.Tok} {w wD : World} {B kk k2 o2 n2 p2 pl : Nat} {t2 : Lx.B} {ao2 : Option Addr} {an2 ac2 : Nat} {S : RSt} (hg : w.heap.size ≠ b) (hga : w.heap.size ≠ ga) (hB : w.heap.size < B)
    (hR : RS b ga ca ts S wD) (hs : E8any w.heap.size wD) (hf : Fr b w wD) {wF : World}
    (hwF : wF = (w8r wD w.heap.size (.int .i64 kk) (.int .i64 0) (.int .i64 0) (.string ⟨#[]⟩) (.int .i64 0) (.string ⟨#[]⟩) (.slice (some ⟨wD.heap.size, 0, none⟩) 1 1) (.int .i64 pl)).alloc (.cells #[.int .i64 k2, .int .i64 o2, .int .i64 n2, .string ⟨t2.toArray⟩, .int .i64 0, .string ⟨#[]⟩, .slice ao2 an2 ac2, .int .i64 p2] 51)) :
    RS b ga ca ts S wF ∧ E8 w.heap.size wF kk 0 0 [] (.slice (some ⟨wD.heap.size, 0, none⟩) 1 1) pl ∧ Fr b w wF ∧ ∀ x, IsEx (From B) wD x (exL k2 o2 n2 t2 (.slice ao2 an2 ac2) p2) → IsEx (From w.heap.size) wF (.mk kk 0 0 [] [x] pl) (exL kk 0 0 [] (.slice (some ⟨wD.heap.size, 0, none⟩) 1 1) pl) := by
  have hsl := hs.lt
  have hsz : (w8r wD w.heap.size (.int .i64 kk) (.int .i64 0) (.int .i64 0) (.string ⟨#[]⟩) (.int .i64 0) (.string ⟨#[]⟩) (.slice (some ⟨wD.heap.size, 0, none⟩) 1 1) (.int .i64 pl)).heap.size = wD.heap.size := by simp [w8r, World.setCell]
  have hR8 := hR.set8 hg hga (.int .i64 kk) (.int .i64 0) (.int .i64 0) (.string ⟨#[]⟩) (.int .i64 0) (.string ⟨#[]⟩) (.slice (some ⟨wD.heap.size, 0, none⟩) 1 1) (.int .i64 pl)
  have hE8 := set8_blk hs (.int .i64 kk) (.int .i64 0) (.int .i64 0) (.string ⟨#[]⟩) (.int .i64 0) (.string ⟨#[]⟩) (.slice (some ⟨wD.heap.size, 0, none⟩) 1 1) (.int .i64 pl)
  have hf8 := hf.set8 (Nat.le_refl _) (.int .i64 kk) (.int .i64 0) (.int .i64 0) (.string ⟨#[]⟩) (.int .i64 0) (.string ⟨#[]⟩) (.slice (some ⟨wD.heap.size, 0, none⟩) 1 1) (.int .i64 pl)
  have hoth : ∀ j, j ≠ w.heap.size → (w8r wD w.heap.size (.int .i64 kk) (.int .i64 0) (.int .i64 0) (.string ⟨#[]⟩) (.int .i64 0) (.string ⟨#[]⟩) (.slice (some ⟨wD.heap.size, 0, none⟩) 1 1) (.int .i64 pl)).heap[j]? = wD.heap[j]? := fun j h => set8_other h _ _ _ _ _ _ _ _
  generalize w8r wD w.heap.size (.int .i64 kk) (.int .i64 0) (.int .i64 0) (.string ⟨#[]⟩) (.int .i64 0) (.string ⟨#[]⟩) (.slice (some ⟨wD.heap.size, 0, none⟩) 1 1) (.int .i64 pl) = wX at *
  have hb : Below wX.heap.size wX wF := by
    rw [hwF]
    exact (Below.refl _ _).alloc (Nat.le_refl _) _
  have hnew : wF.heap[wD.heap.size]? = some (.cells #[.int .i64 k2, .int .i64 o2, .int .i64 n2, .string ⟨t2.toArray⟩, .int .i64 0, .string ⟨#[]⟩, .slice ao2 an2 ac2, .int .i64 p2] 51 (0, 0)) := by
    rw [hwF]
    show (Array.push _ _)[wD.heap.size]? = _
    rw [Array.getElem?_push, if_pos (by simp [hsz])]
  clear hwF
  have hlF : wD.heap.size < wF.heap.size := (Array.getElem?_eq_some_iff.1 hnew).1
  have hsince : Since (From B) wD wF := ⟨by omega, fun j h1 h2 => (hb.block j (by omega)).trans (hoth j (by have : B ≤ j := h1; omega))⟩
  refine ⟨hR8.below hb, (hb.block _ (by omega)).trans hE8, hf8.trans (Fr.of_below hb), fun x hx => ?_⟩
  refine one_ex (show w.heap.size ≤ wD.heap.size by omega) hlF (fun j v hj => cell_at hnew (by rw [← Array.getElem?_toList]; exact hj)) ((hx.since hsince).base (fun j h1 => by have : B ≤ j := h1; show w.heap.size ≤ j; omega))
/-- A round's end: two expressions side by side in a new block, and the box set anew. -/
theorem ats_mem {b ga ca : Nat} {ts : List Lx.Tok} {P : Nat → Prop} {w wD : World} {g7 k o nn p k2 o2 n2 p2 pl : Nat} {t t2 : Lx.B} {ao ao2 : Option Addr} {an ac an2 ac2 : Nat} {S : RSt} (hg7 : g7 ≠ b) (hg7a : g7 ≠ ga) (hw7 : w.heap.size < g7) (hP : P wD.heap.size) (hP7 : ¬ P g7)
    (hR : RS b ga ca ts S wD) (hE : E8 g7 wD k o nn t (.slice ao an ac) p) (hs : E8any w.heap.size wD) (hf : Fr b w wD) {wF : World}
    (hwF : wF = (w8r wD g7 (.int .i64 12) (.int .i64 0) (.int .i64 0) (.string ⟨#[]⟩) (.int .i64 0) (.string ⟨#[]⟩) (.slice (some ⟨wD.heap.size, 0, none⟩) 2 2) (.int .i64 pl)).alloc (.cells #[.int .i64 k, .int .i64 o, .int .i64 nn, .string ⟨t.toArray⟩, .int .i64 0, .string ⟨#[]⟩, .slice ao an ac, .int .i64 p, .int .i64 k2, .int .i64 o2, .int .i64 n2, .string ⟨t2.toArray⟩, .int .i64 0, .string ⟨#[]⟩, .slice ao2 an2 ac2, .int .i64 p2] 51)) :
    RS b ga ca ts S wF ∧ E8 g7 wF 12 0 0 [] (.slice (some ⟨wD.heap.size, 0, none⟩) 2 2) pl ∧ E8any w.heap.size wF ∧ Fr b w wF ∧ ∀ x y, IsEx P wD x (exL k o nn t (.slice ao an ac) p) → IsEx P wD y (exL k2 o2 n2 t2 (.slice ao2 an2 ac2) p2) → IsEx P wF (.mk 12 0 0 [] [x, y] pl) (exL 12 0 0 [] (.slice (some ⟨wD.heap.size, 0, none⟩) 2 2) pl) := by
  have h7 := hE.any.lt
  have hsl := hs.lt
  have hsz : (w8r wD g7 (.int .i64 12) (.int .i64 0) (.int .i64 0) (.string ⟨#[]⟩) (.int .i64 0) (.string ⟨#[]⟩) (.slice (some ⟨wD.heap.size, 0, none⟩) 2 2) (.int .i64 pl)).heap.size = wD.heap.size := by simp [w8r, World.setCell]
  have hR8 := hR.set8 hg7 hg7a (.int .i64 12) (.int .i64 0) (.int .i64 0) (.string ⟨#[]⟩) (.int .i64 0) (.string ⟨#[]⟩) (.slice (some ⟨wD.heap.size, 0, none⟩) 2 2) (.int .i64 pl)
  have hE8 := set8_blk hE.any (.int .i64 12) (.int .i64 0) (.int .i64 0) (.string ⟨#[]⟩) (.int .i64 0) (.string ⟨#[]⟩) (.slice (some ⟨wD.heap.size, 0, none⟩) 2 2) (.int .i64 pl)
  have hf8 := hf.set8 (Nat.le_of_lt hw7) (.int .i64 12) (.int .i64 0) (.int .i64 0) (.string ⟨#[]⟩) (.int .i64 0) (.string ⟨#[]⟩) (.slice (some ⟨wD.heap.size, 0, none⟩) 2 2) (.int .i64 pl)
  have hoth : ∀ kk, kk ≠ g7 → (w8r wD g7 (.int .i64 12) (.int .i64 0) (.int .i64 0) (.string ⟨#[]⟩) (.int .i64 0) (.string ⟨#[]⟩) (.slice (some ⟨wD.heap.size, 0, none⟩) 2 2) (.int .i64 pl)).heap[kk]? = wD.heap[kk]? := fun kk h => set8_other h _ _ _ _ _ _ _ _
  generalize w8r wD g7 (.int .i64 12) (.int .i64 0) (.int .i64 0) (.string ⟨#[]⟩) (.int .i64 0) (.string ⟨#[]⟩) (.slice (some ⟨wD.heap.size, 0, none⟩) 2 2) (.int .i64 pl) = wX at *
  have hb : Below wX.heap.size wX wF := by
    rw [hwF]
    exact (Below.refl _ _).alloc (Nat.le_refl _) _
  have hnew : wF.heap[wD.heap.size]? = some (.cells #[.int .i64 k, .int .i64 o, .int .i64 nn, .string ⟨t.toArray⟩, .int .i64 0, .string ⟨#[]⟩, .slice ao an ac, .int .i64 p, .int .i64 k2, .int .i64 o2, .int .i64 n2, .string ⟨t2.toArray⟩, .int .i64 0, .string ⟨#[]⟩, .slice ao2 an2 ac2, .int .i64 p2] 51 (0, 0)) := by
    rw [hwF]
    show (Array.push _ _)[wD.heap.size]? = _
    rw [Array.getElem?_push, if_pos (by simp [hsz])]
  clear hwF
  have hlF : wD.heap.size < wF.heap.size := (Array.getElem?_eq_some_iff.1 hnew).1
  have hsince : Since P wD wF := ⟨by omega, fun kk h1 h2 => (hb.block kk (by omega)).trans (hoth kk (fun e => hP7 (by rw [← e]; exact h1)))⟩
  refine ⟨hR8.below hb, (hb.block g7 (by omega)).trans hE8, ?_, hf8.trans (Fr.of_below hb), fun x y hx hy => ?_⟩
  · obtain ⟨x0, x1, x2, x3, x4, x5, x6, x7, hx⟩ := hs
    exact ⟨x0, x1, x2, x3, x4, x5, x6, x7, (hb.block _ (by omega)).trans ((hoth _ (by omega)).trans hx)⟩
  · exact two_ex hP hlF (fun j v hj => cell_at hnew (by rw [← Array.getElem?_toList]; exact hj)) (hx.since hsince) (hy.since hsince)

/-- Where the loop over square brackets is. -/
def AtsAt (e : Px.P Px.Ex) (P : Nat → Prop) (res : Px.R Px.Ex) (f : Nat) (S : RSt) (w : World) (cs : List Value) : Prop :=
  (∃ acc l, S = .inl l ∧ l.length < f ∧ IsEx P w acc cs ∧ res = Px.ats e f acc l) ∨ ∃ fl, S = .inr fl ∧ res = .inr fl
end Go.Proofs.YtnmdnjdibdmodaaGreatDoor
/- The document's unary, walked. -/
namespace Go.Proofs.YtnmdnjdibdmodaaGreatDoor
open Go.RowKit
set_option linter.unusedSimpArgs false
set_option linter.unusedVariables false

set_option maxRecDepth 100000 in
set_option maxHeartbeats 16000000 in
theorem unary_step (b ga ca : Nat) (ts : List Lx.Tok) (k d : Nat) (hd : d + k = 24)
    (hrec : ∀ (S : RSt) (w : World), RS b ga ca ts S w → (k = 0 → ∃ f, S = .inr f) → Calls Tryz.prog 104 #[.pointer (some ⟨b, 0, none⟩), .int .i64 ((d : Int) + 1)] w fun r w' => EP b ga ca ts (Px.unary k) S w r w')
    (hpri : ∀ (l : List Lx.Tok) (w : World), RS b ga ca ts (.inl l) w → Calls Tryz.prog 114 #[.pointer (some ⟨b, 0, none⟩), .int .i64 d] w fun r w' => EP b ga ca ts (Px.primary (Px.lvl (Px.unary k))) (.inl l) w r w')
    (hexp : ∀ (S : RSt) (w : World), RS b ga ca ts S w → Calls Tryz.prog 79 #[.pointer (some ⟨b, 0, none⟩), .int .i64 ((d : Int) + 1)] w fun r w' => EP b ga ca ts (Px.lvl (Px.unary k)) S w r w')
    (S : RSt) (w : World) (h : RS b ga ca ts S w) :
    Calls Tryz.prog 104 #[.pointer (some ⟨b, 0, none⟩), .int .i64 d] w fun r w' => EP b ga ca ts (Px.unary (k + 1)) S w r w' := by
  rcases S with l | f
  case inr => exact unary_bad b ga ca ts d _ f w h
  have hwr : IntKind.i64.wrap ((d : Int) + 1) = (d : Int) + 1 := IntWalk.i64_in _ (by omega)
  obtain ⟨u, rr, rfl⟩ : ∃ u rr, l = u :: rr := by
    cases l with
    | nil => exact absurd h.1 (by simp [Px.Good])
    | cons u rr => exact ⟨u, rr, rfl⟩
  have hg : Px.Good (u :: rr) := h.1
  have hbl := (h.at).choose_spec.choose_spec.choose_spec.1.there
  have hgl := (h.at).choose_spec.choose_spec.choose_spec.1.gl
  have hb0 : Below w.heap.size w (w.alloc zeroEx) := (Below.refl _ _).alloc (Nat.le_refl _) _
  have hs0 := E8any.new w
  have hR0 := h.below hb0
  have hf0 : Fr b w (w.alloc zeroEx) := Fr.of_below hb0
  have hg2 : w.heap.size ≠ b := by omega
  have hg2a : w.heap.size ≠ ga := by omega
  have hsz0 : w.heap.size < (w.alloc zeroEx).heap.size := by simp
  obtain ⟨Nl, hNl, hr1⟩ := hR0.2
  obtain ⟨hu, hN2, hlt⟩ := drop_head hNl
  have hltI : (Nl : Int) < (ts.length : Int) := by omega
  go_enter Tryz.func104, Tryz.ntmps104
  go_upto_region 1 with fail
  generalize w.alloc zeroEx = w0 at *
  obtain ⟨c0, c1, c2, c3, f1, f2, f3⟩ := hr1.cells
  obtain ⟨x0, x1, x2, x3⟩ := hr1.row Nl u hu
  have hb3 := hr1.there
  have hgl3 := hr1.gl
  clear hb0 h
  go_upto_region 3 with fail
  go_region
  have hbA : Below w0.heap.size w0 w0.drew := ⟨rfl, rfl, rfl, Nat.le_refl _, fun _ _ => rfl⟩
  have hRA := hR0.below hbA
  have hsA := hs0.fr (Fr.of_below (b := b) hbA) hg2
  have hfA := hf0.trans (Fr.of_below (b := b) hbA)
  clear c0 c1 c2 c3 f1 f2 f3 x0 x1 x2 x3 hbA hR0 hs0 hf0 hr1 hb3 hgl3 hsz0
  generalize w0.drew = wA at *
  go_wp2_with fail
  refine (got_any b ga ca ts (.inl (u :: rr)) 4 [45] wA (by decide) hRA).mono ?_
  rintro e wB ⟨rfl, hRB, hgB⟩
  have hsB := hsA.fr hgB hg2
  have hfB := hfA.trans hgB
  clear hRA hsA hfA hgB
  rcases hs13 : seesS 4 [45] (.inl (u :: rr)) with _ | _
  case true =>
    have hRX := hRB
    have hsX := hsB
    have hfX := hfB
    clear hRB hsB hfB
    generalize wB = wX at *
    have hsee : Px.sees 4 [45] (u :: rr) = true := hs13
    have e1 : gotS 4 [45] (.inl (u :: rr)) = .inl rr := by simp only [gotS]; rw [if_pos hsee]; rfl
    rw [e1] at hRX
    have hdeep := deep_any b ga ca ts (.inl rr) (d + 1) wX hRX
    rw [show ((d + 1 : Nat) : Int) = (d : Int) + 1 by omega] at hdeep
    have hU : lift (Px.unary (k + 1)) (.inl (u :: rr)) = Px.bind (Px.unary k rr) fun x l1 => .inl (.mk 13 0 0 [] [x] u.place, l1) := by
      simp only [lift, Px.unary]
      rw [if_pos hsee]; rfl
    have hk0 : k = 0 → ∃ f, deepS (d + 1) (.inl rr) = .inr f := fun hk => ⟨_, by unfold deepS; rw [if_pos (by omega)]; rfl⟩
    have hX : lift (Px.unary k) (deepS (d + 1) (.inl rr)) = Px.unary k rr := by
      unfold deepS
      by_cases h24 : 24 < d + 1
      · obtain rfl : k = 0 := by omega
        rw [if_pos h24]; rfl
      · rw [if_neg h24]; rfl
    clear hsee e1 hRX hpri hexp
    go_wp2_with fail
    refine hdeep.mono ?_
    rintro e wC ⟨rfl, hRC, hgC⟩
    have hsC := hsX.fr hgC hg2
    have hfC := hfX.trans hgC
    clear hdeep hsX hfX hgC
    go_wp2_with fail
    refine (hrec _ wC hRC hk0).mono ?_
    rintro e wD ⟨k2, o2, n2, t2, ao2, an2, ac2, p2, rfl, hRD, hgD, hvD⟩
    rw [hX] at hRD hvD
    have hsD := hsC.fr hgD hg2
    have hfD := hfC.trans hgD
    have hlC := hsC.lt
    obtain ⟨y0, y1, y2, y3, y4, y5, y6, y7, e0, e1, e2, e3, e4, e5, e6, e7, j0, j1, j2, j3, j4, j5, j6, j7⟩ := hsD.cells
    have hlD := hsD.lt
    clear hRC hsC hfC hgD hrec hX hk0
    go_wp2
    generalize hwF : (w8r wD w.heap.size (.int .i64 13) (.int .i64 0) (.int .i64 0) (.string ⟨#[]⟩) (.int .i64 0) (.string ⟨#[]⟩) (.slice (some ⟨wD.heap.size, 0, none⟩) 1 1) (.int .i64 u.place)).alloc (.cells #[.int .i64 k2, .int .i64 o2, .int .i64 n2, .string ⟨t2.toArray⟩, .int .i64 0, .string ⟨#[]⟩, .slice ao2 an2 ac2, .int .i64 p2] 51) = wF
    obtain ⟨hRF, hEF, hfF, hxF⟩ := un_mem hg2 hg2a hlC hRD hsD hfD hwF.symm
    obtain ⟨z0, z1, z2, z3, z4, z5, z6, z7⟩ := hEF.cells
    clear hwF e0 e1 e2 e3 e4 e5 e6 e7 j0 j1 j2 j3 j4 j5 j6 j7
    exact bodyPost_ret (v := exV 13 0 0 [] (.slice (some ⟨wD.heap.size, 0, none⟩) 1 1) u.place) (by simp [results, Tryz.results104, go_sem, z0, z1, z2, z3, z4, z5, z6, z7]) rfl
      ⟨13, 0, 0, [], some ⟨wD.heap.size, 0, none⟩, 1, 1, u.place, rfl, by rw [hU, st_bind_one]; exact hRF, hfF, fun e l' he => by
        rw [hU] at he
        obtain ⟨x, hx, rfl⟩ := bind_one_inl he
        exact hxF x (hvD x l' hx)⟩
  case false =>
    rw [gotS_no hs13] at hRB
    go_wp2_with fail
    refine (got_any b ga ca ts (.inl (u :: rr)) 4 [33] wB (by decide) hRB).mono ?_
    rintro e wX ⟨rfl, hRX, hgX⟩
    have hsX := hsB.fr hgX hg2
    have hfX := hfB.trans hgX
    clear hRB hsB hfB hgX
    rcases hs14 : seesS 4 [33] (.inl (u :: rr)) with _ | _
    case true =>
      have hsee : Px.sees 4 [33] (u :: rr) = true := hs14
      have e1 : gotS 4 [33] (.inl (u :: rr)) = .inl rr := by simp only [gotS]; rw [if_pos hsee]; rfl
      rw [e1] at hRX
      have hdeep := deep_any b ga ca ts (.inl rr) (d + 1) wX hRX
      rw [show ((d + 1 : Nat) : Int) = (d : Int) + 1 by omega] at hdeep
      have hU : lift (Px.unary (k + 1)) (.inl (u :: rr)) = Px.bind (Px.unary k rr) fun x l1 => .inl (.mk 14 0 0 [] [x] u.place, l1) := by
        simp only [lift, Px.unary]
        rw [if_neg (by rw [show Px.sees 4 [45] (u :: rr) = false from hs13]; simp)]; rw [if_pos hsee]; rfl
      have hk0 : k = 0 → ∃ f, deepS (d + 1) (.inl rr) = .inr f := fun hk => ⟨_, by unfold deepS; rw [if_pos (by omega)]; rfl⟩
      have hX : lift (Px.unary k) (deepS (d + 1) (.inl rr)) = Px.unary k rr := by
        unfold deepS
        by_cases h24 : 24 < d + 1
        · obtain rfl : k = 0 := by omega
          rw [if_pos h24]; rfl
        · rw [if_neg h24]; rfl
      clear hsee e1 hRX hpri hexp
      go_wp2_with fail
      refine hdeep.mono ?_
      rintro e wC ⟨rfl, hRC, hgC⟩
      have hsC := hsX.fr hgC hg2
      have hfC := hfX.trans hgC
      clear hdeep hsX hfX hgC
      go_wp2_with fail
      refine (hrec _ wC hRC hk0).mono ?_
      rintro e wD ⟨k2, o2, n2, t2, ao2, an2, ac2, p2, rfl, hRD, hgD, hvD⟩
      rw [hX] at hRD hvD
      have hsD := hsC.fr hgD hg2
      have hfD := hfC.trans hgD
      have hlC := hsC.lt
      obtain ⟨y0, y1, y2, y3, y4, y5, y6, y7, e0, e1, e2, e3, e4, e5, e6, e7, j0, j1, j2, j3, j4, j5, j6, j7⟩ := hsD.cells
      have hlD := hsD.lt
      clear hRC hsC hfC hgD hrec hX hk0
      go_wp2
      generalize hwF : (w8r wD w.heap.size (.int .i64 14) (.int .i64 0) (.int .i64 0) (.string ⟨#[]⟩) (.int .i64 0) (.string ⟨#[]⟩) (.slice (some ⟨wD.heap.size, 0, none⟩) 1 1) (.int .i64 u.place)).alloc (.cells #[.int .i64 k2, .int .i64 o2, .int .i64 n2, .string ⟨t2.toArray⟩, .int .i64 0, .string ⟨#[]⟩, .slice ao2 an2 ac2, .int .i64 p2] 51) = wF
      obtain ⟨hRF, hEF, hfF, hxF⟩ := un_mem hg2 hg2a hlC hRD hsD hfD hwF.symm
      obtain ⟨z0, z1, z2, z3, z4, z5, z6, z7⟩ := hEF.cells
      clear hwF e0 e1 e2 e3 e4 e5 e6 e7 j0 j1 j2 j3 j4 j5 j6 j7
      exact bodyPost_ret (v := exV 14 0 0 [] (.slice (some ⟨wD.heap.size, 0, none⟩) 1 1) u.place) (by simp [results, Tryz.results104, go_sem, z0, z1, z2, z3, z4, z5, z6, z7]) rfl
        ⟨14, 0, 0, [], some ⟨wD.heap.size, 0, none⟩, 1, 1, u.place, rfl, by rw [hU, st_bind_one]; exact hRF, hfF, fun e l' he => by
          rw [hU] at he
          obtain ⟨x, hx, rfl⟩ := bind_one_inl he
          exact hxF x (hvD x l' hx)⟩
    case false =>
      rw [gotS_no hs14] at hRX
      have hU : lift (Px.unary (k + 1)) (.inl (u :: rr)) = Px.bind (Px.primary (Px.lvl (Px.unary k)) (u :: rr)) fun x l1 => Px.ats (Px.lvl (Px.unary k)) (l1.length + 1) x l1 := by
        simp only [lift, Px.unary]
        rw [if_neg (by rw [show Px.sees 4 [45] (u :: rr) = false from hs13]; simp), if_neg (by rw [show Px.sees 4 [33] (u :: rr) = false from hs14]; simp)]
      have hok : Px.Ok (Px.lvl (Px.unary k)) := Px.lvl_ok (Px.unary_ok k)
      have hlX := hsX.lt
      have hbX := (hRX.at).choose_spec.choose_spec.choose_spec.1.there
      have hgX := (hRX.at).choose_spec.choose_spec.choose_spec.1.gl
      clear hrec hs13 hs14 hu hN2 hlt hltI hNl
      go_wp2_with fail
      refine (hpri _ wX hRX).mono ?_
      rintro e w1 ⟨k1, o, nn, t, ao, an, ac, p, rfl, hR1, hgg, hval⟩
      have hf1 := hfX.trans hgg
      have hs1 := hsX.fr hgg hg2
      have hsz1 := hgg.size
      clear hRX hsX hfX hpri
      go_wp2_with fail
      have hE7 := E8.new w1 k1 o nn t (.slice ao an ac) p
      have hb17 : Below w1.heap.size w1 (w1.alloc (.cells #[.int .i64 k1, .int .i64 o, .int .i64 nn, .string ⟨t.toArray⟩, .int .i64 0, .string ⟨#[]⟩, .slice ao an ac, .int .i64 p] 51)) := (Below.refl _ _).alloc (Nat.le_refl _) _
      have hR2 := hR1.below hb17
      have hf2 := hf1.trans (Fr.of_below (b := b) hb17)
      have hs2 := hs1.fr (Fr.of_below (b := b) hb17) hg2
      have hP : ∀ kk, From wX.heap.size kk → kk < w1.heap.size → (fun g => wX.heap.size ≤ g ∧ g ≠ w1.heap.size) kk := fun kk h1 h2 => ⟨h1, by omega⟩
      have hat : Aside (AtsAt (Px.lvl (Px.unary k)) (fun g => wX.heap.size ≤ g ∧ g ≠ w1.heap.size) (lift (Px.unary (k + 1)) (.inl (u :: rr))) ((match Px.primary (Px.lvl (Px.unary k)) (u :: rr) with | .inl (_, l1) => l1.length | .inr _ => 0) + 1) (st (lift (Px.primary (Px.lvl (Px.unary k))) (.inl (u :: rr)))) (w1.alloc (.cells #[.int .i64 k1, .int .i64 o, .int .i64 nn, .string ⟨t.toArray⟩, .int .i64 0, .string ⟨#[]⟩, .slice ao an ac, .int .i64 p] 51)) (exL k1 o nn t (.slice ao an ac) p)) := by
        show AtsAt _ _ _ _ _ _ _
        unfold AtsAt
        rw [hU]
        simp only [lift] at hval ⊢
        rcases hql : Px.primary (Px.lvl (Px.unary k)) (u :: rr) with ⟨x, l1⟩ | fl
        · refine Or.inl ⟨x, l1, rfl, by simp, ?_, rfl⟩
          exact ((hval x l1 hql).low hP).since (Since.of_below hb17)
        · exact Or.inr ⟨fl, rfl, rfl⟩
      obtain ⟨res, hres⟩ : ∃ res, Aside (res = lift (Px.unary (k + 1)) (.inl (u :: rr))) := ⟨_, rfl⟩
      rw [← hres.out] at hat
      have hg7 : w1.heap.size ≠ b := by omega
      have hg7a : w1.heap.size ≠ ga := by omega
      have hg67 : w.heap.size < w1.heap.size := by omega
      have hX7 : wX.heap.size ≤ w1.heap.size := hsz1
      generalize (w1.alloc (.cells #[.int .i64 k1, .int .i64 o, .int .i64 nn, .string ⟨t.toArray⟩, .int .i64 0, .string ⟨#[]⟩, .slice ao an ac, .int .i64 p] 51)) = w2 at *
      generalize ((match Px.primary (Px.lvl (Px.unary k)) (u :: rr) with | .inl (_, l1) => l1.length | .inr _ => 0) + 1) = F at *
      generalize st (lift (Px.primary (Px.lvl (Px.unary k))) (.inl (u :: rr))) = S2 at *
      clear hval hb17 hR1 hf1 hs1 hP hgg hU hsz1
      generalize w1.heap.size = g7 at *
      generalize hEq : Px.lvl (Px.unary k) = E at *
      clear hEq
      try go_wp2_with fail
      go_loopg [5] F (fun g av wr => ∃ (pl : Nat) (S' : RSt) (k1 o nn : Nat) (t : Lx.B) (ao : Option Addr) (an ac p : Nat), av = .int .i64 pl ∧ RS b ga ca ts S' wr ∧ E8 g7 wr k1 o nn t (.slice ao an ac) p ∧ E8any w.heap.size wr ∧ Fr b w wr ∧ Aside (AtsAt E (fun x => wX.heap.size ≤ x ∧ x ≠ g7) res g S' wr (exL k1 o nn t (.slice ao an ac) p)))
      case atStart => exact ⟨u.place, S2, k1, o, nn, t, ao, an, ac, p, rfl, hR2, hE7, hs2, hf2, hat⟩
      case round =>
        clear hat hR2 hE7 hs2 hf2
        obtain ⟨pl, S', k1, o, nn, t, ao, an, ac, p, rfl, hR, hE, hs6, hf, hat⟩ := hrel
        have hfin : Aside (∀ (w9 : World) (k1 o nn : Nat) (t : Lx.B) (ao : Option Addr) (an ac p : Nat), RS b ga ca ts (st res) w9 → Fr b w w9 → (∀ e l', res = .inl (e, l') → IsEx (From w.heap.size) w9 e (exL k1 o nn t (.slice ao an ac) p)) → EP b ga ca ts (Px.unary (k + 1)) (.inl (u :: rr)) w (.returned (exV k1 o nn t (.slice ao an ac) p)) w9) := by
          intro w9 k1 o nn t ao an ac p h1 h2 h3
          have e : lift (Px.unary (k + 1)) (.inl (u :: rr)) = res := hres.out.symm
          exact ⟨k1, o, nn, t, ao, an, ac, p, rfl, by rw [e]; exact h1, h2, by rw [e]; exact h3⟩
        go_wp2_with fail
        refine (sees_any b ga ca ts S' 4 [91] wr hR).mono ?_
        rintro e wA ⟨rfl, m, hwA⟩
        have hbA : Below wr.heap.size wr wA := by rw [hwA]; exact ⟨rfl, rfl, rfl, Nat.le_refl _, fun _ _ => rfl⟩
        clear hwA
        have hl7r := hE.any.lt
        have hRA := hR.below hbA
        have hEA : E8 g7 wA k1 o nn t (.slice ao an ac) p := (hbA.block g7 hl7r).trans hE
        have hsA := hs6.fr (Fr.of_below (b := b) hbA) hg2
        have hfA := hf.trans (Fr.of_below (b := b) hbA)
        have hatA : Aside (AtsAt E (fun x => wX.heap.size ≤ x ∧ x ≠ g7) res gk S' wA (exL k1 o nn t (.slice ao an ac) p)) := by
          show AtsAt _ _ _ _ _ _ _
          rcases hat.out with ⟨acc, l', h1, h2, h3, h4⟩ | h1
          · exact Or.inl ⟨acc, l', h1, h2, h3.since (Since.of_below hbA), h4⟩
          · exact Or.inr h1
        clear hR hE hs6 hf hat hbA hl7r
        rcases hse : seesS 4 [91] S' with _ | _
        case false =>
          have hrr : st res = S' ∧ ∀ e l', res = .inl (e, l') → IsEx (fun x => wX.heap.size ≤ x ∧ x ≠ g7) wA e (exL k1 o nn t (.slice ao an ac) p) := by
            rcases hatA.out with ⟨acc, l', rfl, hlf, hacc, hch⟩ | ⟨fl, rfl, hch⟩
            · obtain ⟨F', rfl⟩ : ∃ F', gk = F' + 1 := ⟨gk - 1, by omega⟩
              have e : res = .inl (acc, l') := by
                rw [hch]; simp only [Px.ats]
                rw [if_neg (by rw [show Px.sees 4 [91] l' = false from hse]; simp)]
              rw [e]
              refine ⟨rfl, fun e2 l2 h2 => ?_⟩
              simp at h2
              rw [← h2.1]; exact hacc
            · rw [hch]
              exact ⟨rfl, fun e2 l2 h2 => by cases h2⟩
          obtain ⟨y0, y1, y2, y3, y4, y5, y6, y7⟩ := hEA.cells
          have hl7 := hEA.any.lt
          obtain ⟨x0, x1, x2, x3, x4, x5, x6, x7, e0, e1, e2, e3, e4, e5, e6, e7, m0, m1, m2, m3, m4, m5, m6, m7⟩ := hsA.cells
          have hl6 := hsA.lt
          have hend := hfin.out _ k1 o nn t ao an ac p ((by rw [hrr.1]; exact hRA : RS b ga ca ts (st res) wA).set8 hg2 hg2a (.int .i64 k1) (.int .i64 o) (.int .i64 nn) (.string ⟨t.toArray⟩) (.int .i64 0) (.string ⟨#[]⟩) (.slice ao an ac) (.int .i64 p)) (hfA.set8 (Nat.le_refl w.heap.size) (.int .i64 k1) (.int .i64 o) (.int .i64 nn) (.string ⟨t.toArray⟩) (.int .i64 0) (.string ⟨#[]⟩) (.slice ao an ac) (.int .i64 p)) (fun e l' he => by
            exact ((hrr.2 e l' he).since ⟨by simp [w8r, World.setCell], fun kk h1 _ => set8_other (by have := h1.1; omega) _ _ _ _ _ _ _ _⟩).base (fun kk h1 => by have := h1.1; show w.heap.size ≤ kk; omega))
          clear hfin hrr hatA hres hexp hok
          go_wp2
          exact bodyPost_ret (v := exV k1 o nn t (.slice ao an ac) p) (by simp [results, Tryz.results104, go_sem, e0, e1, e2, e3, e4, e5, e6, e7]) rfl hend
        case true =>
          obtain ⟨v, r2, rfl, hv1, hv2, hv3⟩ := seesS_cases hse
          obtain ⟨acc, hlf, hacc, hch⟩ : ∃ acc, (v :: r2).length < gk ∧ IsEx (fun x => wX.heap.size ≤ x ∧ x ≠ g7) wA acc (exL k1 o nn t (.slice ao an ac) p) ∧ res = Px.ats E gk acc (v :: r2) := by
            rcases hatA.out with ⟨acc, l2, h1, h2, h3, h4⟩ | ⟨fl, h1, _⟩
            · simp at h1; subst h1; exact ⟨acc, h2, h3, h4⟩
            · simp at h1
          clear hatA hfin
          obtain ⟨F', rfl⟩ : ∃ F', gk = F' + 1 := ⟨gk - 1, by omega⟩
          have hrr : Aside (res = Px.bind (E r2) fun x l1 => Px.bind (Px.need [93] l1) fun _ l2 => Px.ats E F' (.mk 12 0 0 [] [acc, x] v.place) l2) := by
            show _ = _
            rw [hch]; simp only [Px.ats]
            rw [if_pos hv3]; rfl
          clear hch
          have hgd : Px.Good (v :: r2) := hRA.1
          obtain ⟨N', hN', hr'⟩ := hRA.2
          obtain ⟨hu, hN2, hlt⟩ := drop_head hN'
          have hltI : (N' : Int) < (ts.length : Int) := by omega
          have hg2r : Px.Good r2 := hgd.tail (by omega)
          have hlt2 : N' + 1 < ts.length := by
            rcases Nat.lt_or_ge (N' + 1) ts.length with h | h
            · exact h
            · rw [List.drop_eq_nil_of_le h] at hN2; subst hN2; exact absurd hg2r (by simp [Px.Good])
          obtain ⟨c0, c1, c2, c3, f1, f2, f3⟩ := hr'.cells
          obtain ⟨x0, x1, x2, x3⟩ := hr'.row N' v hu
          have hbb := hr'.there
          have hgl' := hr'.gl
          have hfew := hr'.few
          go_upto_region 14 with fail
          go_region
          have hbB : Below wA.heap.size wA wA.drew := ⟨rfl, rfl, rfl, Nat.le_refl _, fun _ _ => rfl⟩
          have hl7 := hEA.any.lt
          have hrB := hr'.same hbB
          have hEB : E8 g7 wA.drew k1 o nn t (.slice ao an ac) p := (hbB.block g7 hl7).trans hEA
          have hsB := hsA.fr (Fr.of_below (b := b) hbB) hg2
          have hfB := hfA.trans (Fr.of_below (b := b) hbB)
          have haB := hacc.since (Since.of_below hbB)
          clear c0 c1 c2 c3 f1 f2 f3 x0 x1 x2 x3 hRA hEA hsA hfA hacc hr' hbB hbb hgl' hl7
          generalize wA.drew = wB at *
          obtain ⟨c0, c1, c2, c3, f1, f2, f3⟩ := hrB.cells
          have hbB := hrB.there
          have hRC : RS b ga ca ts (.inl r2) (wB.setCell ⟨b, 1, none⟩ (.int .i64 ((N' : Int) + 1))) := ⟨hg2r, N' + 1, hN2, hrB.fr (Fr.set 1 _) ((set_blk hrB.blk).1 _) hlt2⟩
          have hEC := hEB.fr (Fr.set (b := b) 1 (.int .i64 ((N' : Int) + 1))) hg7
          have hsC := hsB.fr (Fr.set (b := b) 1 (.int .i64 ((N' : Int) + 1))) hg2
          have hfC := hfB.trans (Fr.set (b := b) 1 (.int .i64 ((N' : Int) + 1)))
          have haC := haB.since (w' := wB.setCell ⟨b, 1, none⟩ (.int .i64 ((N' : Int) + 1))) ⟨by simp [World.setCell], fun kk h1 h2 => (Fr.set (b := b) 1 (.int .i64 ((N' : Int) + 1))).block kk h2 (by have := h1.1; omega)⟩
          go_wp2_with fail
          generalize wB.setCell ⟨b, 1, none⟩ (.int .i64 ((N' : Int) + 1)) = wC at *
          clear c0 c1 c2 c3 f1 f2 f3 hrB hEB hsB hfB haB hbB
          refine (hexp _ wC hRC).mono ?_
          rintro e wD ⟨k2, o2, n2, t2, ao2, an2, ac2, p2, rfl, hRD, hgD, hvD⟩
          have hl7C := hEC.any.lt
          have hED := hEC.fr hgD hg7
          have hsD := hsC.fr hgD hg2
          have hfD := hfC.trans hgD
          have haD := haC.since (w' := wD) ⟨hgD.size, fun kk h1 h2 => hgD.block kk h2 (by have := h1.1; omega)⟩
          have hszD := hgD.size
          clear hRC hEC hsC hfC haC hgD hexp
          have hE8 := E8.new wD k2 o2 n2 t2 (.slice ao2 an2 ac2) p2
          have hbE : Below wD.heap.size wD (wD.alloc (.cells #[.int .i64 k2, .int .i64 o2, .int .i64 n2, .string ⟨t2.toArray⟩, .int .i64 0, .string ⟨#[]⟩, .slice ao2 an2 ac2, .int .i64 p2] 51)) := (Below.refl _ _).alloc (Nat.le_refl _) _
          have hl7D := hED.any.lt
          have hRE := hRD.below hbE
          have hEE : E8 g7 (wD.alloc (.cells #[.int .i64 k2, .int .i64 o2, .int .i64 n2, .string ⟨t2.toArray⟩, .int .i64 0, .string ⟨#[]⟩, .slice ao2 an2 ac2, .int .i64 p2] 51)) k1 o nn t (.slice ao an ac) p := (hbE.block g7 hl7D).trans hED
          have hsE := hsD.fr (Fr.of_below (b := b) hbE) hg2
          have hfE := hfD.trans (Fr.of_below (b := b) hbE)
          have haE := haD.since (Since.of_below hbE)
          have hvE : ∀ e l', lift E (.inl r2) = .inl (e, l') → IsEx (fun x => wX.heap.size ≤ x ∧ x ≠ g7) (wD.alloc (.cells #[.int .i64 k2, .int .i64 o2, .int .i64 n2, .string ⟨t2.toArray⟩, .int .i64 0, .string ⟨#[]⟩, .slice ao2 an2 ac2, .int .i64 p2] 51)) e (exL k2 o2 n2 t2 (.slice ao2 an2 ac2) p2) := fun e l' he => ((hvD e l' he).low (fun kk h1 h2 => ⟨by have : wC.heap.size ≤ kk := h1; omega, by have : wC.heap.size ≤ kk := h1; omega⟩)).since (Since.of_below hbE)
          have hbD := (hRD.at).choose_spec.choose_spec.choose_spec.1.there
          have hgD := (hRD.at).choose_spec.choose_spec.choose_spec.1.gl
          have hg8 : wD.heap.size ≠ b := by omega
          have hX8 : wX.heap.size ≤ wD.heap.size := by omega
          have hg78 : g7 < wD.heap.size := hl7D
          go_wp2_with fail
          generalize (wD.alloc (.cells #[.int .i64 k2, .int .i64 o2, .int .i64 n2, .string ⟨t2.toArray⟩, .int .i64 0, .string ⟨#[]⟩, .slice ao2 an2 ac2, .int .i64 p2] 51)) = wE at *
          clear hRD hED hsD hfD haD hvD hbE hbD hgD
          generalize wD.heap.size = g8 at *
          refine (need_any b ga ca ts _ [93] wE hRE).mono ?_
          rintro e wG ⟨rfl, hRG, hgG⟩
          have hl7E := hEE.any.lt
          have hEG := hEE.fr hgG hg7
          have h8G := hE8.fr hgG hg8
          have hsG := hsE.fr hgG hg2
          have hfG := hfE.trans hgG
          have hsin : Since (fun x => wX.heap.size ≤ x ∧ x ≠ g7) wE wG := ⟨hgG.size, fun kk h1 h2 => hgG.block kk h2 (by have := h1.1; omega)⟩
          have haG := haE.since hsin
          have hvG : ∀ e l', lift E (.inl r2) = .inl (e, l') → IsEx (fun x => wX.heap.size ≤ x ∧ x ≠ g7) wG e (exL k2 o2 n2 t2 (.slice ao2 an2 ac2) p2) := fun e l' he => (hvE e l' he).since hsin
          clear hRE hEE hE8 hsE hfE haE hvE hsin hgG
          obtain ⟨y0, y1, y2, y3, y4, y5, y6, y7⟩ := hEG.cells
          obtain ⟨q0, q1, q2, q3, q4, q5, q6, q7⟩ := h8G.cells
          have hl7G := hEG.any.lt
          have hl8G := h8G.any.lt
          obtain ⟨_, _, _, _, _, _, _, _, _, _, _, _, _, _, _, _, j0, j1, j2, j3, j4, j5, j6, j7⟩ := hEG.any.cells
          go_wp2
          obtain ⟨hR9, hE9, hs9, hf9, hx9⟩ := ats_mem (P := fun x => wX.heap.size ≤ x ∧ x ≠ g7) hg7 hg7a hg67 ⟨by omega, by omega⟩ (fun h => h.2 rfl) hRG hEG hsG hfG rfl
          go_roundg F'
          case measure => omega
          case rel =>
            refine ⟨v.place, _, 12, 0, 0, [], _, 2, 2, v.place, rfl, hR9, hE9, hs9, hf9, ?_⟩
            show AtsAt _ _ _ _ _ _ _
            unfold AtsAt
            have hr2 := hrr.out
            simp only [lift] at hvG
            rcases hqr : E r2 with ⟨x, l1⟩ | fl
            · have ha := (hok r2 hg2r).ok x l1 hqr
              rw [hqr] at hr2
              simp only [lift, hqr, st, needS, Px.bind] at hr2 ⊢
              rcases hnd : Px.need [93] l1 with ⟨y, l2⟩ | fl
              · have hb := (Px.need_res ha.good).ok y l2 hnd
                have h1 := ha.less
                have h2 := hb.less
                simp at hlf
                rw [hnd] at hr2
                exact Or.inl ⟨_, l2, rfl, by omega, hx9 _ x haG (hvG x l1 hqr), hr2⟩
              · rw [hnd] at hr2
                exact Or.inr ⟨fl, rfl, hr2⟩
            · rw [hqr] at hr2
              refine Or.inr ⟨fl, ?_, hr2⟩
              simp only [lift, hqr, st, needS]
end Go.Proofs.YtnmdnjdibdmodaaGreatDoor
/- What stands by itself, in the document: numbers, texts, truths, round brackets. -/
namespace Go.Proofs.YtnmdnjdibdmodaaGreatDoor
open Go.RowKit
set_option linter.unusedSimpArgs false
set_option linter.unusedVariables false

theorem leaf_ex (P : Nat → Prop) (w : World) (k n p : Nat) (t : Lx.B) : IsEx P w (.mk k 0 n t [] p) (exL k 0 n t (.slice none 0 0) p) := by
  rw [IsEx]
  exact ⟨.slice none 0 0, [], rfl, ⟨rfl, Or.inl ⟨rfl, rfl⟩⟩, by rw [AllEx]⟩
set_option maxRecDepth 100000 in
set_option maxHeartbeats 16000000 in
theorem primary_lit (b ga ca : Nat) (ts : List Lx.Tok) (d : Nat) (hd : d ≤ 24) (E : Px.P Px.Ex)
    (hexp : ∀ (S : RSt) (w : World), RS b ga ca ts S w → Calls Tryz.prog 79 #[.pointer (some ⟨b, 0, none⟩), .int .i64 ((d : Int) + 1)] w fun r w' => EP b ga ca ts E S w r w')
    (u : Lx.Tok) (rr : List Lx.Tok) (w : World) (h : RS b ga ca ts (.inl (u :: rr)) w)
    (hh : u.kind = 2 ∨ u.kind = 3 ∨ Px.sees 1 [116, 114, 117, 101] (u :: rr) = true ∨ Px.sees 1 [102, 97, 108, 115, 101] (u :: rr) = true ∨ Px.sees 4 [40] (u :: rr) = true) :
    Calls Tryz.prog 114 #[.pointer (some ⟨b, 0, none⟩), .int .i64 d] w fun r w' => EP b ga ca ts (Px.primary E) (.inl (u :: rr)) w r w' := by
  have hwr : IntKind.i64.wrap ((d : Int) + 1) = (d : Int) + 1 := IntWalk.i64_in _ (by omega)
  have hg : Px.Good (u :: rr) := h.1
  have hbl := (h.at).choose_spec.choose_spec.choose_spec.1.there
  have hgl := (h.at).choose_spec.choose_spec.choose_spec.1.gl
  have hb0 : Below w.heap.size w (w.alloc zeroEx) := (Below.refl _ _).alloc (Nat.le_refl _) _
  have hs0 := E8any.new w
  have hR0 := h.below hb0
  have hf0 : Fr b w (w.alloc zeroEx) := Fr.of_below hb0
  have hg2 : w.heap.size ≠ b := by omega
  have hg2a : w.heap.size ≠ ga := by omega
  have hsz0 : w.heap.size < (w.alloc zeroEx).heap.size := by simp
  obtain ⟨Nl, hNl, hr1⟩ := hR0.2
  obtain ⟨hu, hN2, hlt⟩ := drop_head hNl
  have hltI : (Nl : Int) < (ts.length : Int) := by omega
  go_enter Tryz.func114, Tryz.ntmps114
  go_upto_region 1 with fail
  generalize w.alloc zeroEx = w0 at *
  obtain ⟨c0, c1, c2, c3, f1, f2, f3⟩ := hr1.cells
  obtain ⟨x0, x1, x2, x3⟩ := hr1.row Nl u hu
  have hb3 := hr1.there
  have hgl3 := hr1.gl
  have hfew := hr1.few
  clear hb0 h
  go_region
  have hbA : Below w0.heap.size w0 ((w0.alloc (.cells #[.int .i64 u.kind, .string ⟨u.text.toArray⟩, .int .i64 u.num, .int .i64 u.place] 39)).drew) := ((Below.refl _ _).alloc (Nat.le_refl _) _).trans ⟨rfl, rfl, rfl, Nat.le_refl _, fun _ _ => rfl⟩
  have d0 : ((w0.alloc (.cells #[.int .i64 u.kind, .string ⟨u.text.toArray⟩, .int .i64 u.num, .int .i64 u.place] 39)).drew).cell? ⟨w0.heap.size, 0, none⟩ = some (.int .i64 u.kind) := by simp
  have d1 : ((w0.alloc (.cells #[.int .i64 u.kind, .string ⟨u.text.toArray⟩, .int .i64 u.num, .int .i64 u.place] 39)).drew).cell? ⟨w0.heap.size, 1, none⟩ = some (.string ⟨u.text.toArray⟩) := by simp
  have d2 : ((w0.alloc (.cells #[.int .i64 u.kind, .string ⟨u.text.toArray⟩, .int .i64 u.num, .int .i64 u.place] 39)).drew).cell? ⟨w0.heap.size, 2, none⟩ = some (.int .i64 u.num) := by simp
  have d3 : ((w0.alloc (.cells #[.int .i64 u.kind, .string ⟨u.text.toArray⟩, .int .i64 u.num, .int .i64 u.place] 39)).drew).cell? ⟨w0.heap.size, 3, none⟩ = some (.int .i64 u.place) := by simp
  have d4 : w0.heap.size < ((w0.alloc (.cells #[.int .i64 u.kind, .string ⟨u.text.toArray⟩, .int .i64 u.num, .int .i64 u.place] 39)).drew).heap.size := by simp
  have hRA := hR0.below hbA
  have hrA := hr1.same hbA
  have hsA := hs0.fr (Fr.of_below (b := b) hbA) hg2
  have hfA := hf0.trans (Fr.of_below (b := b) hbA)
  have hgT : w0.heap.size ≠ b := by omega
  have hgT2 : w0.heap.size ≠ w.heap.size := by omega
  have hgT3 : w.heap.size < w0.heap.size := hsz0
  clear c0 c1 c2 c3 f1 f2 f3 x0 x1 x2 x3 hbA hR0 hs0 hf0 hr1 hb3 hgl3 hsz0
  generalize ((w0.alloc (.cells #[.int .i64 u.kind, .string ⟨u.text.toArray⟩, .int .i64 u.num, .int .i64 u.place] 39)).drew) = wA at *
  generalize w0.heap.size = gT at *
  by_cases h2 : u.kind = 2
  · have hkI : ((u.kind : Int) == 2) = true := by simp; omega
    have hg2r : Px.Good rr := hg.tail (by omega)
    have hlt2 : Nl + 1 < ts.length := by
      rcases Nat.lt_or_ge (Nl + 1) ts.length with h | h
      · exact h
      · rw [List.drop_eq_nil_of_le h] at hN2; subst hN2; exact absurd hg2r (by simp [Px.Good])
    obtain ⟨c0, c1, c2, c3, f1, f2, f3⟩ := hrA.cells
    have hbA := hrA.there
    have hRC : RS b ga ca ts (.inl rr) (wA.setCell ⟨b, 1, none⟩ (.int .i64 ((Nl : Int) + 1))) := ⟨hg2r, Nl + 1, hN2, hrA.fr (Fr.set 1 _) ((set_blk hrA.blk).1 _) hlt2⟩
    have hsC := hsA.fr (Fr.set (b := b) 1 (.int .i64 ((Nl : Int) + 1))) hg2
    have hfC := hfA.trans (Fr.set (b := b) 1 (.int .i64 ((Nl : Int) + 1)))
    obtain ⟨_, _, _, _, _, _, _, _, a0, a1, a2, a3, a4, a5, a6, a7, b0, b1, b2, b3, b4, b5, b6, b7⟩ := hsA.cells
    have hlA := hsA.lt
    obtain ⟨x0, x1, x2, x3, x4, x5, x6, x7, e0, e1, e2, e3, e4, e5, e6, e7, k0, k1, k2, k3, k4, k5, k6, k7⟩ := hsC.cells
    have hl6 := hsC.lt
    have hU : lift (Px.primary E) (.inl (u :: rr)) = .inl (.mk 1 0 u.num [] [] u.place, rr) := by
      simp only [lift, Px.primary]
      rw [if_pos h2]
    go_wp2
    exact bodyPost_ret (v := exV 1 0 u.num [] (.slice none 0 0) u.place) (by simp [results, Tryz.results114, go_sem, e0, e1, e2, e3, e4, e5, e6, e7]) rfl
      ⟨1, 0, u.num, [], none, 0, 0, u.place, rfl, by rw [hU]; exact hRC.set8 hg2 hg2a _ _ _ _ _ _ _ _, hfC.set8 (Nat.le_refl _) _ _ _ _ _ _ _ _, fun e l' he => by
        rw [hU] at he
        simp at he
        rw [← he.1]
        exact leaf_ex _ _ _ _ _ _⟩
  by_cases h3 : u.kind = 3
  · have hkI : ((u.kind : Int) == 2) = false := by simp; omega
    have hkJ : ((u.kind : Int) == 3) = true := by simp; omega
    have hg2r : Px.Good rr := hg.tail (by omega)
    have hlt2 : Nl + 1 < ts.length := by
      rcases Nat.lt_or_ge (Nl + 1) ts.length with h | h
      · exact h
      · rw [List.drop_eq_nil_of_le h] at hN2; subst hN2; exact absurd hg2r (by simp [Px.Good])
    obtain ⟨c0, c1, c2, c3, f1, f2, f3⟩ := hrA.cells
    have hbA := hrA.there
    have hRC : RS b ga ca ts (.inl rr) (wA.setCell ⟨b, 1, none⟩ (.int .i64 ((Nl : Int) + 1))) := ⟨hg2r, Nl + 1, hN2, hrA.fr (Fr.set 1 _) ((set_blk hrA.blk).1 _) hlt2⟩
    have hsC := hsA.fr (Fr.set (b := b) 1 (.int .i64 ((Nl : Int) + 1))) hg2
    have hfC := hfA.trans (Fr.set (b := b) 1 (.int .i64 ((Nl : Int) + 1)))
    obtain ⟨_, _, _, _, _, _, _, _, a0, a1, a2, a3, a4, a5, a6, a7, b0, b1, b2, b3, b4, b5, b6, b7⟩ := hsA.cells
    have hlA := hsA.lt
    obtain ⟨x0, x1, x2, x3, x4, x5, x6, x7, e0, e1, e2, e3, e4, e5, e6, e7, k0, k1, k2, k3, k4, k5, k6, k7⟩ := hsC.cells
    have hl6 := hsC.lt
    have hU : lift (Px.primary E) (.inl (u :: rr)) = .inl (.mk 3 0 0 u.text [] u.place, rr) := by
      simp only [lift, Px.primary]
      rw [if_neg h2, if_pos h3]
    go_wp2
    exact bodyPost_ret (v := exV 3 0 0 u.text (.slice none 0 0) u.place) (by simp [results, Tryz.results114, go_sem, e0, e1, e2, e3, e4, e5, e6, e7]) rfl
      ⟨3, 0, 0, u.text, none, 0, 0, u.place, rfl, by rw [hU]; exact hRC.set8 hg2 hg2a _ _ _ _ _ _ _ _, hfC.set8 (Nat.le_refl _) _ _ _ _ _ _ _ _, fun e l' he => by
        rw [hU] at he
        simp at he
        rw [← he.1]
        exact leaf_ex _ _ _ _ _ _⟩
  have hkI : ((u.kind : Int) == 2) = false := by simp; omega
  have hkJ : ((u.kind : Int) == 3) = false := by simp; omega
  go_wp2_with fail
  refine (got_any b ga ca ts (.inl (u :: rr)) 1 [116, 114, 117, 101] wA (by decide) hRA).mono ?_
  rintro e wB ⟨rfl, hRB, hgB⟩
  have hsB := hsA.fr hgB hg2
  have hfB := hfA.trans hgB
  have hlTB : gT < wB.heap.size := by have := hgB.size; omega
  have dB1 := (hgB.cell d4 hgT).trans d1
  have dB3 := (hgB.cell d4 hgT).trans d3
  clear hRA hrA hsA hfA d0 d1 d2 d3 d4 hgB
  rcases hst : seesS 1 [116, 114, 117, 101] (.inl (u :: rr)) with _ | _
  case true =>
    have hsee : Px.sees 1 [116, 114, 117, 101] (u :: rr) = true := hst
    have e1 : gotS 1 [116, 114, 117, 101] (.inl (u :: rr)) = .inl rr := by simp only [gotS]; rw [if_pos hsee]; rfl
    rw [e1] at hRB
    clear e1
    obtain ⟨x0, x1, x2, x3, x4, x5, x6, x7, e0, e1, e2, e3, e4, e5, e6, e7, k0, k1, k2, k3, k4, k5, k6, k7⟩ := hsB.cells
    have hl6 := hsB.lt
    have hU : lift (Px.primary E) (.inl (u :: rr)) = .inl (.mk 2 0 1 [] [] u.place, rr) := by
      simp only [lift, Px.primary]
      rw [if_neg h2, if_neg h3, if_pos hsee]
    go_wp2
    exact bodyPost_ret (v := exV 2 0 1 [] (.slice none 0 0) u.place) (by simp [results, Tryz.results114, go_sem, e0, e1, e2, e3, e4, e5, e6, e7]) rfl
      ⟨2, 0, 1, [], none, 0, 0, u.place, rfl, by rw [hU]; exact hRB.set8 hg2 hg2a _ _ _ _ _ _ _ _, hfB.set8 (Nat.le_refl _) _ _ _ _ _ _ _ _, fun e l' he => by
        rw [hU] at he
        simp at he
        rw [← he.1]
        exact leaf_ex _ _ _ _ _ _⟩
  case false =>
  rw [gotS_no hst] at hRB
  have hst' : ¬ Px.sees 1 [116, 114, 117, 101] (u :: rr) = true := by rw [show Px.sees 1 [116, 114, 117, 101] (u :: rr) = false from hst]; simp
  go_wp2_with fail
  refine (got_any b ga ca ts (.inl (u :: rr)) 1 [102, 97, 108, 115, 101] wB (by decide) hRB).mono ?_
  rintro e wC ⟨rfl, hRC, hgC⟩
  have hsC := hsB.fr hgC hg2
  have hfC := hfB.trans hgC
  have hlTC : gT < wC.heap.size := by have := hgC.size; omega
  have dC1 := (hgC.cell hlTB hgT).trans dB1
  have dC3 := (hgC.cell hlTB hgT).trans dB3
  clear hRB hsB hfB hlTB dB1 dB3 hgC
  rcases hsf : seesS 1 [102, 97, 108, 115, 101] (.inl (u :: rr)) with _ | _
  case true =>
    have hsee : Px.sees 1 [102, 97, 108, 115, 101] (u :: rr) = true := hsf
    have e1 : gotS 1 [102, 97, 108, 115, 101] (.inl (u :: rr)) = .inl rr := by simp only [gotS]; rw [if_pos hsee]; rfl
    rw [e1] at hRC
    clear e1
    obtain ⟨x0, x1, x2, x3, x4, x5, x6, x7, e0, e1, e2, e3, e4, e5, e6, e7, k0, k1, k2, k3, k4, k5, k6, k7⟩ := hsC.cells
    have hl6 := hsC.lt
    have hU : lift (Px.primary E) (.inl (u :: rr)) = .inl (.mk 2 0 0 [] [] u.place, rr) := by
      simp only [lift, Px.primary]
      rw [if_neg h2, if_neg h3, if_neg hst', if_pos hsee]
    go_wp2
    exact bodyPost_ret (v := exV 2 0 0 [] (.slice none 0 0) u.place) (by simp [results, Tryz.results114, go_sem, e0, e1, e2, e3, e4, e5, e6, e7]) rfl
      ⟨2, 0, 0, [], none, 0, 0, u.place, rfl, by rw [hU]; exact hRC.set8 hg2 hg2a _ _ _ _ _ _ _ _, hfC.set8 (Nat.le_refl _) _ _ _ _ _ _ _ _, fun e l' he => by
        rw [hU] at he
        simp at he
        rw [← he.1]
        exact leaf_ex _ _ _ _ _ _⟩
  case false =>
  rw [gotS_no hsf] at hRC
  have hsf' : ¬ Px.sees 1 [102, 97, 108, 115, 101] (u :: rr) = true := by rw [show Px.sees 1 [102, 97, 108, 115, 101] (u :: rr) = false from hsf]; simp
  have hsb : Px.sees 4 [40] (u :: rr) = true := by
    rcases hh with h | h | h | h | h
    · exact absurd h h2
    · exact absurd h h3
    · exact absurd h hst'
    · exact absurd h hsf'
    · exact h
  have hU : lift (Px.primary E) (.inl (u :: rr)) = Px.bind (E rr) fun x l1 => Px.bind (Px.need [41] l1) fun _ l2 => .inl (x, l2) := by
    simp only [lift, Px.primary]
    rw [if_neg h2, if_neg h3, if_neg hst', if_neg hsf', if_pos hsb]
  go_wp2_with fail
  refine (got_any b ga ca ts (.inl (u :: rr)) 4 [40] wC (by decide) hRC).mono ?_
  rintro e wD ⟨rfl, hRD, hgD⟩
  have e1 : gotS 4 [40] (.inl (u :: rr)) = .inl rr := by simp only [gotS]; rw [if_pos hsb]; rfl
  have hse : seesS 4 [40] (.inl (u :: rr)) = true := hsb
  rw [e1] at hRD
  rw [hse]
  have hsD := hsC.fr hgD hg2
  have hfD := hfC.trans hgD
  clear hRC hsC hfC hlTC dC1 dC3 hgD e1 hse
  go_wp2_with fail
  refine (hexp _ wD hRD).mono ?_
  rintro e wE ⟨k2, o2, n2, t2, ao2, an2, ac2, p2, rfl, hRE, hgE, hvE⟩
  have hsE := hsD.fr hgE hg2
  have hfE := hfD.trans hgE
  have hlD := hsD.lt
  have hlE := hsE.lt
  clear hRD hsD hfD hgE hexp
  have hE8 := E8.new wE k2 o2 n2 t2 (.slice ao2 an2 ac2) p2
  have hbF : Below wE.heap.size wE (wE.alloc (.cells #[.int .i64 k2, .int .i64 o2, .int .i64 n2, .string ⟨t2.toArray⟩, .int .i64 0, .string ⟨#[]⟩, .slice ao2 an2 ac2, .int .i64 p2] 51)) := (Below.refl _ _).alloc (Nat.le_refl _) _
  have hRF := hRE.below hbF
  have hsF := hsE.fr (Fr.of_below (b := b) hbF) hg2
  have hfF := hfE.trans (Fr.of_below (b := b) hbF)
  have hvF : ∀ e l', lift E (.inl rr) = .inl (e, l') → IsEx (From wD.heap.size) (wE.alloc (.cells #[.int .i64 k2, .int .i64 o2, .int .i64 n2, .string ⟨t2.toArray⟩, .int .i64 0, .string ⟨#[]⟩, .slice ao2 an2 ac2, .int .i64 p2] 51)) e (exL k2 o2 n2 t2 (.slice ao2 an2 ac2) p2) := fun e l' he => (hvE e l' he).since (Since.of_below hbF)
  have hbE := (hRE.at).choose_spec.choose_spec.choose_spec.1.there
  have hg8 : wE.heap.size ≠ b := by omega
  have hg68 : w.heap.size ≠ wE.heap.size := by omega
  have hbD : b < wD.heap.size := by
    rcases Nat.lt_or_ge b wD.heap.size with h | h
    · exact h
    · exact absurd hlD (by omega)
  go_wp2_with fail
  generalize (wE.alloc (.cells #[.int .i64 k2, .int .i64 o2, .int .i64 n2, .string ⟨t2.toArray⟩, .int .i64 0, .string ⟨#[]⟩, .slice ao2 an2 ac2, .int .i64 p2] 51)) = wF at *
  clear hRE hsE hfE hvE hbF hbE hlE
  generalize wE.heap.size = g8 at *
  refine (need_any b ga ca ts _ [41] wF hRF).mono ?_
  rintro e wG ⟨rfl, hRG, hgG⟩
  have h8G := hE8.fr hgG hg8
  have hsG := hsF.fr hgG hg2
  have hfG := hfF.trans hgG
  have hvG : ∀ e l', lift E (.inl rr) = .inl (e, l') → IsEx (From wD.heap.size) wG e (exL k2 o2 n2 t2 (.slice ao2 an2 ac2) p2) := fun e l' he => (hvF e l' he).since ⟨hgG.size, fun kk h1 h2 => hgG.block kk h2 (by have : wD.heap.size ≤ kk := h1; omega)⟩
  clear hRF hE8 hsF hfF hvF hgG
  obtain ⟨q0, q1, q2, q3, q4, q5, q6, q7⟩ := h8G.cells
  have hl8G := h8G.any.lt
  obtain ⟨x0, x1, x2, x3, x4, x5, x6, x7, e0, e1, e2, e3, e4, e5, e6, e7, m0, m1, m2, m3, m4, m5, m6, m7⟩ := hsG.cells
  have hl6 := hsG.lt
  go_wp2
  exact bodyPost_ret (v := exV k2 o2 n2 t2 (.slice ao2 an2 ac2) p2) (by simp [results, Tryz.results114, go_sem, e0, e1, e2, e3, e4, e5, e6, e7]) rfl
    ⟨k2, o2, n2, t2, ao2, an2, ac2, p2, rfl, by
      have hS : st (lift (Px.primary E) (.inl (u :: rr))) = needS [41] (st (lift E (.inl rr))) := by
        rw [hU]
        simp only [lift]
        rcases E rr with ⟨x, l1⟩ | fl
        · simp only [Px.bind, needS, st, lift]
          rcases Px.need [41] l1 with ⟨y, l2⟩ | fl <;> rfl
        · rfl
      rw [hS]; exact hRG.set8 hg2 hg2a _ _ _ _ _ _ _ _, hfG.set8 (Nat.le_refl _) _ _ _ _ _ _ _ _, fun e l' he => by
      rw [hU] at he
      simp only [lift] at hvG
      rcases hq : E rr with ⟨x, l1⟩ | fl
      · rw [hq] at he
        simp only [Px.bind] at he
        rcases hn : Px.need [41] l1 with ⟨y, l2⟩ | fl
        · rw [hn] at he
          simp at he
          rw [← he.1]
          exact ((hvG x l1 hq).since (Since.set8 hlD _ _ _ _ _ _ _ _)).base (from_mono (by omega))
        · rw [hn] at he; simp at he
      · rw [hq] at he; simp [Px.bind] at he⟩
end Go.Proofs.YtnmdnjdibdmodaaGreatDoor
/- What stands by itself, in the document: names. -/
namespace Go.Proofs.YtnmdnjdibdmodaaGreatDoor
open Go.RowKit
set_option linter.unusedSimpArgs false
set_option linter.unusedVariables false

set_option maxRecDepth 100000 in
set_option maxHeartbeats 16000000 in
theorem primary_noc (b ga ca : Nat) (ts : List Lx.Tok) (d : Nat) (hd : d ≤ 24) (E : Px.P Px.Ex)
    (u : Lx.Tok) (rr : List Lx.Tok) (w : World) (h : RS b ga ca ts (.inl (u :: rr)) w)
    (h2 : ¬ u.kind = 2) (h3 : ¬ u.kind = 3) (hst : Px.sees 1 [116, 114, 117, 101] (u :: rr) = false) (hsf : Px.sees 1 [102, 97, 108, 115, 101] (u :: rr) = false) (hsb : Px.sees 4 [40] (u :: rr) = false)
    (hnc : seesS 4 [40] (st (lift Px.name (.inl (u :: rr)))) = false) :
    Calls Tryz.prog 114 #[.pointer (some ⟨b, 0, none⟩), .int .i64 d] w fun r w' => EP b ga ca ts (Px.primary E) (.inl (u :: rr)) w r w' := by
  have hwr : IntKind.i64.wrap ((d : Int) + 1) = (d : Int) + 1 := IntWalk.i64_in _ (by omega)
  have hg : Px.Good (u :: rr) := h.1
  have hbl := (h.at).choose_spec.choose_spec.choose_spec.1.there
  have hgl := (h.at).choose_spec.choose_spec.choose_spec.1.gl
  have hb0 : Below w.heap.size w (w.alloc zeroEx) := (Below.refl _ _).alloc (Nat.le_refl _) _
  have hs0 := E8any.new w
  have hR0 := h.below hb0
  have hf0 : Fr b w (w.alloc zeroEx) := Fr.of_below hb0
  have hg2 : w.heap.size ≠ b := by omega
  have hg2a : w.heap.size ≠ ga := by omega
  have hsz0 : w.heap.size < (w.alloc zeroEx).heap.size := by simp
  obtain ⟨Nl, hNl, hr1⟩ := hR0.2
  obtain ⟨hu, hN2, hlt⟩ := drop_head hNl
  have hltI : (Nl : Int) < (ts.length : Int) := by omega
  go_enter Tryz.func114, Tryz.ntmps114
  go_upto_region 1 with fail
  generalize w.alloc zeroEx = w0 at *
  obtain ⟨c0, c1, c2, c3, f1, f2, f3⟩ := hr1.cells
  obtain ⟨x0, x1, x2, x3⟩ := hr1.row Nl u hu
  have hb3 := hr1.there
  have hgl3 := hr1.gl
  have hfew := hr1.few
  clear hb0 h
  go_region
  have hbA : Below w0.heap.size w0 ((w0.alloc (.cells #[.int .i64 u.kind, .string ⟨u.text.toArray⟩, .int .i64 u.num, .int .i64 u.place] 39)).drew) := ((Below.refl _ _).alloc (Nat.le_refl _) _).trans ⟨rfl, rfl, rfl, Nat.le_refl _, fun _ _ => rfl⟩
  have d0 : ((w0.alloc (.cells #[.int .i64 u.kind, .string ⟨u.text.toArray⟩, .int .i64 u.num, .int .i64 u.place] 39)).drew).cell? ⟨w0.heap.size, 0, none⟩ = some (.int .i64 u.kind) := by simp
  have d1 : ((w0.alloc (.cells #[.int .i64 u.kind, .string ⟨u.text.toArray⟩, .int .i64 u.num, .int .i64 u.place] 39)).drew).cell? ⟨w0.heap.size, 1, none⟩ = some (.string ⟨u.text.toArray⟩) := by simp
  have d2 : ((w0.alloc (.cells #[.int .i64 u.kind, .string ⟨u.text.toArray⟩, .int .i64 u.num, .int .i64 u.place] 39)).drew).cell? ⟨w0.heap.size, 2, none⟩ = some (.int .i64 u.num) := by simp
  have d3 : ((w0.alloc (.cells #[.int .i64 u.kind, .string ⟨u.text.toArray⟩, .int .i64 u.num, .int .i64 u.place] 39)).drew).cell? ⟨w0.heap.size, 3, none⟩ = some (.int .i64 u.place) := by simp
  have d4 : w0.heap.size < ((w0.alloc (.cells #[.int .i64 u.kind, .string ⟨u.text.toArray⟩, .int .i64 u.num, .int .i64 u.place] 39)).drew).heap.size := by simp
  have hRA := hR0.below hbA
  have hrA := hr1.same hbA
  have hsA := hs0.fr (Fr.of_below (b := b) hbA) hg2
  have hfA := hf0.trans (Fr.of_below (b := b) hbA)
  have hgT : w0.heap.size ≠ b := by omega
  have hgT2 : w0.heap.size ≠ w.heap.size := by omega
  have hgT3 : w.heap.size < w0.heap.size := hsz0
  clear c0 c1 c2 c3 f1 f2 f3 x0 x1 x2 x3 hbA hR0 hs0 hf0 hr1 hb3 hgl3 hsz0
  generalize ((w0.alloc (.cells #[.int .i64 u.kind, .string ⟨u.text.toArray⟩, .int .i64 u.num, .int .i64 u.place] 39)).drew) = wA at *
  generalize w0.heap.size = gT at *
  have hkI : ((u.kind : Int) == 2) = false := by simp; omega
  have hkJ : ((u.kind : Int) == 3) = false := by simp; omega
  have hst1 : seesS 1 [116, 114, 117, 101] (.inl (u :: rr)) = false := hst
  have hsf1 : seesS 1 [102, 97, 108, 115, 101] (.inl (u :: rr)) = false := hsf
  have hsb1 : seesS 4 [40] (.inl (u :: rr)) = false := hsb
  go_wp2_with fail
  refine (got_any b ga ca ts (.inl (u :: rr)) 1 [116, 114, 117, 101] wA (by decide) hRA).mono ?_
  rintro e wB ⟨rfl, hRB, hgB⟩
  rw [gotS_no hst1] at hRB
  rw [hst1]
  go_wp2_with fail
  refine (got_any b ga ca ts (.inl (u :: rr)) 1 [102, 97, 108, 115, 101] wB (by decide) hRB).mono ?_
  rintro e wC ⟨rfl, hRC, hgC⟩
  rw [gotS_no hsf1] at hRC
  rw [hsf1]
  go_wp2_with fail
  refine (got_any b ga ca ts (.inl (u :: rr)) 4 [40] wC (by decide) hRC).mono ?_
  rintro e wD ⟨rfl, hRD, hgD⟩
  rw [gotS_no hsb1] at hRD
  rw [hsb1]
  go_wp2_with fail
  refine (rname_any b ga ca ts (.inl (u :: rr)) wD hRD).mono ?_
  rintro e wE ⟨tk, tt, tm, tp, rfl, hRE, hgE, hvE⟩
  have hgAE : Fr b wA wE := ((hgB.trans hgC).trans hgD).trans hgE
  clear hRB hRC hRD hgB hgC hgD hgE
  go_wp2_with fail
  refine (got_any b ga ca ts _ 4 [40] wE (by decide) hRE).mono ?_
  rintro e wF ⟨rfl, hRF, hgF⟩
  rw [gotS_no hnc] at hRF
  rw [hnc]
  have hgAF : Fr b wA wF := hgAE.trans hgF
  have hsF := hsA.fr hgAF hg2
  have hfF := hfA.trans hgAF
  have hlT : gT < wF.heap.size := by have := hgAF.size; omega
  have dF1 := (hgAF.cell d4 hgT).trans d1
  have dF3 := (hgAF.cell d4 hgT).trans d3
  clear hRA hrA hsA hfA d0 d1 d2 d3 d4 hgAE hgF hgAF hRE
  obtain ⟨x0, x1, x2, x3, x4, x5, x6, x7, e0, e1, e2, e3, e4, e5, e6, e7, k0, k1, k2, k3, k4, k5, k6, k7⟩ := hsF.cells
  have hl6 := hsF.lt
  have hU : lift (Px.primary E) (.inl (u :: rr)) = Px.bind (Px.name (u :: rr)) fun t l1 => .inl (.mk 6 0 0 t.text [] t.place, l1) := by
    simp only [lift, Px.primary]
    rw [if_neg h2, if_neg h3, if_neg (by rw [hst]; simp), if_neg (by rw [hsf]; simp), if_neg (by rw [hsb]; simp)]
    simp only [lift] at hnc
    rcases hn : Px.name (u :: rr) with ⟨v, l1⟩ | fl
    · rw [hn] at hnc
      simp only [Px.bind]
      rw [if_neg (by rw [show Px.sees 4 [40] l1 = false from hnc]; simp)]
    · rfl
  go_wp2
  exact bodyPost_ret (v := exV 6 0 0 u.text (.slice none 0 0) u.place) (by simp [results, Tryz.results114, go_sem, e0, e1, e2, e3, e4, e5, e6, e7]) rfl
    ⟨6, 0, 0, u.text, none, 0, 0, u.place, rfl, by rw [hU, st_bind_one (f := fun t : Lx.Tok => Px.Ex.mk 6 0 0 t.text [] t.place)]; exact hRF.set8 hg2 hg2a _ _ _ _ _ _ _ _, hfF.set8 (Nat.le_refl _) _ _ _ _ _ _ _ _, fun e l' he => by
      rw [hU] at he
      obtain ⟨v, hv, rfl⟩ := bind_one_inl (f := fun t : Lx.Tok => Px.Ex.mk 6 0 0 t.text [] t.place) he
      obtain rfl : v = u := by
        unfold Px.name at hv
        split at hv
        · rename_i t r heq
          obtain ⟨rfl, rfl⟩ : t = u ∧ r = rr := by simp at heq; exact ⟨heq.1.symm, heq.2.symm⟩
          split at hv
          · simp at hv; exact hv.1.symm
          · simp [Px.fail] at hv
        · simp [Px.fail] at hv
      exact leaf_ex _ _ _ _ _ _⟩
end Go.Proofs.YtnmdnjdibdmodaaGreatDoor
/- The document's unary and expr at every depth, over a contract of primary. -/
namespace Go.Proofs.YtnmdnjdibdmodaaGreatDoor
open Go.RowKit
set_option linter.unusedVariables false

/-- What primary answers at a depth, where expr one deeper answers as it should. -/
def PriOk (b ga ca : Nat) (ts : List Lx.Tok) : Prop := ∀ (k d : Nat), d + k = 24 →
  (∀ (S : RSt) (w : World), RS b ga ca ts S w → Calls Tryz.prog 79 #[.pointer (some ⟨b, 0, none⟩), .int .i64 ((d : Int) + 1)] w fun r w' => EP b ga ca ts (Px.lvl (Px.unary k)) S w r w') →
  ∀ (l : List Lx.Tok) (w : World), RS b ga ca ts (.inl l) w → Calls Tryz.prog 114 #[.pointer (some ⟨b, 0, none⟩), .int .i64 d] w fun r w' => EP b ga ca ts (Px.primary (Px.lvl (Px.unary k))) (.inl l) w r w'
theorem deepP_in {d : Nat} (h : d ≤ 24) (q : Px.P Px.Ex) : deepP d q = q := by
  funext l; unfold deepP; rw [if_neg (by omega)]
theorem unary_all {b ga ca : Nat} {ts : List Lx.Tok} (hp : PriOk b ga ca ts) : ∀ (k d : Nat), d + k = 24 → ∀ (S : RSt) (w : World), RS b ga ca ts S w →
    Calls Tryz.prog 104 #[.pointer (some ⟨b, 0, none⟩), .int .i64 d] w fun r w' => EP b ga ca ts (Px.unary (k + 1)) S w r w'
  | 0, d, hd, S, w, h => by
    obtain rfl : d = 24 := by omega
    have hexp : ∀ (S : RSt) (w : World), RS b ga ca ts S w → Calls Tryz.prog 79 #[.pointer (some ⟨b, 0, none⟩), .int .i64 (((24 : Nat) : Int) + 1)] w fun r w' => EP b ga ca ts (Px.lvl (Px.unary 0)) S w r w' := fun S w h => expr_over b ga ca ts S w h
    refine unary_step b ga ca ts 0 24 hd (fun S w h hk => ?_) (hp 0 24 hd hexp) hexp S w h
    obtain ⟨f, rfl⟩ := hk rfl
    exact unary_bad b ga ca ts 25 _ f w h
  | k + 1, d, hd, S, w, h => by
    have hrec := unary_all hp k (d + 1) (by omega)
    have e : ((d + 1 : Nat) : Int) = (d : Int) + 1 := by omega
    have hexp : ∀ (S : RSt) (w : World), RS b ga ca ts S w → Calls Tryz.prog 79 #[.pointer (some ⟨b, 0, none⟩), .int .i64 ((d : Int) + 1)] w fun r w' => EP b ga ca ts (Px.lvl (Px.unary (k + 1))) S w r w' := fun S w h => by
      have := lvl_any b ga ca ts (d + 1) (Px.unary (k + 1)) (Px.unary_ok _) hrec S w h
      rw [deepP_in (by omega), e] at this
      exact this
    rw [e] at hrec
    exact unary_step b ga ca ts (k + 1) d hd (fun S w h _ => hrec S w h) (hp (k + 1) d hd hexp) hexp S w h
/-- expr at every depth up to one too deep. -/
theorem expr_all {b ga ca : Nat} {ts : List Lx.Tok} (hp : PriOk b ga ca ts) (k d : Nat) (hd : d + k = 25) (S : RSt) (w : World) (h : RS b ga ca ts S w) :
    Calls Tryz.prog 79 #[.pointer (some ⟨b, 0, none⟩), .int .i64 d] w fun r w' => EP b ga ca ts (Px.expr k) S w r w' := by
  match k, hd with
  | 0, hd =>
    obtain rfl : d = 25 := by omega
    exact expr_over b ga ca ts S w h
  | k + 1, hd =>
    have := lvl_any b ga ca ts d (Px.unary (k + 1)) (Px.unary_ok _) (unary_all hp k d (by omega)) S w h
    rw [deepP_in (by omega)] at this
    exact this
end Go.Proofs.YtnmdnjdibdmodaaGreatDoor
/- The document's call: one argument more, in memory. -/
namespace Go.Proofs.YtnmdnjdibdmodaaGreatDoor
open Go.RowKit
set_option linter.unusedSimpArgs false
set_option linter.unusedVariables false

theorem RdB.keep {b ga ca : Nat} {ts : List Lx.Tok} {N p er : Nat} {w w' : World} (h : RdB b ga ca ts N p er w) (hb : w'.heap[b]? = w.heap[b]?) (hg : w'.heap[ga]? = w.heap[ga]?) (hs : w.heap.size ≤ w'.heap.size) : RdB b ga ca ts N p er w' := by
  refine ⟨hb.trans h.blk, ?_, by have := h.gl; omega, h.ne, h.lt, h.few⟩
  intro k t hk
  obtain ⟨a1, a2, a3, a4⟩ := h.row k t hk
  exact ⟨(World.cell?_of_block (w := w) hg).trans a1, (World.cell?_of_block (w := w) hg).trans a2, (World.cell?_of_block (w := w) hg).trans a3, (World.cell?_of_block (w := w) hg).trans a4⟩
theorem RS.keep {b ga ca : Nat} {ts : List Lx.Tok} {S : RSt} {w w' : World} (h : RS b ga ca ts S w) (hb : w'.heap[b]? = w.heap[b]?) (hg : w'.heap[ga]? = w.heap[ga]?) (hs : w.heap.size ≤ w'.heap.size) : RS b ga ca ts S w' := by
  rcases S with l | ⟨p, er⟩
  · obtain ⟨h1, N, hN, hr⟩ := h
    exact ⟨h1, N, hN, hr.keep hb hg hs⟩
  · obtain ⟨h1, N, hr⟩ := h
    exact ⟨h1, N, hr.keep hb hg hs⟩
/-- A call's box whose list of arguments has grown. -/
theorem call_mem {b ga ca : Nat} {ts : List Lx.Tok} {w w4 w5 : World} {gx cap5 g pl : Nat} {nm : Lx.B} {S : RSt} {sl : Value} {acc : List Px.Ex} {row cs : List Value}
    (hb : b < gx) (hga : ga < gx) (hwx : w.heap.size < gx) (hR : RS b ga ca ts S w4) (hE : E8 gx w4 7 0 0 nm sl pl) (hs : E8any w.heap.size w4) (hf : Fr b w w4)
    (hown4 : w4.ownsRow (gx + 1) 51 8 sl acc.length row) (hG : Grew w4 w5 sl g) (hown5 : w5.ownsRow (gx + 1) 51 8 (.slice (some ⟨g, 0, none⟩) (acc.length + 1) cap5) (acc.length + 1) (row ++ cs)) {w7 : World}
    (h7 : w7 = w5.setCell ⟨gx, 6, none⟩ (.slice (some ⟨g, 0, none⟩) (acc.length + 1) cap5)) :
    RS b ga ca ts S w7 ∧ E8 gx w7 7 0 0 nm (.slice (some ⟨g, 0, none⟩) (acc.length + 1) cap5) pl ∧ E8any w.heap.size w7 ∧ Fr b w w7 ∧ w7.ownsRow (gx + 1) 51 8 (.slice (some ⟨g, 0, none⟩) (acc.length + 1) cap5) (acc.length + 1) (row ++ cs) ∧
      ∀ x, AllEx (fun k => gx + 1 ≤ k ∧ sl.ownBlock ≠ some k) w4 acc row → IsEx (fun k => gx + 1 ≤ k ∧ sl.ownBlock ≠ some k) w4 x cs → Gath (gx + 1) w7 (.slice (some ⟨g, 0, none⟩) (acc.length + 1) cap5) (acc ++ [x]) := by
  have hlx := hE.any.lt
  have hsl := hs.lt
  have far : ∀ k, k ≤ gx → some k ≠ sl.ownBlock := fun k hk e => by have := (hown4.lt k e.symm).1; omega
  have hoth : ∀ k, k ≠ gx → w7.heap[k]? = w5.heap[k]? := fun k hk => by rw [h7]; exact Below.heap_setCell _ _ _ _ hk
  have hsz : w7.heap.size = w5.heap.size := by rw [h7]; simp [World.setCell]
  have hold : ∀ k, k < gx → w7.heap[k]? = w4.heap[k]? := fun k hk => (hoth k (by omega)).trans (hG.block k (by omega) (far k (by omega)))
  have hgs := hG.size
  have hx5 : w5.heap[gx]? = w4.heap[gx]? := hG.block gx hlx (far gx (Nat.le_refl _))
  have hE7 : E8 gx w7 7 0 0 nm (.slice (some ⟨g, 0, none⟩) (acc.length + 1) cap5) pl := by
    unfold E8 at hE ⊢
    rw [h7]
    simp [World.setCell, Array.getElem?_modify, hx5, hE]
  have hown7 : w7.ownsRow (gx + 1) 51 8 (.slice (some ⟨g, 0, none⟩) (acc.length + 1) cap5) (acc.length + 1) (row ++ cs) := by
    rw [h7]
    exact ownsRow_setCell_below hown5 (a := ⟨gx, 6, none⟩) (by show gx < gx + 1; omega) _
  refine ⟨hR.keep (hold b hb) (hold ga hga) (by omega), hE7, ?_, ?_, hown7, fun x ha hx => ?_⟩
  · obtain ⟨x0, x1, x2, x3, x4, x5, x6, x7, hx⟩ := hs
    exact ⟨x0, x1, x2, x3, x4, x5, x6, x7, (hold _ hwx).trans hx⟩
  · refine ⟨?_, ?_, ?_, by have := hf.size; omega, fun k h1 h2 => (hold k (by omega)).trans (hf.block k h1 h2)⟩
    · rw [h7]; exact hG.os.trans hf.os
    · rw [h7]; exact hG.tape.trans hf.tape
    · rw [h7]; exact hG.output.trans hf.output
  · exact gath_snoc hown4 ha hx hG hown7 (fun k h1 h2 h3 => hoth k (by omega)) (by omega)
theorem Gath.fr {b m : Nat} {w w' : World} {sl : Value} {acc : List Px.Ex} (h : Gath m w sl acc) (f : Fr b w w') (hb : b < m) : Gath m w' sl acc :=
  h.fo (⟨f.os, f.tape, f.output, f.size, fun k h1 h2 => f.block k h1 h2⟩ : Fo b w.heap.size w w') hb
end Go.Proofs.YtnmdnjdibdmodaaGreatDoor
/- What stands by itself, in the document: calls. -/
namespace Go.Proofs.YtnmdnjdibdmodaaGreatDoor
open Go.RowKit
set_option linter.unusedSimpArgs false
set_option linter.unusedVariables false

/-- Where the loop over a call's arguments is. -/
def CallAt (E : Px.P Px.Ex) (m : Nat) (res : Px.R (List Px.Ex)) (f c : Nat) (S : RSt) (w : World) (sl : Value) : Prop :=
  (∃ acc l, S = .inl l ∧ l.length < f ∧ c = acc.length ∧ c + l.length ≤ 4096 ∧ Gath m w sl acc ∧ res = Px.items E f c acc l) ∨ ∃ fl, S = .inr fl ∧ res = .inr fl
set_option maxRecDepth 100000 in
set_option maxHeartbeats 16000000 in
theorem primary_call (b ga ca : Nat) (ts : List Lx.Tok) (d : Nat) (hd : d ≤ 24) (E : Px.P Px.Ex)
    (u : Lx.Tok) (rr : List Lx.Tok) (w : World) (h : RS b ga ca ts (.inl (u :: rr)) w)
    (h2 : ¬ u.kind = 2) (h3 : ¬ u.kind = 3) (hst : Px.sees 1 [116, 114, 117, 101] (u :: rr) = false) (hsf : Px.sees 1 [102, 97, 108, 115, 101] (u :: rr) = false) (hsb : Px.sees 4 [40] (u :: rr) = false)
    (hnm : Px.name (u :: rr) = .inl (u, rr)) (hcl : Px.sees 4 [40] rr = true)
    (hE : Px.Ok E) (hexp : ∀ (S : RSt) (w : World), RS b ga ca ts S w → Calls Tryz.prog 79 #[.pointer (some ⟨b, 0, none⟩), .int .i64 ((d : Int) + 1)] w fun r w' => EP b ga ca ts E S w r w') :
    Calls Tryz.prog 114 #[.pointer (some ⟨b, 0, none⟩), .int .i64 d] w fun r w' => EP b ga ca ts (Px.primary E) (.inl (u :: rr)) w r w' := by
  have hwr : IntKind.i64.wrap ((d : Int) + 1) = (d : Int) + 1 := IntWalk.i64_in _ (by omega)
  have hg : Px.Good (u :: rr) := h.1
  have hbl := (h.at).choose_spec.choose_spec.choose_spec.1.there
  have hgl := (h.at).choose_spec.choose_spec.choose_spec.1.gl
  have hb0 : Below w.heap.size w (w.alloc zeroEx) := (Below.refl _ _).alloc (Nat.le_refl _) _
  have hs0 := E8any.new w
  have hR0 := h.below hb0
  have hf0 : Fr b w (w.alloc zeroEx) := Fr.of_below hb0
  have hg2 : w.heap.size ≠ b := by omega
  have hg2a : w.heap.size ≠ ga := by omega
  have hsz0 : w.heap.size < (w.alloc zeroEx).heap.size := by simp
  obtain ⟨Nl, hNl, hr1⟩ := hR0.2
  obtain ⟨hu, hN2, hlt⟩ := drop_head hNl
  have hltI : (Nl : Int) < (ts.length : Int) := by omega
  go_enter Tryz.func114, Tryz.ntmps114
  go_upto_region 1 with fail
  generalize w.alloc zeroEx = w0 at *
  obtain ⟨c0, c1, c2, c3, f1, f2, f3⟩ := hr1.cells
  obtain ⟨x0, x1, x2, x3⟩ := hr1.row Nl u hu
  have hb3 := hr1.there
  have hgl3 := hr1.gl
  have hfew := hr1.few
  clear hb0 h
  go_region
  have hbA : Below w0.heap.size w0 ((w0.alloc (.cells #[.int .i64 u.kind, .string ⟨u.text.toArray⟩, .int .i64 u.num, .int .i64 u.place] 39)).drew) := ((Below.refl _ _).alloc (Nat.le_refl _) _).trans ⟨rfl, rfl, rfl, Nat.le_refl _, fun _ _ => rfl⟩
  have d0 : ((w0.alloc (.cells #[.int .i64 u.kind, .string ⟨u.text.toArray⟩, .int .i64 u.num, .int .i64 u.place] 39)).drew).cell? ⟨w0.heap.size, 0, none⟩ = some (.int .i64 u.kind) := by simp
  have d1 : ((w0.alloc (.cells #[.int .i64 u.kind, .string ⟨u.text.toArray⟩, .int .i64 u.num, .int .i64 u.place] 39)).drew).cell? ⟨w0.heap.size, 1, none⟩ = some (.string ⟨u.text.toArray⟩) := by simp
  have d2 : ((w0.alloc (.cells #[.int .i64 u.kind, .string ⟨u.text.toArray⟩, .int .i64 u.num, .int .i64 u.place] 39)).drew).cell? ⟨w0.heap.size, 2, none⟩ = some (.int .i64 u.num) := by simp
  have d3 : ((w0.alloc (.cells #[.int .i64 u.kind, .string ⟨u.text.toArray⟩, .int .i64 u.num, .int .i64 u.place] 39)).drew).cell? ⟨w0.heap.size, 3, none⟩ = some (.int .i64 u.place) := by simp
  have d4 : w0.heap.size < ((w0.alloc (.cells #[.int .i64 u.kind, .string ⟨u.text.toArray⟩, .int .i64 u.num, .int .i64 u.place] 39)).drew).heap.size := by simp
  have hRA := hR0.below hbA
  have hrA := hr1.same hbA
  have hsA := hs0.fr (Fr.of_below (b := b) hbA) hg2
  have hfA := hf0.trans (Fr.of_below (b := b) hbA)
  have hgT : w0.heap.size ≠ b := by omega
  have hgT2 : w0.heap.size ≠ w.heap.size := by omega
  have hgT3 : w.heap.size < w0.heap.size := hsz0
  clear c0 c1 c2 c3 f1 f2 f3 x0 x1 x2 x3 hbA hR0 hs0 hf0 hr1 hb3 hgl3 hsz0
  generalize ((w0.alloc (.cells #[.int .i64 u.kind, .string ⟨u.text.toArray⟩, .int .i64 u.num, .int .i64 u.place] 39)).drew) = wA at *
  generalize w0.heap.size = gT at *
  have hkI : ((u.kind : Int) == 2) = false := by simp; omega
  have hkJ : ((u.kind : Int) == 3) = false := by simp; omega
  have hst1 : seesS 1 [116, 114, 117, 101] (.inl (u :: rr)) = false := hst
  have hsf1 : seesS 1 [102, 97, 108, 115, 101] (.inl (u :: rr)) = false := hsf
  have hsb1 : seesS 4 [40] (.inl (u :: rr)) = false := hsb
  go_wp2_with fail
  refine (got_any b ga ca ts (.inl (u :: rr)) 1 [116, 114, 117, 101] wA (by decide) hRA).mono ?_
  rintro e wB ⟨rfl, hRB, hgB⟩
  rw [gotS_no hst1] at hRB
  rw [hst1]
  go_wp2_with fail
  refine (got_any b ga ca ts (.inl (u :: rr)) 1 [102, 97, 108, 115, 101] wB (by decide) hRB).mono ?_
  rintro e wC ⟨rfl, hRC, hgC⟩
  rw [gotS_no hsf1] at hRC
  rw [hsf1]
  go_wp2_with fail
  refine (got_any b ga ca ts (.inl (u :: rr)) 4 [40] wC (by decide) hRC).mono ?_
  rintro e wD ⟨rfl, hRD, hgD⟩
  rw [gotS_no hsb1] at hRD
  rw [hsb1]
  go_wp2_with fail
  refine (rname_any b ga ca ts (.inl (u :: rr)) wD hRD).mono ?_
  rintro e wE ⟨tk, tt, tm, tp, rfl, hRE, hgE, hvE⟩
  have hgAE : Fr b wA wE := ((hgB.trans hgC).trans hgD).trans hgE
  clear hRB hRC hRD hgB hgC hgD hgE
  go_wp2_with fail
  have e0 : st (lift Px.name (.inl (u :: rr))) = .inl rr := by simp only [lift, hnm, st]
  rw [e0] at hRE
  refine (got_any b ga ca ts _ 4 [40] wE (by decide) hRE).mono ?_
  rintro e wF ⟨rfl, hRF, hgF⟩
  have hsc : seesS 4 [40] (.inl rr) = true := hcl
  have e1 : gotS 4 [40] (.inl rr) = .inl rr.tail := by simp only [gotS]; rw [if_pos hcl]
  rw [e1] at hRF
  rw [hsc]
  have hgAF : Fr b wA wF := hgAE.trans hgF
  have hsF := hsA.fr hgAF hg2
  have hfF := hfA.trans hgAF
  have hlT : gT < wF.heap.size := by have := hgAF.size; omega
  have dF1 := (hgAF.cell d4 hgT).trans d1
  have dF3 := (hgAF.cell d4 hgT).trans d3
  have hgaF := (hRF.at).choose_spec.choose_spec.choose_spec.1.gl
  have hbF := (hRF.at).choose_spec.choose_spec.choose_spec.1.there
  clear hRA hrA hsA hfA d0 d1 d2 d3 d4 hgAE hgF hgAF hRE e0 e1 hsc hvE
  have hU : lift (Px.primary E) (.inl (u :: rr)) = Px.bind (Px.items E (rr.length + 1) 0 [] rr.tail) fun xs l2 => .inl (.mk 7 0 0 u.text xs u.place, l2) := by
    simp only [lift, Px.primary]
    rw [if_neg h2, if_neg h3, if_neg (by rw [hst]; simp), if_neg (by rw [hsf]; simp), if_neg (by rw [hsb]; simp), hnm]
    simp only [Px.bind]
    rw [if_pos hcl]
  go_wp2_with fail
  have hE8 := E8.new wF 7 0 0 u.text (.slice none 0 0) u.place
  have hb7 : Below wF.heap.size wF (wF.alloc (.cells #[.int .i64 7, .int .i64 0, .int .i64 0, .string ⟨u.text.toArray⟩, .int .i64 0, .string ⟨#[]⟩, .slice none 0 0, .int .i64 u.place] 51)) := (Below.refl _ _).alloc (Nat.le_refl _) _
  have hR7 := hRF.below hb7
  have hs7 := hsF.fr (Fr.of_below (b := b) hb7) hg2
  have hf7 := hfF.trans (Fr.of_below (b := b) hb7)
  have hlF := hsF.lt
  have hrt : rr.tail.length < rr.length + 1 ∧ rr.tail.length ≤ 4096 := by
    obtain ⟨N9, hN9, _⟩ := hRF.2
    constructor
    · simp; omega
    · rw [← hN9]; simp; omega
  obtain ⟨res, hres⟩ : ∃ res, Aside (res = Px.items E (rr.length + 1) 0 [] rr.tail) := ⟨_, rfl⟩
  have hat : Aside (CallAt E (wF.heap.size + 1) res (rr.length + 1) 0 (.inl rr.tail) (wF.alloc (.cells #[.int .i64 7, .int .i64 0, .int .i64 0, .string ⟨u.text.toArray⟩, .int .i64 0, .string ⟨#[]⟩, .slice none 0 0, .int .i64 u.place] 51)) (.slice none 0 0)) := by
    show CallAt _ _ _ _ _ _ _ _
    exact Or.inl ⟨[], rr.tail, rfl, hrt.1, rfl, by simpa using hrt.2, Gath.nil _ _, hres.out⟩
  have hgxb : b < wF.heap.size := hbF
  have hgxa : ga < wF.heap.size := hgaF
  have hfin : Aside (∀ (w9 : World) (ao : Option Addr) (an cap : Nat), RS b ga ca ts (st res) w9 → Fr b w w9 → (∀ xs l', res = .inl (xs, l') → IsEx (From w.heap.size) w9 (.mk 7 0 0 u.text xs u.place) (exL 7 0 0 u.text (.slice ao an cap) u.place)) → EP b ga ca ts (Px.primary E) (.inl (u :: rr)) w (.returned (exV 7 0 0 u.text (.slice ao an cap) u.place)) w9) := by
    intro w9 ao an cap h1 h2 h3
    have e : lift (Px.primary E) (.inl (u :: rr)) = Px.bind res fun xs l2 => .inl (.mk 7 0 0 u.text xs u.place, l2) := by rw [hU, hres.out]
    refine ⟨7, 0, 0, u.text, ao, an, cap, u.place, rfl, ?_, h2, fun e2 l' he => ?_⟩
    · rw [e, st_bind_one (f := fun xs : List Px.Ex => Px.Ex.mk 7 0 0 u.text xs u.place)]; exact h1
    · rw [e] at he
      obtain ⟨xs, hx, rfl⟩ := bind_one_inl (f := fun xs : List Px.Ex => Px.Ex.mk 7 0 0 u.text xs u.place) he
      exact h3 xs l' hx
  generalize (wF.alloc (.cells #[.int .i64 7, .int .i64 0, .int .i64 0, .string ⟨u.text.toArray⟩, .int .i64 0, .string ⟨#[]⟩, .slice none 0 0, .int .i64 u.place] 51)) = w2 at *
  clear hb7 hRF hsF hfF hbF hgaF dF1 dF3 hlT hU hnm hcl hNl hu hN2 hlt hltI
  generalize wF.heap.size = gx at *
  generalize rr.length + 1 = F at *
  generalize rr.tail = l0 at *
  go_loopg [8] F (fun g cnt wr => ∃ (c : Nat) (S' : RSt) (ao : Option Addr) (an cap : Nat), cnt = .int .i64 c ∧ c ≤ 4096 ∧ RS b ga ca ts S' wr ∧ E8 gx wr 7 0 0 u.text (.slice ao an cap) u.place ∧ E8any w.heap.size wr ∧ Fr b w wr ∧ Aside (CallAt E (gx + 1) res g c S' wr (.slice ao an cap)))
  case atStart => exact ⟨0, .inl l0, none, 0, 0, rfl, by omega, hR7, hE8, hs7, hf7, hat⟩
  case round =>
    clear hat hR7 hE8 hs7 hf7
    obtain ⟨c, S', ao, an, cap, rfl, hc, hR, hEx, hs6, hf, hat⟩ := hrel
    obtain ⟨N, pp, er, hr, hcase⟩ := hR.at
    obtain ⟨c0, c1, c2, c3, f1, f2, f3⟩ := hr.cells
    have hbt := hr.there
    rcases hcase with ⟨rfl, l', rfl⟩ | ⟨h0, rfl⟩
    · obtain ⟨acc, hlf, rfl, hcl, hgt, hch⟩ : ∃ acc, l'.length < gk ∧ c = acc.length ∧ c + l'.length ≤ 4096 ∧ Gath (gx + 1) wr (.slice ao an cap) acc ∧ res = Px.items E gk c acc l' := by
        rcases hat.out with ⟨acc, l2, h1, h2, h3, h4, h5, h6⟩ | ⟨fl, h1, _⟩
        · simp at h1; subst h1; exact ⟨acc, h2, h3, h4, h5, h6⟩
        · simp at h1
      obtain ⟨F', rfl⟩ : ∃ F', gk = F' + 1 := ⟨gk - 1, by omega⟩
      go_wp2_with fail
      refine (got_any b ga ca ts (.inl l') 4 [41] wr (by decide) hR).mono ?_
      rintro e wA ⟨rfl, hRA, hgA⟩
      have hEA := hEx.fr hgA (by omega)
      have hsA := hs6.fr hgA hg2
      have hfA := hf.trans hgA
      have hgtA := hgt.fr hgA (by omega)
      clear c0 c1 c2 c3 f1 f2 f3 hr hR hEx hs6 hf hgt hgA hat
      rcases hse : seesS 4 [41] (.inl l') with _ | _
      case true =>
        have hsee : Px.sees 4 [41] l' = true := hse
        have e1 : gotS 4 [41] (.inl l') = .inl l'.tail := by simp only [gotS]; rw [if_pos hsee]
        rw [e1] at hRA
        have hr9 : res = .inl (acc, l'.tail) := by rw [hch]; simp only [Px.items]; rw [if_pos hsee]
        have hval : ∀ xs l2, res = .inl (xs, l2) → IsEx (From w.heap.size) (w8r wA w.heap.size (.int .i64 7) (.int .i64 0) (.int .i64 0) (.string ⟨u.text.toArray⟩) (.int .i64 0) (.string ⟨#[]⟩) (.slice ao an cap) (.int .i64 u.place)) (.mk 7 0 0 u.text xs u.place) (exL 7 0 0 u.text (.slice ao an cap) u.place) := fun xs l2 he => by
          rw [hr9] at he
          simp at he
          rw [← he.1]
          obtain ⟨row, hrow, hall⟩ := hgtA.rows (B := From (gx + 1)) (fun k h1 _ => h1)
          have hx : IsEx (From (gx + 1)) wA (.mk 7 0 0 u.text acc u.place) (exL 7 0 0 u.text (.slice ao an cap) u.place) := by
            rw [IsEx]; exact ⟨_, row, rfl, hrow, hall⟩
          exact (hx.since (Since.set8 (by omega) _ _ _ _ _ _ _ _)).base (from_mono (by omega))
        have hR9 : RS b ga ca ts (st res) wA := by rw [hr9]; exact hRA
        clear hr9 hch hgtA e1
        obtain ⟨y0, y1, y2, y3, y4, y5, y6, y7⟩ := hEA.cells
        have hl7 := hEA.any.lt
        obtain ⟨x0, x1, x2, x3, x4, x5, x6, x7, e0, e1, e2, e3, e4, e5, e6, e7, m0, m1, m2, m3, m4, m5, m6, m7⟩ := hsA.cells
        have hl6 := hsA.lt
        have hend := hfin.out _ ao an cap ((hR9).set8 hg2 hg2a (.int .i64 7) (.int .i64 0) (.int .i64 0) (.string ⟨u.text.toArray⟩) (.int .i64 0) (.string ⟨#[]⟩) (.slice ao an cap) (.int .i64 u.place)) (hfA.set8 (Nat.le_refl w.heap.size) (.int .i64 7) (.int .i64 0) (.int .i64 0) (.string ⟨u.text.toArray⟩) (.int .i64 0) (.string ⟨#[]⟩) (.slice ao an cap) (.int .i64 u.place)) (fun xs l' he => hval xs l' he)
        clear hfin hres hexp hE hval
        go_wp2
        exact bodyPost_ret (v := exV 7 0 0 u.text (.slice ao an cap) u.place) (by simp [results, Tryz.results114, go_sem, e0, e1, e2, e3, e4, e5, e6, e7]) rfl hend
      case false =>
        rw [gotS_no hse] at hRA
        have hgd : Px.Good l' := hRA.1
        have hgdl : 1 ≤ l'.length := by
          cases l' with
          | nil => exact absurd hgd (by simp [Px.Good])
          | cons _ _ => simp
        obtain ⟨i0, hi0, hz0, hz1, hz2⟩ := info_parts exprInfo
        have hrr : Aside (res = Px.bind (Px.sep acc.length l') fun _ l1 => Px.bind (E l1) fun x l2 => Px.items E F' (acc.length + 1) (acc ++ [x]) l2) := by
          show _ = _
          rw [hch]; simp only [Px.items]; rw [if_neg (by rw [show Px.sees 4 [41] l' = false from hse]; simp)]
        clear hch hfin
        obtain ⟨S2, hS2e⟩ : ∃ S2 : RSt, Aside (S2 = st (Px.sep acc.length l')) := ⟨_, rfl⟩
        by_cases hz : acc.length = 0
        · have hzI : ¬ (0 : Int) < (acc.length : Int) := by omega
          have hRQ : RS b ga ca ts S2 wA := by rw [hS2e.out]; unfold Px.sep; rw [if_pos hz]; exact hRA
          have hEQ := hEA
          have hsQ := hsA
          have hfQ := hfA
          have hgtQ := hgtA
          clear hRA hEA hsA hfA hgtA
          generalize wA = wQ at *
          clear hz
          obtain ⟨row, hown, hall⟩ := hgtQ
          obtain rfl : an = acc.length := by
            obtain ⟨a9, c9, h9⟩ := slice_of hown
            simp at h9
            exact h9.2.1
          have c6 := hEQ.cells.2.2.2.2.2.2.1
          have hlxQ := hEQ.any.lt
          have hbQ := (hRQ.at).choose_spec.choose_spec.choose_spec.1.there
          have hn4 : acc.length ≤ 4096 := by omega
          have hRd : RS b ga ca ts S2 wQ.drew := hRQ.drewN 1
          go_wp2_with fail
          refine wpE_begin (S := fun w' => w'.cell? ⟨gx, 6, none⟩ = some (.slice ao acc.length cap)) (N := fun j => decide (j < 8)) (by kernel_rfl) ?_
          have hS0 : wQ.drew.cell? ⟨gx, 6, none⟩ = some (.slice ao acc.length cap) := c6
          refine wpE_take (i := 0) (v := .pointer (some ⟨gx, 6, none⟩)) rfl (by kernel_rfl) (by kernel_rfl) (by kernel_rfl) (by kernel_rfl) (fun _ _ _ h => h) rfl (fun w' hS => by have s1 := hS; go_simp) hS0 ?_
          try simp only [Act.put, List.setIfInBounds_toArray, List.set_cons_zero, List.set_cons_succ]
          refine wpE_take (i := 2) (v := .pointer (some ⟨b, 0, none⟩)) rfl (by kernel_rfl) (by kernel_rfl) (by kernel_rfl) (by kernel_rfl) (fun _ _ _ h => h) rfl (fun w' hS => by have s1 := hS; go_simp) hS0 ?_
          try simp only [Act.put, List.setIfInBounds_toArray, List.set_cons_zero, List.set_cons_succ]
          refine wpE_take (i := 3) (v := .int .i64 d) rfl (by kernel_rfl) (by kernel_rfl) (by kernel_rfl) (by kernel_rfl) (fun _ _ _ h => h) rfl (fun w' hS => by have s1 := hS; go_simp) hS0 ?_
          try simp only [Act.put, List.setIfInBounds_toArray, List.set_cons_zero, List.set_cons_succ]
          refine wpE_take (i := 1) (v := .slice ao acc.length cap) rfl (by kernel_rfl) (by kernel_rfl) (by kernel_rfl) (by kernel_rfl) (fun _ _ _ h => h) rfl (fun w' hS => by have s1 := hS; go_simp) hS0 ?_
          try simp only [Act.put, List.setIfInBounds_toArray, List.set_cons_zero, List.set_cons_succ]
          refine wpE_take (i := 4) (v := .int .i64 ((d : Int) + 1)) rfl (by kernel_rfl) (by kernel_rfl) (by kernel_rfl) (by kernel_rfl) (fun _ _ _ h => h) rfl (fun w' hS => by have s1 := hS; go_simp) hS0 ?_
          try simp only [Act.put, List.setIfInBounds_toArray, List.set_cons_zero, List.set_cons_succ]
          refine wpE_one (i := 5) (by kernel_rfl) rfl rfl (fun K hK => ?_)
          go_simp
          refine (hexp _ _ hRd).mono ?_
          rintro e w4 ⟨k2, o2, n2, t2, ao2, an2, ac2, p2, rfl, hR4, hg4, hv4⟩
          have hgQ4 : Fr b wQ w4 := (Fr.drewN b wQ 1).trans hg4
          have hE4 := hEQ.fr hgQ4 (by omega)
          have hs4 := hsQ.fr hgQ4 hg2
          have hf4 := hfQ.trans hgQ4
          have y6 := hE4.cells.2.2.2.2.2.2.1
          have hl4 := hE4.any.lt
          have hown4 := owns_fo hown (⟨hgQ4.os, hgQ4.tape, hgQ4.output, hgQ4.size, fun k h1 h2 => hgQ4.block k h1 h2⟩ : Fo b wQ.heap.size wQ w4) (by omega)
          have hall4 := hall.since (w' := w4) ⟨hgQ4.size, fun k h1 h2 => hgQ4.block k h2 (by have := h1.1; omega)⟩
          refine hK _ _ (fun _ => y6) ?_
          clear hK K
          try simp only [Act.put, List.setIfInBounds_toArray, List.set_cons_zero, List.set_cons_succ]
          refine wpE_one (i := 6) (by kernel_rfl) rfl rfl (fun K hK => ?_)
          go_simp
          refine hK _ _ (fun _ => (World.cell?_of_block (w := w4) (heap_old hl4)).trans y6) ?_
          clear hK K
          try simp only [Act.put, List.setIfInBounds_toArray, List.set_cons_zero, List.set_cons_succ]
          refine wpE_one (i := 7) (by kernel_rfl) rfl rfl (fun K hK => ?_)
          refine wp_append_lies _ (.tmp 100) (.tmp 105) 47 rfl (gx + 1) 51 i0 _ 8 96 Tryz.underlying47 hi0 hz0 hz1 hz2 rfl (by omega) (.slice ao acc.length cap) acc.length row rfl (hown4.alloc _) ⟨w4.heap.size, 0, none⟩ 1 1 (exL k2 o2 n2 t2 (.slice ao2 an2 ac2) p2) rfl rfl (World.news_of_block (heap_new w4 _)) (by simp [Value.oneCell']) (by omega) (by unfold maxLen; omega) (by omega) (by simp; omega) (w4.heap.size + 1) (by simp) ?_
          intro g cap5 w5 hown5 hgrow hat5 hlt5
          have hG := grewB hgrow hat5
          have far : some gx ≠ (Value.slice ao acc.length cap).ownBlock := fun e => by have := (hown4.lt gx e.symm).1; omega
          have hb5 : w5.heap[gx]? = w4.heap[gx]? := hG.block gx hl4 far
          have z6 : w5.cell? ⟨gx, 6, none⟩ = some (.slice ao acc.length cap) := (World.cell?_of_block (w := w4) hb5).trans y6
          have zf : w5.frozen? ⟨gx, 6, none⟩ = false := (World.frozen?_of_block (w := w4) hb5).trans (by have h9 : w4.heap[gx]? = _ := hE4; simp [World.frozen?, h9])
          refine hK _ _ (fun _ => z6) ?_
          clear hK K
          try simp only [Act.put, List.setIfInBounds_toArray, List.set_cons_zero, List.set_cons_succ]
          refine wpE_takeL (i := 8) (v := .pointer (some ⟨gx, 6, none⟩)) rfl (by kernel_rfl) (by kernel_rfl) (by kernel_rfl) rfl (fun _ _ _ h => h) rfl (fun w' => by go_simp) ?_
          try simp only [Act.put, List.setIfInBounds_toArray, List.set_cons_zero, List.set_cons_succ]
          refine wpE_one (i := 9) (by kernel_rfl) rfl rfl (fun K hK => ?_)
          go_simp
          refine hK _ _ (fun h => absurd h (by decide)) (wpE_done (by kernel_rfl) ?_)
          clear hK K
          obtain ⟨hR9, hE9, hs9, hf9, hown9, hx9⟩ := call_mem (b := b) (ga := ga) (cs := (exL k2 o2 n2 t2 (.slice ao2 an2 ac2) p2)) (by omega) (by omega) (by omega) hR4 hE4 hs4 hf4 hown4 hG hown5 rfl
          generalize w5.setCell ⟨gx, 6, none⟩ (.slice (some ⟨g, 0, none⟩) (acc.length + 1) cap5) = w7 at *
          go_wp2
          go_roundg F'
          case measure => omega
          case rel =>
            refine ⟨acc.length + 1, _, some ⟨g, 0, none⟩, acc.length + 1, cap5, by go_num, ?_, hR9, hE9, hs9, hf9, ?_⟩
            · omega
            · show CallAt _ _ _ _ _ _ _ _
              have hr2 := hrr.out
              have hS2 := hS2e.out
              have hgl' : Px.Good l' := hgd
              rcases hsp : Px.sep acc.length l' with ⟨y, l1⟩ | fl
              · have ha := (Px.sep_res hgl').ok y l1 hsp
                rw [hsp] at hr2 hS2
                simp only [st] at hS2
                subst hS2
                simp only [Px.bind, lift] at hr2 hv4 ⊢
                rcases hqr : E l1 with ⟨x, l2⟩ | fl
                · have hb9 := (hE l1 ha.good).ok x l2 hqr
                  have h1 := ha.less
                  have h2 := hb9.less
                  rw [hqr] at hr2
                  exact Or.inl ⟨acc ++ [x], l2, rfl, by omega, by simp, by omega, hx9 x hall4 ((hv4 x l2 hqr).low (fun k h1 h2 => ⟨by have : wQ.heap.size ≤ k := h1; omega, fun e => by have := (hown.lt k e).2; have : wQ.heap.size ≤ k := h1; omega⟩)), hr2⟩
                · rw [hqr] at hr2
                  exact Or.inr ⟨fl, rfl, hr2⟩
              · rw [hsp] at hr2 hS2
                simp only [st] at hS2
                subst hS2
                exact Or.inr ⟨fl, rfl, hr2⟩
        · have hzI : (0 : Int) < (acc.length : Int) := by omega
          go_wp2_with fail
          refine (need_any b ga ca ts (.inl l') [44] wA hRA).mono ?_
          rintro e wQ ⟨rfl, hRQ0, hgQ⟩
          have hRQ : RS b ga ca ts S2 wQ := by rw [hS2e.out]; unfold Px.sep; rw [if_neg hz]; exact hRQ0
          have hEQ := hEA.fr hgQ (by omega)
          have hsQ := hsA.fr hgQ hg2
          have hfQ := hfA.trans hgQ
          have hgtQ := hgtA.fr hgQ (by omega)
          clear hRQ0 hRA hEA hsA hfA hgtA hgQ
          obtain ⟨row, hown, hall⟩ := hgtQ
          obtain rfl : an = acc.length := by
            obtain ⟨a9, c9, h9⟩ := slice_of hown
            simp at h9
            exact h9.2.1
          have c6 := hEQ.cells.2.2.2.2.2.2.1
          have hlxQ := hEQ.any.lt
          have hbQ := (hRQ.at).choose_spec.choose_spec.choose_spec.1.there
          have hn4 : acc.length ≤ 4096 := by omega
          have hRd : RS b ga ca ts S2 wQ.drew := hRQ.drewN 1
          go_wp2_with fail
          refine wpE_begin (S := fun w' => w'.cell? ⟨gx, 6, none⟩ = some (.slice ao acc.length cap)) (N := fun j => decide (j < 8)) (by kernel_rfl) ?_
          have hS0 : wQ.drew.cell? ⟨gx, 6, none⟩ = some (.slice ao acc.length cap) := c6
          refine wpE_take (i := 0) (v := .pointer (some ⟨gx, 6, none⟩)) rfl (by kernel_rfl) (by kernel_rfl) (by kernel_rfl) (by kernel_rfl) (fun _ _ _ h => h) rfl (fun w' hS => by have s1 := hS; go_simp) hS0 ?_
          try simp only [Act.put, List.setIfInBounds_toArray, List.set_cons_zero, List.set_cons_succ]
          refine wpE_take (i := 2) (v := .pointer (some ⟨b, 0, none⟩)) rfl (by kernel_rfl) (by kernel_rfl) (by kernel_rfl) (by kernel_rfl) (fun _ _ _ h => h) rfl (fun w' hS => by have s1 := hS; go_simp) hS0 ?_
          try simp only [Act.put, List.setIfInBounds_toArray, List.set_cons_zero, List.set_cons_succ]
          refine wpE_take (i := 3) (v := .int .i64 d) rfl (by kernel_rfl) (by kernel_rfl) (by kernel_rfl) (by kernel_rfl) (fun _ _ _ h => h) rfl (fun w' hS => by have s1 := hS; go_simp) hS0 ?_
          try simp only [Act.put, List.setIfInBounds_toArray, List.set_cons_zero, List.set_cons_succ]
          refine wpE_take (i := 1) (v := .slice ao acc.length cap) rfl (by kernel_rfl) (by kernel_rfl) (by kernel_rfl) (by kernel_rfl) (fun _ _ _ h => h) rfl (fun w' hS => by have s1 := hS; go_simp) hS0 ?_
          try simp only [Act.put, List.setIfInBounds_toArray, List.set_cons_zero, List.set_cons_succ]
          refine wpE_take (i := 4) (v := .int .i64 ((d : Int) + 1)) rfl (by kernel_rfl) (by kernel_rfl) (by kernel_rfl) (by kernel_rfl) (fun _ _ _ h => h) rfl (fun w' hS => by have s1 := hS; go_simp) hS0 ?_
          try simp only [Act.put, List.setIfInBounds_toArray, List.set_cons_zero, List.set_cons_succ]
          refine wpE_one (i := 5) (by kernel_rfl) rfl rfl (fun K hK => ?_)
          go_simp
          refine (hexp _ _ hRd).mono ?_
          rintro e w4 ⟨k2, o2, n2, t2, ao2, an2, ac2, p2, rfl, hR4, hg4, hv4⟩
          have hgQ4 : Fr b wQ w4 := (Fr.drewN b wQ 1).trans hg4
          have hE4 := hEQ.fr hgQ4 (by omega)
          have hs4 := hsQ.fr hgQ4 hg2
          have hf4 := hfQ.trans hgQ4
          have y6 := hE4.cells.2.2.2.2.2.2.1
          have hl4 := hE4.any.lt
          have hown4 := owns_fo hown (⟨hgQ4.os, hgQ4.tape, hgQ4.output, hgQ4.size, fun k h1 h2 => hgQ4.block k h1 h2⟩ : Fo b wQ.heap.size wQ w4) (by omega)
          have hall4 := hall.since (w' := w4) ⟨hgQ4.size, fun k h1 h2 => hgQ4.block k h2 (by have := h1.1; omega)⟩
          refine hK _ _ (fun _ => y6) ?_
          clear hK K
          try simp only [Act.put, List.setIfInBounds_toArray, List.set_cons_zero, List.set_cons_succ]
          refine wpE_one (i := 6) (by kernel_rfl) rfl rfl (fun K hK => ?_)
          go_simp
          refine hK _ _ (fun _ => (World.cell?_of_block (w := w4) (heap_old hl4)).trans y6) ?_
          clear hK K
          try simp only [Act.put, List.setIfInBounds_toArray, List.set_cons_zero, List.set_cons_succ]
          refine wpE_one (i := 7) (by kernel_rfl) rfl rfl (fun K hK => ?_)
          refine wp_append_lies _ (.tmp 100) (.tmp 105) 47 rfl (gx + 1) 51 i0 _ 8 96 Tryz.underlying47 hi0 hz0 hz1 hz2 rfl (by omega) (.slice ao acc.length cap) acc.length row rfl (hown4.alloc _) ⟨w4.heap.size, 0, none⟩ 1 1 (exL k2 o2 n2 t2 (.slice ao2 an2 ac2) p2) rfl rfl (World.news_of_block (heap_new w4 _)) (by simp [Value.oneCell']) (by omega) (by unfold maxLen; omega) (by omega) (by simp; omega) (w4.heap.size + 1) (by simp) ?_
          intro g cap5 w5 hown5 hgrow hat5 hlt5
          have hG := grewB hgrow hat5
          have far : some gx ≠ (Value.slice ao acc.length cap).ownBlock := fun e => by have := (hown4.lt gx e.symm).1; omega
          have hb5 : w5.heap[gx]? = w4.heap[gx]? := hG.block gx hl4 far
          have z6 : w5.cell? ⟨gx, 6, none⟩ = some (.slice ao acc.length cap) := (World.cell?_of_block (w := w4) hb5).trans y6
          have zf : w5.frozen? ⟨gx, 6, none⟩ = false := (World.frozen?_of_block (w := w4) hb5).trans (by have h9 : w4.heap[gx]? = _ := hE4; simp [World.frozen?, h9])
          refine hK _ _ (fun _ => z6) ?_
          clear hK K
          try simp only [Act.put, List.setIfInBounds_toArray, List.set_cons_zero, List.set_cons_succ]
          refine wpE_takeL (i := 8) (v := .pointer (some ⟨gx, 6, none⟩)) rfl (by kernel_rfl) (by kernel_rfl) (by kernel_rfl) rfl (fun _ _ _ h => h) rfl (fun w' => by go_simp) ?_
          try simp only [Act.put, List.setIfInBounds_toArray, List.set_cons_zero, List.set_cons_succ]
          refine wpE_one (i := 9) (by kernel_rfl) rfl rfl (fun K hK => ?_)
          go_simp
          refine hK _ _ (fun h => absurd h (by decide)) (wpE_done (by kernel_rfl) ?_)
          clear hK K
          obtain ⟨hR9, hE9, hs9, hf9, hown9, hx9⟩ := call_mem (b := b) (ga := ga) (cs := (exL k2 o2 n2 t2 (.slice ao2 an2 ac2) p2)) (by omega) (by omega) (by omega) hR4 hE4 hs4 hf4 hown4 hG hown5 rfl
          generalize w5.setCell ⟨gx, 6, none⟩ (.slice (some ⟨g, 0, none⟩) (acc.length + 1) cap5) = w7 at *
          go_wp2
          go_roundg F'
          case measure => omega
          case rel =>
            refine ⟨acc.length + 1, _, some ⟨g, 0, none⟩, acc.length + 1, cap5, by go_num, ?_, hR9, hE9, hs9, hf9, ?_⟩
            · omega
            · show CallAt _ _ _ _ _ _ _ _
              have hr2 := hrr.out
              have hS2 := hS2e.out
              have hgl' : Px.Good l' := hgd
              rcases hsp : Px.sep acc.length l' with ⟨y, l1⟩ | fl
              · have ha := (Px.sep_res hgl').ok y l1 hsp
                rw [hsp] at hr2 hS2
                simp only [st] at hS2
                subst hS2
                simp only [Px.bind, lift] at hr2 hv4 ⊢
                rcases hqr : E l1 with ⟨x, l2⟩ | fl
                · have hb9 := (hE l1 ha.good).ok x l2 hqr
                  have h1 := ha.less
                  have h2 := hb9.less
                  rw [hqr] at hr2
                  exact Or.inl ⟨acc ++ [x], l2, rfl, by omega, by simp, by omega, hx9 x hall4 ((hv4 x l2 hqr).low (fun k h1 h2 => ⟨by have : wQ.heap.size ≤ k := h1; omega, fun e => by have := (hown.lt k e).2; have : wQ.heap.size ≤ k := h1; omega⟩)), hr2⟩
                · rw [hqr] at hr2
                  exact Or.inr ⟨fl, rfl, hr2⟩
              · rw [hsp] at hr2 hS2
                simp only [st] at hS2
                subst hS2
                exact Or.inr ⟨fl, rfl, hr2⟩
    · have her : ((er : Int) == 0) = false := by simp; omega
      have hrr : res = .inr (pp, er) := by
        rcases hat.out with ⟨acc, l2, h1, _⟩ | ⟨fl, h1, h2⟩
        · simp at h1
        · simp at h1; rw [h2, h1]
      have hval : ∀ xs l2, res = .inl (xs, l2) → IsEx (From w.heap.size) (w8r wr w.heap.size (.int .i64 7) (.int .i64 0) (.int .i64 0) (.string ⟨u.text.toArray⟩) (.int .i64 0) (.string ⟨#[]⟩) (.slice ao an cap) (.int .i64 u.place)) (.mk 7 0 0 u.text xs u.place) (exL 7 0 0 u.text (.slice ao an cap) u.place) := fun xs l2 he => by rw [hrr] at he; simp at he
      have hR9 : RS b ga ca ts (st res) wr := by rw [hrr]; exact hR
      clear hat hrr hr hR
      obtain ⟨y0, y1, y2, y3, y4, y5, y6, y7⟩ := hEx.cells
      have hl7 := hEx.any.lt
      obtain ⟨x0, x1, x2, x3, x4, x5, x6, x7, e0, e1, e2, e3, e4, e5, e6, e7, m0, m1, m2, m3, m4, m5, m6, m7⟩ := hs6.cells
      have hl6 := hs6.lt
      have hend := hfin.out _ ao an cap ((hR9).set8 hg2 hg2a (.int .i64 7) (.int .i64 0) (.int .i64 0) (.string ⟨u.text.toArray⟩) (.int .i64 0) (.string ⟨#[]⟩) (.slice ao an cap) (.int .i64 u.place)) (hf.set8 (Nat.le_refl w.heap.size) (.int .i64 7) (.int .i64 0) (.int .i64 0) (.string ⟨u.text.toArray⟩) (.int .i64 0) (.string ⟨#[]⟩) (.slice ao an cap) (.int .i64 u.place)) (fun xs l' he => hval xs l' he)
      clear hfin hres hexp hE hval
      go_wp2
      exact bodyPost_ret (v := exV 7 0 0 u.text (.slice ao an cap) u.place) (by simp [results, Tryz.results114, go_sem, e0, e1, e2, e3, e4, e5, e6, e7]) rfl hend
end Go.Proofs.YtnmdnjdibdmodaaGreatDoor
/- The document's expr at every depth. -/
namespace Go.Proofs.YtnmdnjdibdmodaaGreatDoor
open Go.RowKit

theorem pri_ok (b ga ca : Nat) (ts : List Lx.Tok) : PriOk b ga ca ts := by
  intro k d hd hexp l w h
  obtain ⟨u, rr, rfl⟩ : ∃ u rr, l = u :: rr := by
    cases l with
    | nil => exact absurd h.1 (by simp [Px.Good])
    | cons u rr => exact ⟨u, rr, rfl⟩
  have hok : Px.Ok (Px.lvl (Px.unary k)) := Px.lvl_ok (Px.unary_ok k)
  have hd' : d ≤ 24 := by omega
  by_cases h2 : u.kind = 2
  · exact primary_lit b ga ca ts d hd' _ hexp u rr w h (Or.inl h2)
  by_cases h3 : u.kind = 3
  · exact primary_lit b ga ca ts d hd' _ hexp u rr w h (Or.inr (Or.inl h3))
  rcases ht : Px.sees 1 [116, 114, 117, 101] (u :: rr) with _ | _
  case true => exact primary_lit b ga ca ts d hd' _ hexp u rr w h (Or.inr (Or.inr (Or.inl ht)))
  rcases hf : Px.sees 1 [102, 97, 108, 115, 101] (u :: rr) with _ | _
  case true => exact primary_lit b ga ca ts d hd' _ hexp u rr w h (Or.inr (Or.inr (Or.inr (Or.inl hf))))
  rcases hb : Px.sees 4 [40] (u :: rr) with _ | _
  case true => exact primary_lit b ga ca ts d hd' _ hexp u rr w h (Or.inr (Or.inr (Or.inr (Or.inr hb))))
  by_cases hn : u.kind = 1 ∧ Px.reserved u.text = false
  · have hnm : Px.name (u :: rr) = .inl (u, rr) := by simp only [Px.name]; rw [if_pos hn]
    rcases hc : Px.sees 4 [40] rr with _ | _
    · exact primary_noc b ga ca ts d hd' _ u rr w h h2 h3 ht hf hb (by simp only [lift, hnm, st]; exact hc)
    · exact primary_call b ga ca ts d hd' _ u rr w h h2 h3 ht hf hb hnm hc hok hexp
  · exact primary_noc b ga ca ts d hd' _ u rr w h h2 h3 ht hf hb (by rw [show lift Px.name (.inl (u :: rr)) = _ from nameS_bad hn]; rfl)
theorem rexpr_any (b ga ca : Nat) (ts : List Lx.Tok) (k d : Nat) (hd : d + k = 25) (S : RSt) (w : World) (h : RS b ga ca ts S w) :
    Calls Tryz.prog 79 #[.pointer (some ⟨b, 0, none⟩), .int .i64 d] w fun r w' => EP b ga ca ts (Px.expr k) S w r w' := expr_all (pri_ok b ga ca ts) k d hd S w h
end Go.Proofs.YtnmdnjdibdmodaaGreatDoor
