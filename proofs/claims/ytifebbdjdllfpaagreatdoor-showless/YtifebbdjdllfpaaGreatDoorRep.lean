/- How programs lie in memory. -/
import Derived.Test.YtifebbdjdllfpaaGreatDoorPxSim
import Derived.Test.YtifebbdjdllfpaaGreatDoorShelf
import Derived.WalkKit
import Derived.Below
namespace Go.Proofs.YtifebbdjdllfpaaGreatDoor
open Go.RowKit
set_option linter.unusedVariables false

/-- Blocks from n on. -/
abbrev From (n : Nat) : Nat → Prop := fun g => n ≤ g
theorem from_mono {m n : Nat} (h : m ≤ n) : ∀ k, From n k → From m k := fun k hk => Nat.le_trans h hk
/-- A slice of n elements of sz cells each, which are row: nil, or in a block of those that B names. -/
def SlRow (B : Nat → Prop) (w : World) (sz : Nat) (v : Value) (n : Nat) (row : List Value) : Prop :=
  row.length = n * sz ∧ ((v = .slice none 0 0 ∧ n = 0) ∨ ∃ g o cap, v = .slice (some ⟨g, o, none⟩) n cap ∧ n ≤ cap ∧ cap ≤ maxLen ∧ B g ∧ g < w.heap.size ∧ ∀ (j : Nat) (u : Value), row[j]? = some u → w.cell? ⟨g, o + j, none⟩ = some u)
mutual
/-- The eight cells of an expression. -/
def IsEx (B : Nat → Prop) (w : World) : Px.Ex → List Value → Prop
  | .mk k o n t args p, cs => ∃ sl row, cs = [.int .i64 k, .int .i64 o, .int .i64 n, .string ⟨t.toArray⟩, .int .i64 0, .string ⟨#[]⟩, sl, .int .i64 p] ∧ SlRow B w 8 sl args.length row ∧ AllEx B w args row
def AllEx (B : Nat → Prop) (w : World) : List Px.Ex → List Value → Prop
  | [], cs => cs = []
  | e :: r, cs => ∃ c1 c2, cs = c1 ++ c2 ∧ IsEx B w e c1 ∧ AllEx B w r c2
end
mutual
/-- The nine cells of a statement. -/
def IsSt (B : Nat → Prop) (w : World) : Px.St → List Value → Prop
  | .mk k n es b c p, cs => ∃ s1 s2 s3 r1 r2 r3, cs = [.int .i64 k, .string ⟨n.toArray⟩, .int .i64 0, .bool false, .int .i64 0, s1, s2, s3, .int .i64 p] ∧ SlRow B w 8 s1 es.length r1 ∧ AllEx B w es r1 ∧ SlRow B w 9 s2 b.length r2 ∧ AllSt B w b r2 ∧ SlRow B w 9 s3 c.length r3 ∧ AllSt B w c r3
def AllSt (B : Nat → Prop) (w : World) : List Px.St → List Value → Prop
  | [], cs => cs = []
  | e :: r, cs => ∃ c1 c2, cs = c1 ++ c2 ∧ IsSt B w e c1 ∧ AllSt B w r c2
end
def slCells (s : Px.Sl) : List Value := [.string ⟨s.name.toArray⟩, .string ⟨s.type.toArray⟩, .int .i64 s.place]
def IsSls (B : Nat → Prop) (w : World) (l : List Px.Sl) (v : Value) : Prop := SlRow B w 3 v l.length (l.flatMap slCells)
def IsSts (B : Nat → Prop) (w : World) (l : List Px.St) (v : Value) : Prop := ∃ row, SlRow B w 9 v l.length row ∧ AllSt B w l row
/-- The seven cells of a function. -/
def IsFn (B : Nat → Prop) (w : World) (f : Px.Fn) (cs : List Value) : Prop :=
  ∃ ps bs, cs = [.string ⟨f.name.toArray⟩, .bool f.on, ps, .string ⟨f.result.toArray⟩, .slice none 0 0, bs, .int .i64 f.place] ∧ IsSls B w f.params ps ∧ IsSts B w f.body bs
def AllFn (B : Nat → Prop) (w : World) : List Px.Fn → List Value → Prop
  | [], cs => cs = []
  | e :: r, cs => ∃ c1 c2, cs = c1 ++ c2 ∧ IsFn B w e c1 ∧ AllFn B w r c2
def IsFns (B : Nat → Prop) (w : World) (l : List Px.Fn) (v : Value) : Prop := ∃ row, SlRow B w 7 v l.length row ∧ AllFn B w l row
/-- A program's value. -/
def IsPr (B : Nat → Prop) (w : World) (p : Px.Pr) (v : Value) : Prop := ∃ ss fs, v = .agg #[.int .i64 p.version, ss, fs] ∧ IsSls B w p.states ss ∧ IsFns B w p.fns fs

/-- The blocks that B names are as they were. -/
structure Since (B : Nat → Prop) (w w' : World) : Prop where
  size : w.heap.size ≤ w'.heap.size
  block : ∀ k, B k → k < w.heap.size → w'.heap[k]? = w.heap[k]?
theorem Since.refl (B : Nat → Prop) (w : World) : Since B w w := ⟨Nat.le_refl _, fun _ _ _ => rfl⟩
theorem Since.trans {B : Nat → Prop} {w w1 w2 : World} (a : Since B w w1) (b : Since B w1 w2) : Since B w w2 := ⟨Nat.le_trans a.size b.size, fun k h1 h2 => (b.block k h1 (by have := a.size; omega)).trans (a.block k h1 h2)⟩
theorem Since.of_below {B : Nat → Prop} {w w' : World} (h : Below w.heap.size w w') : Since B w w' := ⟨h.size, fun k _ h2 => h.block k h2⟩
theorem Since.drewN (B : Nat → Prop) (w : World) (n : Nat) : Since B w (w.drewN n) := ⟨Nat.le_refl _, fun _ _ _ => rfl⟩
theorem SlRow.since {B : Nat → Prop} {w w' : World} {sz : Nat} {v : Value} {n : Nat} {row : List Value} (h : SlRow B w sz v n row) (s : Since B w w') : SlRow B w' sz v n row := by
  obtain ⟨h1, h2⟩ := h
  refine ⟨h1, ?_⟩
  rcases h2 with h2 | ⟨g, o, cap, hv, hc, hm, hB, hg, hcell⟩
  · exact Or.inl h2
  · refine Or.inr ⟨g, o, cap, hv, hc, hm, hB, by have := s.size; omega, fun j u hj => ?_⟩
    rw [World.cell?_of_block (w := w) (s.block g hB hg)]
    exact hcell j u hj
theorem SlRow.base {B B' : Nat → Prop} {w : World} {sz : Nat} {v : Value} {n : Nat} {row : List Value} (h : SlRow B w sz v n row) (hb : ∀ k, B k → B' k) : SlRow B' w sz v n row := by
  obtain ⟨h1, h2⟩ := h
  refine ⟨h1, ?_⟩
  rcases h2 with h2 | ⟨g, o, cap, hv, hc, hm, hB, r⟩
  · exact Or.inl h2
  · exact Or.inr ⟨g, o, cap, hv, hc, hm, hb _ hB, r⟩
mutual
theorem IsEx.since {B : Nat → Prop} {w w' : World} (s : Since B w w') : ∀ {e : Px.Ex} {cs : List Value}, IsEx B w e cs → IsEx B w' e cs
  | .mk k o n t args p, cs, h => by
    rw [IsEx] at h ⊢
    obtain ⟨sl, row, hc, hr, ha⟩ := h
    exact ⟨sl, row, hc, hr.since s, AllEx.since s ha⟩
theorem AllEx.since {B : Nat → Prop} {w w' : World} (s : Since B w w') : ∀ {l : List Px.Ex} {cs : List Value}, AllEx B w l cs → AllEx B w' l cs
  | [], cs, h => by rw [AllEx] at h ⊢; exact h
  | e :: r, cs, h => by
    rw [AllEx] at h ⊢
    obtain ⟨c1, c2, hc, h1, h2⟩ := h
    exact ⟨c1, c2, hc, IsEx.since s h1, AllEx.since s h2⟩
end
mutual
theorem IsSt.since {B : Nat → Prop} {w w' : World} (s : Since B w w') : ∀ {e : Px.St} {cs : List Value}, IsSt B w e cs → IsSt B w' e cs
  | .mk k n es b c p, cs, h => by
    rw [IsSt] at h ⊢
    obtain ⟨s1, s2, s3, r1, r2, r3, hc, a1, a2, a3, a4, a5, a6⟩ := h
    exact ⟨s1, s2, s3, r1, r2, r3, hc, a1.since s, a2.since s, a3.since s, AllSt.since s a4, a5.since s, AllSt.since s a6⟩
theorem AllSt.since {B : Nat → Prop} {w w' : World} (s : Since B w w') : ∀ {l : List Px.St} {cs : List Value}, AllSt B w l cs → AllSt B w' l cs
  | [], cs, h => by rw [AllSt] at h ⊢; exact h
  | e :: r, cs, h => by
    rw [AllSt] at h ⊢
    obtain ⟨c1, c2, hc, h1, h2⟩ := h
    exact ⟨c1, c2, hc, IsSt.since s h1, AllSt.since s h2⟩
end
theorem AllFn.since {B : Nat → Prop} {w w' : World} (s : Since B w w') : ∀ {l : List Px.Fn} {cs : List Value}, AllFn B w l cs → AllFn B w' l cs
  | [], cs, h => h
  | e :: r, cs, h => by
    obtain ⟨c1, c2, hc, ⟨ps, bs, h1, h2, row, h3, h4⟩, h5⟩ := h
    exact ⟨c1, c2, hc, ⟨ps, bs, h1, h2.since s, row, h3.since s, h4.since s⟩, AllFn.since s h5⟩
theorem IsPr.since {B : Nat → Prop} {w w' : World} (s : Since B w w') {p : Px.Pr} {v : Value} (h : IsPr B w p v) : IsPr B w' p v := by
  obtain ⟨ss, fs, hv, h1, row, h2, h3⟩ := h
  exact ⟨ss, fs, hv, h1.since s, row, h2.since s, h3.since s⟩
theorem IsEx.len {B : Nat → Prop} {w : World} {e : Px.Ex} {cs : List Value} (h : IsEx B w e cs) : cs.length = 8 := by
  cases e; rw [IsEx] at h; obtain ⟨sl, row, hc, _⟩ := h; rw [hc]; rfl
theorem IsSt.len {B : Nat → Prop} {w : World} {e : Px.St} {cs : List Value} (h : IsSt B w e cs) : cs.length = 9 := by
  cases e; rw [IsSt] at h; obtain ⟨s1, s2, s3, r1, r2, r3, hc, _⟩ := h; rw [hc]; rfl
theorem IsFn.len {B : Nat → Prop} {w : World} {e : Px.Fn} {cs : List Value} (h : IsFn B w e cs) : cs.length = 7 := by
  obtain ⟨ps, bs, hc, _⟩ := h; rw [hc]; rfl
theorem AllEx.get {B : Nat → Prop} {w : World} : ∀ {l : List Px.Ex} {row : List Value} {i : Nat} {e : Px.Ex}, AllEx B w l row → l[i]? = some e → ∃ cs, IsEx B w e cs ∧ ∀ j, j < 8 → row[i * 8 + j]? = cs[j]?
  | [], row, i, e, h, hi => by simp at hi
  | a :: r, row, 0, e, h, hi => by
    rw [AllEx] at h
    obtain ⟨c1, c2, hc, h1, h2⟩ := h
    simp at hi; subst hi
    exact ⟨c1, h1, fun j hj => by rw [hc, List.getElem?_append_left (by have := h1.len; omega)]; simp⟩
  | a :: r, row, i + 1, e, h, hi => by
    rw [AllEx] at h
    obtain ⟨c1, c2, hc, h1, h2⟩ := h
    obtain ⟨cs, k1, k2⟩ := AllEx.get h2 (by simpa using hi)
    refine ⟨cs, k1, fun j hj => ?_⟩
    have := h1.len
    rw [hc, List.getElem?_append_right (by omega), ← k2 j hj]
    congr 1
    omega
theorem AllSt.get {B : Nat → Prop} {w : World} : ∀ {l : List Px.St} {row : List Value} {i : Nat} {e : Px.St}, AllSt B w l row → l[i]? = some e → ∃ cs, IsSt B w e cs ∧ ∀ j, j < 9 → row[i * 9 + j]? = cs[j]?
  | [], row, i, e, h, hi => by simp at hi
  | a :: r, row, 0, e, h, hi => by
    rw [AllSt] at h
    obtain ⟨c1, c2, hc, h1, h2⟩ := h
    simp at hi; subst hi
    exact ⟨c1, h1, fun j hj => by rw [hc, List.getElem?_append_left (by have := h1.len; omega)]; simp⟩
  | a :: r, row, i + 1, e, h, hi => by
    rw [AllSt] at h
    obtain ⟨c1, c2, hc, h1, h2⟩ := h
    obtain ⟨cs, k1, k2⟩ := AllSt.get h2 (by simpa using hi)
    refine ⟨cs, k1, fun j hj => ?_⟩
    have := h1.len
    rw [hc, List.getElem?_append_right (by omega), ← k2 j hj]
    congr 1
    omega
theorem AllFn.get {B : Nat → Prop} {w : World} : ∀ {l : List Px.Fn} {row : List Value} {i : Nat} {e : Px.Fn}, AllFn B w l row → l[i]? = some e → ∃ cs, IsFn B w e cs ∧ ∀ j, j < 7 → row[i * 7 + j]? = cs[j]?
  | [], row, i, e, h, hi => by simp at hi
  | a :: r, row, 0, e, h, hi => by
    obtain ⟨c1, c2, hc, h1, h2⟩ := h
    simp at hi; subst hi
    exact ⟨c1, h1, fun j hj => by rw [hc, List.getElem?_append_left (by have := h1.len; omega)]; simp⟩
  | a :: r, row, i + 1, e, h, hi => by
    obtain ⟨c1, c2, hc, h1, h2⟩ := h
    obtain ⟨cs, k1, k2⟩ := AllFn.get h2 (by simpa using hi)
    refine ⟨cs, k1, fun j hj => ?_⟩
    have := h1.len
    rw [hc, List.getElem?_append_right (by omega), ← k2 j hj]
    congr 1
    omega
theorem AllEx.snoc {B : Nat → Prop} {w : World} : ∀ {l : List Px.Ex} {row : List Value} {e : Px.Ex} {cs : List Value}, AllEx B w l row → IsEx B w e cs → AllEx B w (l ++ [e]) (row ++ cs)
  | [], row, e, cs, h, he => by
    rw [AllEx] at h; subst h
    rw [List.nil_append, List.nil_append, AllEx]
    exact ⟨cs, [], by simp, he, by rw [AllEx]⟩
  | a :: r, row, e, cs, h, he => by
    rw [AllEx] at h
    obtain ⟨c1, c2, hc, h1, h2⟩ := h
    rw [List.cons_append, AllEx]
    exact ⟨c1, c2 ++ cs, by rw [hc]; simp, h1, AllEx.snoc h2 he⟩
theorem AllSt.snoc {B : Nat → Prop} {w : World} : ∀ {l : List Px.St} {row : List Value} {e : Px.St} {cs : List Value}, AllSt B w l row → IsSt B w e cs → AllSt B w (l ++ [e]) (row ++ cs)
  | [], row, e, cs, h, he => by
    rw [AllSt] at h; subst h
    rw [List.nil_append, List.nil_append, AllSt]
    exact ⟨cs, [], by simp, he, by rw [AllSt]⟩
  | a :: r, row, e, cs, h, he => by
    rw [AllSt] at h
    obtain ⟨c1, c2, hc, h1, h2⟩ := h
    rw [List.cons_append, AllSt]
    exact ⟨c1, c2 ++ cs, by rw [hc]; simp, h1, AllSt.snoc h2 he⟩
theorem AllFn.snoc {B : Nat → Prop} {w : World} : ∀ {l : List Px.Fn} {row : List Value} {e : Px.Fn} {cs : List Value}, AllFn B w l row → IsFn B w e cs → AllFn B w (l ++ [e]) (row ++ cs)
  | [], row, e, cs, h, he => by
    rw [AllFn] at h; subst h
    exact ⟨cs, [], by simp, he, rfl⟩
  | a :: r, row, e, cs, h, he => by
    obtain ⟨c1, c2, hc, h1, h2⟩ := h
    exact ⟨c1, c2 ++ cs, by rw [hc]; simp, h1, AllFn.snoc h2 he⟩
/-- One element's cells. -/
theorem SlRow.cells {B : Nat → Prop} {w : World} {sz : Nat} {v : Value} {n : Nat} {row : List Value} (h : SlRow B w sz v n row) (hn : 0 < n) : ∃ g o cap, v = .slice (some ⟨g, o, none⟩) n cap ∧ n ≤ cap ∧ cap ≤ maxLen ∧ B g ∧ g < w.heap.size ∧ ∀ (j : Nat) (u : Value), row[j]? = some u → w.cell? ⟨g, o + j, none⟩ = some u := by
  rcases h.2 with ⟨_, h0⟩ | h
  · omega
  · exact h
theorem SlRow.slice {B : Nat → Prop} {w : World} {sz : Nat} {v : Value} {n : Nat} {row : List Value} (h : SlRow B w sz v n row) : ∃ ao cap, v = .slice ao n cap ∧ n ≤ maxLen := by
  rcases h.2 with ⟨h1, h0⟩ | ⟨g, o, cap, h1, h2, h3, _⟩
  · exact ⟨none, 0, by rw [h1, h0], by omega⟩
  · exact ⟨_, cap, h1, by omega⟩
mutual
def exSize : Px.Ex → Nat
  | .mk _ _ _ _ a _ => 1 + exsSize a
def exsSize : List Px.Ex → Nat
  | [] => 0
  | e :: r => exSize e + exsSize r
end
mutual
def stSize : Px.St → Nat
  | .mk _ _ _ b c _ => 1 + stsSize b + stsSize c
def stsSize : List Px.St → Nat
  | [] => 0
  | e :: r => stSize e + stsSize r
end
theorem exsSize_get : ∀ {l : List Px.Ex} {i : Nat} {e : Px.Ex}, l[i]? = some e → exSize e ≤ exsSize l
  | [], i, e, h => by simp at h
  | a :: r, 0, e, h => by simp at h; subst h; simp [exsSize]
  | a :: r, i + 1, e, h => by
    have := exsSize_get (l := r) (i := i) (by simpa using h)
    simp only [exsSize]; omega
theorem stsSize_get : ∀ {l : List Px.St} {i : Nat} {e : Px.St}, l[i]? = some e → stSize e ≤ stsSize l
  | [], i, e, h => by simp at h
  | a :: r, 0, e, h => by simp at h; subst h; simp [stsSize]
  | a :: r, i + 1, e, h => by
    have := stsSize_get (l := r) (i := i) (by simpa using h)
    simp only [stsSize]; omega
end Go.Proofs.YtifebbdjdllfpaaGreatDoor
