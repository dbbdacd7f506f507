/- Texts of ours, joined: Km, Dr. -/
import Derived.Test.YtndahpcjkcihlaaG01
import Derived.Test.YtndahpcjkcihlaaG03
import Derived.OrdersHeld
/- How modules lie in memory. -/
namespace Go.Proofs.Ytndahpcjkcihlaa
open Go.RowKit
set_option linter.unusedVariables false
set_option linter.unusedSimpArgs false

def inCells (i : In) : List Value := [.int .i64 i.op, .int .i64 i.a]
/-- A slice of instructions. -/
structure IsIs (B : Nat → Prop) (w : World) (l : List In) (sl : Value) : Prop where
  row : SlRow B w 2 sl l.length (l.flatMap inCells)
  rng : ∀ i ∈ l, InR i.op ∧ InR i.a
/-- A function whose code is that slice. -/
structure IsFn (B : Nat → Prop) (w : World) (f : Fu) (sl : Value) : Prop where
  p : InR f.params
  l : InR f.locals
  z : InR f.zero
  s : InR f.stack
  code : IsIs B w f.code sl
/-- The five cells of a function. -/
def IsFu (B : Nat → Prop) (w : World) (f : Fu) (cs : List Value) : Prop := ∃ ao cap, cs = [.int .i64 f.params, .int .i64 f.locals, .int .i64 f.zero, .int .i64 f.stack, .slice ao f.code.length cap] ∧ IsFn B w f (.slice ao f.code.length cap)
def AllFu (B : Nat → Prop) (w : World) : List Fu → List Value → Prop
  | [], cs => cs = []
  | e :: r, cs => ∃ c1 c2, cs = c1 ++ c2 ∧ IsFu B w e c1 ∧ AllFu B w r c2
/-- A slice of functions. -/
def IsFus (B : Nat → Prop) (w : World) (l : List Fu) (sl : Value) : Prop := ∃ row, SlRow B w 5 sl l.length row ∧ AllFu B w l row
/-- A module whose lists are these slices. -/
structure IsMd (B : Nat → Prop) (w : World) (m : Md) (cs fs : Value) : Prop where
  con : IsVs B w m.consts cs
  fun_ : IsFus B w m.funcs fs
theorem IsIs.since {B : Nat → Prop} {w w' : World} {l : List In} {sl : Value} (h : IsIs B w l sl) (s : Since B w w') : IsIs B w' l sl := ⟨h.row.since s, h.rng⟩
theorem IsIs.base {B B' : Nat → Prop} {w : World} {l : List In} {sl : Value} (h : IsIs B w l sl) (hb : ∀ k, B k → k < w.heap.size → B' k) : IsIs B' w l sl := ⟨h.row.base hb, h.rng⟩
theorem IsFn.since {B : Nat → Prop} {w w' : World} {f : Fu} {sl : Value} (h : IsFn B w f sl) (s : Since B w w') : IsFn B w' f sl := ⟨h.p, h.l, h.z, h.s, h.code.since s⟩
theorem IsFn.below {B : Nat → Prop} {w w' : World} {f : Fu} {sl : Value} (h : IsFn B w f sl) (s : Below w.heap.size w w') : IsFn B w' f sl := h.since (Since.of_below s)
theorem IsFn.base {B B' : Nat → Prop} {w : World} {f : Fu} {sl : Value} (h : IsFn B w f sl) (hb : ∀ k, B k → k < w.heap.size → B' k) : IsFn B' w f sl := ⟨h.p, h.l, h.z, h.s, h.code.base hb⟩
theorem IsFu.since {B : Nat → Prop} {w w' : World} {f : Fu} {cs : List Value} (h : IsFu B w f cs) (s : Since B w w') : IsFu B w' f cs := by
  obtain ⟨ao, cap, h1, h2⟩ := h
  exact ⟨ao, cap, h1, h2.since s⟩
theorem IsFu.base {B B' : Nat → Prop} {w : World} {f : Fu} {cs : List Value} (h : IsFu B w f cs) (hb : ∀ k, B k → k < w.heap.size → B' k) : IsFu B' w f cs := by
  obtain ⟨ao, cap, h1, h2⟩ := h
  exact ⟨ao, cap, h1, h2.base hb⟩
theorem AllFu.since {B : Nat → Prop} {w w' : World} (s : Since B w w') : ∀ {l : List Fu} {cs : List Value}, AllFu B w l cs → AllFu B w' l cs
  | [], cs, h => by rw [AllFu] at h ⊢; exact h
  | e :: r, cs, h => by
    rw [AllFu] at h ⊢
    obtain ⟨c1, c2, hc, h1, h2⟩ := h
    exact ⟨c1, c2, hc, h1.since s, AllFu.since s h2⟩
theorem AllFu.base {B B' : Nat → Prop} {w : World} (hb : ∀ k, B k → k < w.heap.size → B' k) : ∀ {l : List Fu} {cs : List Value}, AllFu B w l cs → AllFu B' w l cs
  | [], cs, h => by rw [AllFu] at h ⊢; exact h
  | e :: r, cs, h => by
    rw [AllFu] at h ⊢
    obtain ⟨c1, c2, hc, h1, h2⟩ := h
    exact ⟨c1, c2, hc, h1.base hb, AllFu.base hb h2⟩
theorem IsFus.since {B : Nat → Prop} {w w' : World} {l : List Fu} {sl : Value} (h : IsFus B w l sl) (s : Since B w w') : IsFus B w' l sl := by
  obtain ⟨row, h1, h2⟩ := h
  exact ⟨row, h1.since s, h2.since s⟩
theorem IsFus.base {B B' : Nat → Prop} {w : World} {l : List Fu} {sl : Value} (h : IsFus B w l sl) (hb : ∀ k, B k → k < w.heap.size → B' k) : IsFus B' w l sl := by
  obtain ⟨row, h1, h2⟩ := h
  exact ⟨row, h1.base hb, h2.base hb⟩
theorem IsMd.since {B : Nat → Prop} {w w' : World} {m : Md} {cs fs : Value} (h : IsMd B w m cs fs) (s : Since B w w') : IsMd B w' m cs fs := ⟨h.con.since s, h.fun_.since s⟩
theorem IsMd.below {B : Nat → Prop} {w w' : World} {m : Md} {cs fs : Value} (h : IsMd B w m cs fs) (s : Below w.heap.size w w') : IsMd B w' m cs fs := h.since (Since.of_below s)
theorem IsMd.base {B B' : Nat → Prop} {w : World} {m : Md} {cs fs : Value} (h : IsMd B w m cs fs) (hb : ∀ k, B k → k < w.heap.size → B' k) : IsMd B' w m cs fs := ⟨h.con.base hb, h.fun_.base hb⟩
theorem IsFu.len {B : Nat → Prop} {w : World} {e : Fu} {cs : List Value} (h : IsFu B w e cs) : cs.length = 5 := by
  obtain ⟨ao, cap, rfl, _⟩ := h; rfl
theorem AllFu.get {B : Nat → Prop} {w : World} : ∀ {l : List Fu} {row : List Value} {i : Nat} {e : Fu}, AllFu B w l row → l[i]? = some e → ∃ cs, IsFu B w e cs ∧ ∀ j, j < 5 → row[i * 5 + j]? = cs[j]?
  | [], row, i, e, h, hi => by simp at hi
  | a :: r, row, 0, e, h, hi => by
    rw [AllFu] at h
    obtain ⟨c1, c2, hc, h1, h2⟩ := h
    simp at hi; subst hi
    exact ⟨c1, h1, fun j hj => by rw [hc, List.getElem?_append_left (by have := h1.len; omega)]; simp⟩
  | a :: r, row, i + 1, e, h, hi => by
    rw [AllFu] at h
    obtain ⟨c1, c2, hc, h1, h2⟩ := h
    obtain ⟨cs, k1, k2⟩ := AllFu.get h2 (by simpa using hi)
    refine ⟨cs, k1, fun j hj => ?_⟩
    have := h1.len
    rw [hc, List.getElem?_append_right (by omega), ← k2 j hj]
    congr 1
    omega
theorem AllFu.snoc {B : Nat → Prop} {w : World} : ∀ {l : List Fu} {row : List Value} {e : Fu} {cs : List Value}, AllFu B w l row → IsFu B w e cs → AllFu B w (l ++ [e]) (row ++ cs)
  | [], row, e, cs, h1, h2 => by
    rw [AllFu] at h1
    subst h1
    rw [List.nil_append, List.nil_append, AllFu]
    exact ⟨cs, [], by simp, h2, by rw [AllFu]⟩
  | x :: r, row, e, cs, h1, h2 => by
    rw [AllFu] at h1
    obtain ⟨c1, c2, rfl, h3, h4⟩ := h1
    rw [List.cons_append, AllFu]
    exact ⟨c1, c2 ++ cs, by simp, h3, AllFu.snoc h4 h2⟩
theorem SlRow.val5 {B : Nat → Prop} {w : World} {sz : Nat} {v : Value} {n : Nat} {row : List Value} (h : SlRow B w sz v n row) : ∃ ao cap, v = .slice ao n cap ∧ n ≤ cap ∧ cap ≤ 9223372036854775807 := by
  rcases h.2 with ⟨h1, rfl⟩ | ⟨g, o, cap, rfl, h1, h2, _⟩
  · rcases h1 with rfl | ⟨a, cap, rfl, hc⟩
    · exact ⟨none, 0, rfl, Nat.le_refl _, by omega⟩
    · exact ⟨some a, cap, rfl, Nat.zero_le _, by unfold maxLen at hc; omega⟩
  · exact ⟨_, cap, rfl, h1, by unfold maxLen at h2; omega⟩
theorem inRow_get : ∀ {l : List In} {i : Nat} {s : In}, l[i]? = some s → (l.flatMap inCells)[i * 2]? = some (.int .i64 s.op) ∧ (l.flatMap inCells)[i * 2 + 1]? = some (.int .i64 s.a)
  | [], i, s, h => by simp at h
  | a :: r, 0, s, h => by simp at h; subst h; simp [inCells]
  | a :: r, i + 1, s, h => by
    have ih := inRow_get (l := r) (i := i) (by simpa using h)
    have e : ((a :: r).flatMap inCells) = .int .i64 a.op :: .int .i64 a.a :: (r.flatMap inCells) := by simp [inCells]
    rw [e]
    refine ⟨?_, ?_⟩
    · rw [show (i + 1) * 2 = i * 2 + 1 + 1 by omega]; simpa using ih.1
    · rw [show (i + 1) * 2 + 1 = i * 2 + 1 + 1 + 1 by omega]; simpa using ih.2
/-- An instruction of a slice. -/
theorem IsIs.get {B : Nat → Prop} {w : World} {l : List In} {ao : Option Addr} {n cap : Nat} (h : IsIs B w l (.slice ao n cap)) {i : Nat} {x : In} (hi : l[i]? = some x) : ∃ g o, ao = some ⟨g, o, none⟩ ∧ B g ∧ g < w.heap.size ∧ w.cell? ⟨g, o + i * 2, none⟩ = some (.int .i64 x.op) ∧ w.cell? ⟨g, o + i * 2 + 1, none⟩ = some (.int .i64 x.a) ∧ InR x.op ∧ InR x.a := by
  obtain ⟨⟨h1, h2⟩, h3⟩ := h
  have hlt := (List.getElem?_eq_some_iff.1 hi).1
  rcases h2 with ⟨_, h4⟩ | ⟨g, o, cap', e, h5, h6, h7, h8, h9⟩
  · omega
  · simp only [Value.slice.injEq] at e
    obtain ⟨g1, g2⟩ := inRow_get hi
    have h10 := h3 x (List.mem_of_getElem? hi)
    exact ⟨g, o, e.1, h7, h8, h9 _ _ g1, by have := h9 _ _ g2; rwa [← Nat.add_assoc] at this, h10⟩
/-- A function of a slice. -/
theorem IsFus.get {B : Nat → Prop} {w : World} {l : List Fu} {ao : Option Addr} {n cap : Nat} (h : IsFus B w l (.slice ao n cap)) {i : Nat} {f : Fu} (hi : l[i]? = some f) : ∃ g o ac cc, ao = some ⟨g, o, none⟩ ∧ B g ∧ g < w.heap.size ∧ w.cell? ⟨g, o + i * 5, none⟩ = some (.int .i64 f.params) ∧ w.cell? ⟨g, o + i * 5 + 1, none⟩ = some (.int .i64 f.locals) ∧ w.cell? ⟨g, o + i * 5 + 2, none⟩ = some (.int .i64 f.zero) ∧ w.cell? ⟨g, o + i * 5 + 3, none⟩ = some (.int .i64 f.stack) ∧ w.cell? ⟨g, o + i * 5 + 4, none⟩ = some (.slice ac f.code.length cc) ∧ IsFn B w f (.slice ac f.code.length cc) := by
  obtain ⟨row, ⟨h1, h2⟩, h3⟩ := h
  have hlt := (List.getElem?_eq_some_iff.1 hi).1
  rcases h2 with ⟨_, h4⟩ | ⟨g, o, cap', e, h5, h6, h7, h8, h9⟩
  · omega
  · simp only [Value.slice.injEq] at e
    obtain ⟨cs, ⟨ac, cc, rfl, hf⟩, hrow⟩ := h3.get hi
    have hc : ∀ (j : Nat) (u : Value), j < 5 → ([Value.int .i64 f.params, .int .i64 f.locals, .int .i64 f.zero, .int .i64 f.stack, .slice ac f.code.length cc] : List Value)[j]? = some u → w.cell? ⟨g, o + i * 5 + j, none⟩ = some u := fun j u hj hu => by
      have := h9 _ u ((hrow j hj).trans hu)
      rwa [← Nat.add_assoc] at this
    exact ⟨g, o, ac, cc, e.1, h7, h8, hc 0 _ (by omega) rfl, hc 1 _ (by omega) rfl, hc 2 _ (by omega) rfl, hc 3 _ (by omega) rfl, hc 4 _ (by omega) rfl, hf⟩
theorem IsFus.slice {B : Nat → Prop} {w : World} {l : List Fu} {sl : Value} (h : IsFus B w l sl) : ∃ ao cap, sl = .slice ao l.length cap ∧ l.length ≤ cap ∧ cap ≤ 9223372036854775807 := by
  obtain ⟨row, h1, _⟩ := h
  exact h1.val5
theorem IsIs.slice {B : Nat → Prop} {w : World} {l : List In} {sl : Value} (h : IsIs B w l sl) : ∃ ao cap, sl = .slice ao l.length cap ∧ l.length ≤ cap ∧ cap ≤ 9223372036854775807 := h.row.val5
end Go.Proofs.Ytndahpcjkcihlaa
/- A region that draws its order, and in which a part of the operations (N) keeps what the loads read (S): the loads may be taken first. Behind the others nothing is asked. -/
namespace Go.Proofs.Ytndahpcjkcihlaa
open Go Go.RowKit
set_option linter.unusedSimpArgs false
set_option linter.unusedVariables false

section
variable {P : Program} {ops : Array Oper} {Q : Exit → Act → World → Prop} {md : Region.Mode} {S T : World → Prop} {N : Nat → Bool}
/-- Whatever comes up next; behind the operations that N names S holds. -/
def wpE (P : Program) (md : Region.Mode) (ops : Array Oper) (Q : Exit → Act → World → Prop) (S : World → Prop) (N : Nat → Bool) : Nat → Array Bool → Act → World → Prop
  | 0, listed, a, w => Region.ready md ops listed = [] ∧ Q .normal a w
  | f + 1, listed, a, w => (Region.ready md ops listed = [] → Q .normal a w) ∧ ∀ i ∈ Region.ready md ops listed, wpOp P ops Q i (fun a' w' => (N i = true → S w') ∧ wpE P md ops Q S N f (listed.setIfInBounds i true) a' w') a w
theorem wpE_any : ∀ (f : Nat) (listed : Array Bool) (a : Act) (w : World), wpE P md ops Q S N f listed a w → wpAny P md ops Q f listed a w
  | 0, _, _, _, h => h
  | f + 1, _, _, _, h => ⟨h.1, fun i hi => wpOp_mono (fun a' w' hh => wpE_any f _ a' w' hh.2) (h.2 i hi)⟩
theorem wpE_first {i : Nat} {oi : Oper} {v : Value} (hi : ops[i]? = some oi) (hsel : ∀ (j : Nat) (o : Oper) cs b, ops[j]? = some o → o.op ≠ .select cs b) (hQ : ∀ c a w, Q (.panic c) (a.put oi.dst v) w → Q (.panic c) a w) (hTS : ∀ w, T w → N i = true → S w) :
    ∀ (f : Nat) (listed : Array Bool) (a : Act) (w : World),
      (∀ j oj, ops[j]? = some oj → j ≠ i → listed.getD j true = false → (∀ e ∈ oj.after, Region.binds md e = true → e.on ≠ i) → oi.apart ops oj = true ∧ ∀ w', (N j = true → S w') → T w') →
      i ∈ Region.ready md ops listed → YieldsIf P ops T oi v a → T w → wpE P md ops Q S N f (listed.setIfInBounds i true) (a.put oi.dst v) w → wpE P md ops Q S N (f + 1) listed a w := by
  intro f
  induction f with
  | zero =>
    intro listed a w hfr hr hy hT H
    refine ⟨fun h => absurd hr (by rw [h]; simp), fun j hj => ?_⟩
    by_cases hji : j = i
    · subst hji
      exact hy.wpOp hi hT ⟨hTS w hT, H⟩
    · have h0 := ready_mono hj hji
      rw [H.1] at h0
      simp at h0
  | succ f ih =>
    intro listed a w hfr hr hy hT H
    refine ⟨fun h => absurd hr (by rw [h]; simp), fun j hj => ?_⟩
    by_cases hji : j = i
    · subst hji
      exact hy.wpOp hi hT ⟨hTS w hT, H⟩
    · have h1 := H.2 j (ready_mono hj hji)
      obtain ⟨hun, oj, hoj, hall⟩ := mem_ready.1 hj
      have hnot : ∀ e ∈ oj.after, Region.binds md e = true → e.on ≠ i := by
        intro e he hb heq
        have hon := hall e he hb
        have hun0 := (mem_ready.1 hr).1
        rw [heq] at hon
        by_cases hlt : i < listed.size
        · simp [hlt] at hun0 hon
          rw [hun0] at hon; simp at hon
        · simp [Array.getElem?_eq_none (Nat.le_of_not_lt hlt)] at hon
      obtain ⟨hap, hTj⟩ := hfr j oj hoj hji hun hnot
      have h2 := wpOp_putIf hoj hap (fun cs b => hsel i oi cs b hi) (fun cs b => hsel j oj cs b hoj) hQ hy h1
      have hfr' : ∀ k ok, ops[k]? = some ok → k ≠ i → (listed.setIfInBounds j true).getD k true = false → (∀ e ∈ ok.after, Region.binds md e = true → e.on ≠ i) → oi.apart ops ok = true ∧ ∀ w', (N k = true → S w') → T w' := by
        intro k ok hk hki hunk hno
        refine hfr k ok hk hki ?_ hno
        by_cases hjk : j = k
        · rw [← hjk]; exact hun
        · rw [getD_set_ne true hjk] at hunk; exact hunk
      refine wpOp_mono (fun a' w' h3 => ⟨h3.2.1, ih _ a' w' hfr' (ready_mono hr (fun e => hji e.symm)) h3.1 (hTj w' h3.2.1) ?_⟩) h2
      rw [Array.setIfInBounds_comm _ _ hji]
      exact h3.2.2
/-- All that N does not name wait for number i. -/
def lateWait (md : Region.Mode) (ops : Array Oper) (N : Nat → Bool) (i : Nat) : Bool := (List.range ops.size).all fun j => N j || j == i || ((ops[j]?).map fun o => o.after.any fun e => Region.binds md e && e.on == i).getD true
theorem lateWait_spec {i j : Nat} {oj : Oper} (h : lateWait md ops N i = true) (hj : ops[j]? = some oj) (hne : j ≠ i) (hno : ∀ e ∈ oj.after, Region.binds md e = true → e.on ≠ i) : N j = true := by
  have h1 := List.all_eq_true.1 h j (by simp; exact (Array.getElem?_eq_some_iff.1 hj).1)
  simp only [hj, Option.map_some, Option.getD_some, Bool.or_eq_true, beq_iff_eq] at h1
  rcases h1 with (h1 | h1) | h1
  · exact h1
  · exact absurd h1 hne
  · obtain ⟨e, he, hb⟩ := List.any_eq_true.1 (by rw [Array.any_toList]; exact h1)
    simp only [Bool.and_eq_true, beq_iff_eq] at hb
    exact absurd hb.2 (hno e (by simpa using he) hb.1)
/-- Take number i first: what it yields it yields in every world that meets S. -/
theorem wpE_take {i : Nat} {oi : Oper} {v : Value} {f : Nat} {listed : Array Bool} {a : Act} {w : World} (hi : ops[i]? = some oi) (hs : Region.noSelect ops = true) (hf : Region.free md ops listed i = true) (hr : (Region.ready md ops listed).contains i = true) (hl : lateWait md ops N i = true)
    (hQ : ∀ c a w, Q (.panic c) (a.put oi.dst v) w → Q (.panic c) a w) (hw : Region.wanted oi (yielded ops a.tmps) = true) (hy : ∀ w, S w → (execOp a.eval oi).run P w = .ok (.value v) w) (hS : S w) (h : wpE P md ops Q S N f (listed.setIfInBounds i true) (a.put oi.dst v) w) : wpE P md ops Q S N (f + 1) listed a w :=
  wpE_first (T := S) hi (Region.noSelect_spec hs) hQ (fun _ h _ => h) f listed a w (fun j oj h1 h2 h3 h4 => ⟨Region.free_spec hi hf j oj h1 h2 h3 h4, fun w' hw' => hw' (lateWait_spec hl h1 h2 h4)⟩) (by simpa using hr) (Or.inl ⟨hw, hy⟩) hS h
/-- Take number i first, behind all that N names: it yields in whatever world. -/
theorem wpE_takeL {i : Nat} {oi : Oper} {v : Value} {f : Nat} {listed : Array Bool} {a : Act} {w : World} (hi : ops[i]? = some oi) (hs : Region.noSelect ops = true) (hf : Region.free md ops listed i = true) (hr : (Region.ready md ops listed).contains i = true) (hN : N i = false)
    (hQ : ∀ c a w, Q (.panic c) (a.put oi.dst v) w → Q (.panic c) a w) (hw : Region.wanted oi (yielded ops a.tmps) = true) (hy : ∀ w, (execOp a.eval oi).run P w = .ok (.value v) w) (h : wpE P md ops Q S N f (listed.setIfInBounds i true) (a.put oi.dst v) w) : wpE P md ops Q S N (f + 1) listed a w :=
  wpE_first (T := fun _ => True) hi (Region.noSelect_spec hs) hQ (fun _ _ h => by rw [hN] at h; simp at h) f listed a w (fun j oj h1 h2 h3 h4 => ⟨Region.free_spec hi hf j oj h1 h2 h3 h4, fun _ _ => trivial⟩) (by simpa using hr) (Or.inl ⟨hw, fun w _ => hy w⟩) trivial h
/-- The same, where those that W names wait, one behind the other, for number i. -/
theorem wpE_firstW {i : Nat} {oi : Oper} {v : Value} {W : Nat → Bool} (hi : ops[i]? = some oi) (hsel : ∀ (j : Nat) (o : Oper) cs b, ops[j]? = some o → o.op ≠ .select cs b) (hQ : ∀ c a w, Q (.panic c) (a.put oi.dst v) w → Q (.panic c) a w) (hTS : ∀ w, T w → N i = true → S w)
    (hW : ∀ j oj, ops[j]? = some oj → W j = true → ∃ e ∈ oj.after, Region.binds md e = true ∧ (e.on = i ∨ W e.on = true)) :
    ∀ (f : Nat) (listed : Array Bool) (a : Act) (w : World), (∀ j, W j = true → j < listed.size ∧ listed.getD j true = false) →
      (∀ j oj, ops[j]? = some oj → j ≠ i → W j = false → listed.getD j true = false → (∀ e ∈ oj.after, Region.binds md e = true → e.on ≠ i) → oi.apart ops oj = true ∧ ∀ w', (N j = true → S w') → T w') →
      i ∈ Region.ready md ops listed → YieldsIf P ops T oi v a → T w → wpE P md ops Q S N f (listed.setIfInBounds i true) (a.put oi.dst v) w → wpE P md ops Q S N (f + 1) listed a w := by
  intro f
  induction f with
  | zero =>
    intro listed a w hWl hfr hr hy hT H
    refine ⟨fun h => absurd hr (by rw [h]; simp), fun j hj => ?_⟩
    by_cases hji : j = i
    · subst hji
      exact hy.wpOp hi hT ⟨hTS w hT, H⟩
    · have h0 := ready_mono hj hji
      rw [H.1] at h0
      simp at h0
  | succ f ih =>
    intro listed a w hWl hfr hr hy hT H
    refine ⟨fun h => absurd hr (by rw [h]; simp), fun j hj => ?_⟩
    by_cases hji : j = i
    · subst hji
      exact hy.wpOp hi hT ⟨hTS w hT, H⟩
    · have h1 := H.2 j (ready_mono hj hji)
      obtain ⟨hun, oj, hoj, hall⟩ := mem_ready.1 hj
      have hiun : ¬ (listed.getD i false = true) := by
        have hun0 := (mem_ready.1 hr).1
        by_cases hlt : i < listed.size
        · simp [hlt] at hun0 ⊢
          exact hun0
        · simp [Array.getElem?_eq_none (Nat.le_of_not_lt hlt)]
      have hnot : ∀ e ∈ oj.after, Region.binds md e = true → e.on ≠ i := by
        intro e he hb heq
        have hon := hall e he hb
        rw [heq] at hon
        exact hiun (by simpa using hon)
      have hWj : W j = false := by
        rcases hw : W j with _ | _
        · rfl
        · obtain ⟨e, he, hb, ho⟩ := hW j oj hoj hw
          have hon := hall e he hb
          rcases ho with ho | ho
          · exact absurd ho (hnot e he hb)
          · obtain ⟨h2, h3⟩ := hWl _ ho
            simp [h2] at hon h3
            rw [h3] at hon; cases hon
      obtain ⟨hap, hTj⟩ := hfr j oj hoj hji hWj hun hnot
      have h2 := wpOp_putIf hoj hap (fun cs b => hsel i oi cs b hi) (fun cs b => hsel j oj cs b hoj) hQ hy h1
      have hWl' : ∀ k, W k = true → k < (listed.setIfInBounds j true).size ∧ (listed.setIfInBounds j true).getD k true = false := by
        intro k hk
        have hjk : j ≠ k := by rintro rfl; rw [hk] at hWj; cases hWj
        obtain ⟨g1, g2⟩ := hWl k hk
        exact ⟨by simpa using g1, by rw [getD_set_ne true hjk]; exact g2⟩
      have hfr' : ∀ k ok, ops[k]? = some ok → k ≠ i → W k = false → (listed.setIfInBounds j true).getD k true = false → (∀ e ∈ ok.after, Region.binds md e = true → e.on ≠ i) → oi.apart ops ok = true ∧ ∀ w', (N k = true → S w') → T w' := by
        intro k ok hk hki hwk hunk hno
        refine hfr k ok hk hki hwk ?_ hno
        by_cases hjk : j = k
        · rw [← hjk]; exact hun
        · rw [getD_set_ne true hjk] at hunk; exact hunk
      refine wpOp_mono (fun a' w' h3 => ⟨h3.2.1, ih _ a' w' hWl' hfr' (ready_mono hr (fun e => hji e.symm)) h3.1 (hTj w' h3.2.1) ?_⟩) h2
      rw [Array.setIfInBounds_comm _ _ hji]
      exact h3.2.2
/-- Those that W names wait for number i; all others but i keep S. -/
def waitW (md : Region.Mode) (ops : Array Oper) (N W : Nat → Bool) (listed : Array Bool) (i : Nat) : Bool := (List.range ops.size).all fun j => if W j then (listed[j]? == some false) && ((ops[j]?).map fun o => o.after.any fun e => Region.binds md e && (e.on == i || W e.on)).getD false else (N j || j == i)
theorem wpE_takeW {i : Nat} {oi : Oper} {v : Value} {f : Nat} {listed : Array Bool} {a : Act} {w : World} (W : Nat → Bool) (hi : ops[i]? = some oi) (hs : Region.noSelect ops = true) (hf : Region.free md ops listed i = true) (hr : (Region.ready md ops listed).contains i = true) (hl : waitW md ops N W listed i = true) (hWs : ∀ j, W j = true → j < ops.size)
    (hQ : ∀ c a w, Q (.panic c) (a.put oi.dst v) w → Q (.panic c) a w) (hw : Region.wanted oi (yielded ops a.tmps) = true) (hy : ∀ w, S w → (execOp a.eval oi).run P w = .ok (.value v) w) (hS : S w) (h : wpE P md ops Q S N f (listed.setIfInBounds i true) (a.put oi.dst v) w) : wpE P md ops Q S N (f + 1) listed a w := by
  have hall := List.all_eq_true.1 hl
  refine wpE_firstW (T := S) (W := W) hi (Region.noSelect_spec hs) hQ (fun _ h _ => h) ?_ f listed a w ?_ (fun j oj h1 h2 hWj h3 h4 => ⟨Region.free_spec hi hf j oj h1 h2 h3 h4, fun w' hw' => hw' ?_⟩) (by simpa using hr) (Or.inl ⟨hw, hy⟩) hS h
  · intro j oj hj hWj
    have h1 := hall j (by simp; exact (Array.getElem?_eq_some_iff.1 hj).1)
    simp only [hWj, if_true, hj, Option.map_some, Option.getD_some, Bool.and_eq_true] at h1
    obtain ⟨e, he, hb⟩ := List.any_eq_true.1 (by rw [Array.any_toList]; exact h1.2)
    simp only [Bool.and_eq_true, Bool.or_eq_true, beq_iff_eq] at hb
    exact ⟨e, by simpa using he, hb.1, hb.2⟩
  · intro j hWj
    have h1 := hall j (by simp; exact hWs j hWj)
    simp only [hWj, if_true, Bool.and_eq_true, beq_iff_eq] at h1
    obtain ⟨h2, h3⟩ := Array.getElem?_eq_some_iff.1 h1.1
    exact ⟨h2, by simp [h2, h3]⟩
  · have h5 := hall j (by simp; exact (Array.getElem?_eq_some_iff.1 h1).1)
    simp only [hWj, Bool.false_eq_true, if_false, Bool.or_eq_true, beq_iff_eq] at h5
    rcases h5 with h5 | h5
    · exact h5
    · exact absurd h5 h2
theorem wpE_one {i : Nat} {f : Nat} {listed : Array Bool} {a : Act} {w : World} {oi : Oper} (hr : Region.ready md ops listed = [i]) (hi : ops[i]? = some oi) (hw : Region.wanted oi (yielded ops a.tmps) = true)
    (h : ∀ K : Act → World → Prop, (∀ a' w', (N i = true → S w') → wpE P md ops Q S N f (listed.setIfInBounds i true) a' w' → K a' w') → oi.wp P a w K Q) : wpE P md ops Q S N (f + 1) listed a w := by
  refine ⟨fun h0 => by rw [hr] at h0; simp at h0, fun j hj => ?_⟩
  rw [hr] at hj
  simp at hj
  subst hj
  unfold wpOp
  simp only [hi, hw, if_true]
  exact Or.inl (h _ (fun a' w' h1 h2 => ⟨h1, h2⟩))
theorem wpE_two {i j : Nat} {f : Nat} {listed : Array Bool} {a : Act} {w : World} {oi oj : Oper} (hr : Region.ready md ops listed = [i, j]) (hi : ops[i]? = some oi) (hj : ops[j]? = some oj) (hwi : Region.wanted oi (yielded ops a.tmps) = true) (hwj : Region.wanted oj (yielded ops a.tmps) = true)
    (h1 : ∀ K : Act → World → Prop, (∀ a' w', (N i = true → S w') → wpE P md ops Q S N f (listed.setIfInBounds i true) a' w' → K a' w') → oi.wp P a w K Q)
    (h2 : ∀ K : Act → World → Prop, (∀ a' w', (N j = true → S w') → wpE P md ops Q S N f (listed.setIfInBounds j true) a' w' → K a' w') → oj.wp P a w K Q) : wpE P md ops Q S N (f + 1) listed a w := by
  refine ⟨fun h0 => by rw [hr] at h0; simp at h0, fun k hk => ?_⟩
  rw [hr] at hk
  simp at hk
  unfold wpOp
  rcases hk with rfl | rfl
  · simp only [hi, hwi, if_true]
    exact Or.inl (h1 _ (fun a' w' h1 h2 => ⟨h1, h2⟩))
  · simp only [hj, hwj, if_true]
    exact Or.inl (h2 _ (fun a' w' h1 h2 => ⟨h1, h2⟩))
theorem wpE_done {f : Nat} {listed : Array Bool} {a : Act} {w : World} (hr : Region.ready md ops listed = []) (h : Q .normal a w) : wpE P md ops Q S N f listed a w := by
  cases f with
  | zero => exact ⟨hr, h⟩
  | succ f => exact ⟨fun _ => h, by rw [hr]; simp⟩
theorem wpE_begin {id : Nat} {a : Act} {w : World} (hm : P.follows .mixedOrders = true) (h : wpE P .any ops Q S N ops.size (Array.replicate ops.size false) a w.drew) : (Code.region id ops true).wp P Q a w := wp_region_any hm (wpE_any _ _ _ _ h)
end
end Go.Proofs.Ytndahpcjkcihlaa
