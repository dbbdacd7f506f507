/- Texts of ours, joined: Kd, Ke. -/
import Derived.Test.YtndahpcjkcihlaaG37
import Derived.Test.YtndahpcjkcihlaaG31
import Derived.Test.YtndahpcjkcihlaaG14
/- Functions that are being gathered, in a row of one's own; their code in rows of its own. -/
namespace Go.Proofs.Ytndahpcjkcihlaa
open Go.RowKit
set_option linter.unusedVariables false
set_option linter.unusedSimpArgs false
attribute [local go_sem ↓] Go.wp_at_zero Go.wp_at_succ

theorem funcInfo : (Try.prog.info? 44).map (fun i => (i.zero, i.size, i.bytes)) = some (some (.agg #[.int .i64 0, .int .i64 0, .int .i64 0, .int .i64 0, .slice none 0 0]), 5, 56) := by kernel_rfl
theorem instrInfo : (Try.prog.info? 46).map (fun i => (i.zero, i.size, i.bytes)) = some (some (.agg #[.int .i64 0, .int .i64 0]), 2, 16) := by kernel_rfl
theorem inRow_len' : ∀ l : List In, (l.flatMap inCells).length = l.length * 2
  | [] => rfl
  | a :: r => by
    have := inRow_len' r
    simp only [List.flatMap_cons, List.length_append, this, List.length_cons, inCells, List.length_nil]
    omega
theorem inCells_one (l : List In) : ∀ u ∈ l.flatMap inCells, u.oneCell' = true := by
  intro u hu
  rw [List.mem_flatMap] at hu
  obtain ⟨i, _, hi⟩ := hu
  simp only [inCells, List.mem_cons, List.not_mem_nil, or_false] at hi
  rcases hi with rfl | rfl <;> rfl
theorem IsIs.news {B : Nat → Prop} {w : World} {l : List In} {ao : Option Addr} {cap : Nat} (h : IsIs B w l (.slice ao l.length cap)) : (ao = none → l.length = 0 ∧ cap = 0) ∧ ∀ b, ao = some b → ∀ j u, (l.flatMap inCells)[j]? = some u → w.cell? (b.add j) = some u := by
  obtain ⟨⟨h1, h2⟩, h3⟩ := h
  rcases h2 with ⟨hn, h0⟩ | ⟨g, o, c, e, _, _, _, _, hc⟩
  · have hl : l = [] := List.length_eq_zero_iff.1 h0
    subst hl
    refine ⟨fun e => ⟨rfl, ?_⟩, fun b hb j u hj => by simp at hj⟩
    rcases hn with hn | ⟨a, c, hn, _⟩
    · simp only [Value.slice.injEq] at hn; exact hn.2.2
    · simp only [Value.slice.injEq] at hn; rw [hn.1] at e; cases e
  · simp only [Value.slice.injEq] at e
    obtain ⟨rfl, -, rfl⟩ := e
    refine ⟨fun e => (by cases e), fun b hb j u hj => ?_⟩
    cases hb
    have := hc j u hj
    by_cases hj0 : j = 0
    · subst hj0; simpa [Addr.add] using this
    · simpa [Addr.add, hj0] using this
/-- A row of instructions of one's own. -/
abbrev OwnI (w : World) (base : Nat) (sl : Value) (l : List In) : Prop := w.ownsRow base 46 2 sl l.length (l.flatMap inCells)
theorem OwnI.is {w : World} {base : Nat} {sl : Value} {l : List In} (h : OwnI w base sl l) (hr : ∀ i ∈ l, InR i.op ∧ InR i.a) {B : Nat → Prop} (hB : ∀ k, sl.ownBlock = some k → B k) : IsIs B w l sl := by
  refine ⟨⟨h.1, ?_⟩, hr⟩
  rcases h.2 with ⟨h3, h4⟩ | ⟨g, cap, cur, h3, h4, h5, h6, h7, h8, h9⟩
  · exact Or.inl ⟨Or.inl h3, h4⟩
  · refine Or.inr ⟨g, 0, cap, h3, h6, h7, hB g (by rw [h3]; rfl), (Array.getElem?_eq_some_iff.1 h5).1, fun j u hj => ?_⟩
    have hc : w.cell? ⟨g, 0 + j, none⟩ = cur[j]? := by rw [Nat.zero_add]; simp [World.cell?, h5]
    rw [hc]
    rw [← h9, List.getElem?_take] at hj
    split at hj
    · simpa using hj
    · cases hj
theorem OwnI.since {w w' : World} {base : Nat} {sl : Value} {l : List In} (h : OwnI w base sl l) (e : ∀ j, sl.ownBlock = some j → w'.heap[j]? = w.heap[j]?) : OwnI w' base sl l := by
  refine ⟨h.1, ?_⟩
  rcases h.2 with h3 | ⟨g, cap, cur, h3, h4, h5, h6⟩
  · exact Or.inl h3
  · exact Or.inr ⟨g, cap, cur, h3, h4, by rw [e g (by rw [h3]; rfl)]; exact h5, h6⟩
/-- append([]api.Instr{}, l...) behind the empty row that was just laid down. -/
theorem freshI {B : Nat → Prop} {w : World} {ao : Option Addr} {cap : Nat} {l : List In} (h : IsIs B w l (.slice ao l.length cap)) (hl : l.length ≤ 1000000) :
    ∃ wa a1 c1 w', w.alloc (.cells #[] 46) = wa ∧ (Builtin.append_ #[42, 42] 42 #[.slice (some ⟨w.heap.size, 0, none⟩) 0 0, .slice ao l.length cap]).run Try.prog wa = .ok (.slice a1 l.length c1) w' ∧ OwnI w' w.heap.size (.slice a1 l.length c1) l ∧ Below w.heap.size w w' ∧ Below w.heap.size w wa := by
  obtain ⟨wa, hWa⟩ : ∃ wa, w.alloc (.cells #[] 46) = wa := ⟨_, rfl⟩
  have hba : Below w.heap.size w wa := by rw [← hWa]; exact (Below.refl _ _).alloc (Nat.le_refl _) _
  have hown : wa.ownsRow w.heap.size 46 2 (.slice (some ⟨w.heap.size, 0, none⟩) 0 0) 0 [] := by
    rw [← hWa]
    exact ⟨rfl, Or.inr ⟨w.heap.size, 0, #[], rfl, Nat.le_refl _, heap_new _ _, Nat.le_refl _, by unfold maxLen; omega, rfl, rfl⟩⟩
  obtain ⟨n1, n2⟩ := (h.since (Since.of_below hba)).news
  obtain ⟨ao', cap', w', hr, ho, hb', _⟩ := app_run Try.underlying42 instrInfo rfl (by decide) 42 (news := l.flatMap inCells) hown n1 (by rw [inRow_len']) n2 (inCells_one _) (by omega) (by decide) hba.size
  have hz : 0 + l.length = l.length := by omega
  rw [hz] at hr ho
  exact ⟨wa, ao', cap', w', hWa, hr, ho, hba.trans hb', hba⟩
abbrev fuCells (f : Fu) (sl : Value) : List Value := [.int .i64 f.params, .int .i64 f.locals, .int .i64 f.zero, .int .i64 f.stack, sl]
/-- The last function's code, in a row of its own, apart from all else. -/
def Tail (base : Nat) (w : World) (sl : Value) (acc : List Fu) (row : List Value) : Prop := ∀ pre f, acc = pre ++ [f] → ∃ rp a c, row = rp ++ fuCells f (.slice a f.code.length c) ∧ OwnI w base (.slice a f.code.length c) f.code ∧ (∀ k, (Value.slice a f.code.length c).ownBlock = some k → sl.ownBlock ≠ some k) ∧ AllFu (fun k => base ≤ k ∧ sl.ownBlock ≠ some k ∧ (Value.slice a f.code.length c).ownBlock ≠ some k) w pre rp
/-- Functions that are gathered: the row is owned, and what its elements hold lies in other blocks from base on. -/
def GF (base : Nat) (w : World) (sl : Value) (acc : List Fu) : Prop := ∃ row, w.ownsRow base 44 5 sl acc.length row ∧ AllFu (fun k => base ≤ k ∧ sl.ownBlock ≠ some k) w acc row ∧ Tail base w sl acc row
theorem GF.nil (base : Nat) (w : World) : GF base w (.slice none 0 0) [] := ⟨[], ⟨rfl, Or.inl ⟨rfl, rfl⟩⟩, by rw [AllFu], fun pre f e => by simp at e⟩
theorem GF.slice {base : Nat} {w : World} {sl : Value} {acc : List Fu} (h : GF base w sl acc) : ∃ ao cap, sl = .slice ao acc.length cap ∧ acc.length ≤ cap ∧ cap ≤ 9223372036854775807 := by
  obtain ⟨row, h1, _⟩ := h
  rcases h1.2 with ⟨e, h0⟩ | ⟨g, cap, cur, e, h4, h5, h6, h7, _⟩
  · exact ⟨none, 0, by rw [e, h0], by omega, by omega⟩
  · exact ⟨_, cap, e, h6, by unfold maxLen at h7; omega⟩
theorem GF.since {base : Nat} {w w' : World} {sl : Value} {acc : List Fu} (h : GF base w sl acc) (hs : w.heap.size ≤ w'.heap.size) (e : ∀ j, base ≤ j → j < w.heap.size → w'.heap[j]? = w.heap[j]?) : GF base w' sl acc := by
  obtain ⟨row, h1, h2, h3⟩ := h
  have hown : w'.ownsRow base 44 5 sl acc.length row := by
    refine ⟨h1.1, ?_⟩
    rcases h1.2 with h4 | ⟨g, cap, cur, h4, h5, h6, h7⟩
    · exact Or.inl h4
    · exact Or.inr ⟨g, cap, cur, h4, h5, by rw [e g h5 (Array.getElem?_eq_some_iff.1 h6).1]; exact h6, h7⟩
  refine ⟨row, hown, h2.since ⟨hs, fun k hk hl => e k hk.1 hl⟩, fun pre f ea => ?_⟩
  obtain ⟨rp, a, c, g1, g2, g3, g4⟩ := h3 pre f ea
  exact ⟨rp, a, c, g1, g2.since (fun j hj => by have := World.ownsRow.lt g2 j hj; exact e j this.1 this.2), g3, g4.since ⟨hs, fun k hk hl => e k hk.1 hl⟩⟩
theorem GF.below {base : Nat} {w w' : World} {sl : Value} {acc : List Fu} (h : GF base w sl acc) (hb : Below w.heap.size w w') : GF base w' sl acc := h.since hb.size (fun j _ hl => hb.block j hl)
theorem GF.fus {base : Nat} {w : World} {sl : Value} {acc : List Fu} (h : GF base w sl acc) : IsFus (From base) w acc sl := by
  obtain ⟨row, h1, h2, _⟩ := h
  refine ⟨row, ⟨h1.1, ?_⟩, h2.base (fun k hk _ => hk.1)⟩
  rcases h1.2 with ⟨h3, h4⟩ | ⟨g, cap, cur, h3, h4, h5, h6, h7, h8, h9⟩
  · exact Or.inl ⟨Or.inl h3, h4⟩
  · refine Or.inr ⟨g, 0, cap, h3, h6, h7, h4, (Array.getElem?_eq_some_iff.1 h5).1, fun j u hj => ?_⟩
    have hc : w.cell? ⟨g, 0 + j, none⟩ = cur[j]? := by rw [Nat.zero_add]; simp [World.cell?, h5]
    rw [hc]
    rw [← h9, List.getElem?_take] at hj
    split at hj
    · simpa using hj
    · cases hj
theorem fu_ones {f : Fu} {a : Option Addr} {n c : Nat} : ∀ u ∈ fuCells f (.slice a n c), u.oneCell' = true := by
  intro u hu
  simp only [fuCells, List.mem_cons, List.not_mem_nil, or_false] at hu
  rcases hu with rfl | rfl | rfl | rfl | rfl <;> rfl
/-- One function more, whose code lies in a row of its own, newer than all that was gathered. -/
theorem GF.push {base n1 : Nat} {w1 w : World} {sl : Value} {acc : List Fu} (h1 : GF base w1 sl acc) (hb : Below w1.heap.size w1 w) {f : Fu} {a : Option Addr} {c : Nat} (hI : OwnI w w1.heap.size (.slice a f.code.length c) f.code) (hf : IsFn (From w1.heap.size) w f (.slice a f.code.length c)) {g0 : Nat} (hg : w.heap[g0]? = some (.cells #[.int .i64 f.params, .int .i64 f.locals, .int .i64 f.zero, .int .i64 f.stack, .slice a f.code.length c] 44 (0, 0))) (hbase : base ≤ w1.heap.size) (hn : acc.length + 1 ≤ 1000000) (cc : Nat) :
    ∃ a2 c2 w', (Builtin.append_ #[23, 23] 23 #[sl, .slice (some ⟨g0, 0, none⟩) 1 cc]).run Try.prog w = .ok (.slice a2 (acc.length + 1) c2) w' ∧ GF base w' (.slice a2 (acc.length + 1) c2) (acc ++ [f]) ∧ Below base w w' ∧ w.grownBy w' sl.ownBlock := by
  have h := h1.below hb
  obtain ⟨row, hown, hall, -⟩ := h
  have hnews : ∀ b, (some ⟨g0, 0, none⟩ : Option Addr) = some b → ∀ (j : Nat) (u : Value), (fuCells f (.slice a f.code.length c))[j]? = some u → w.cell? (b.add j) = some u := by
    intro b hb' j u hj
    cases hb'
    have hc : w.cell? ⟨g0, j, none⟩ = (fuCells f (.slice a f.code.length c))[j]? := by simp [World.cell?, hg]
    by_cases hj0 : j = 0
    · subst hj0; simpa [Addr.add] using hc.trans hj
    · simpa [Addr.add, hj0] using hc.trans hj
  obtain ⟨a2, c2, w', hr, ho, hb2, hgr, hat⟩ := app_run_at Try.underlying23 funcInfo rfl (by decide) 23 (news := fuCells f (.slice a f.code.length c)) (m := 1) (c := cc) hown (fun e => by cases e) rfl hnews fu_ones (by omega) (by decide) (by have := hb.size; omega)
  have hslt : ∀ k, sl.ownBlock = some k → k < w1.heap.size := fun k hk => by obtain ⟨r1, q1, _⟩ := h1; exact (World.ownsRow.lt q1 k hk).2
  have hne : ∀ k, k < w.heap.size → sl.ownBlock ≠ some k → (Value.slice a2 (acc.length + 1) c2).ownBlock ≠ some k := fun k hk hs e => by
    rcases hat with h | h
    · rw [h] at e; exact hs e
    · rw [h] at e; cases e; omega
  have hkeep : ∀ k, k < w.heap.size → sl.ownBlock ≠ some k → w'.heap[k]? = w.heap[k]? := fun k hk hs => hgr.block k hk (fun e => hs e.symm)
  have hfr : ∀ k, w1.heap.size ≤ k → sl.ownBlock ≠ some k := fun k hk e => by have := hslt k e; omega
  have hcode : ∀ k, (Value.slice a f.code.length c).ownBlock = some k → w1.heap.size ≤ k ∧ k < w.heap.size := fun k hk => World.ownsRow.lt hI k hk
  have hI' : OwnI w' w1.heap.size (.slice a f.code.length c) f.code := hI.since (fun j hj => hkeep j (hcode j hj).2 (hfr j (hcode j hj).1))
  have hs0 : Since (fun k => base ≤ k ∧ sl.ownBlock ≠ some k) w w' := ⟨hgr.size, fun k hk hl => hkeep k hl hk.2⟩
  have hs1 : Since (From w1.heap.size) w w' := ⟨hgr.size, fun k hk hl => hkeep k hl (hfr k hk)⟩
  have hold : AllFu (fun k => (base ≤ k ∧ sl.ownBlock ≠ some k) ∧ k < w1.heap.size) w1 acc row ∨ True := Or.inr trivial
  -- what was gathered lies in older blocks
  have hacc : AllFu (fun k => base ≤ k ∧ (Value.slice a2 (acc.length + 1) c2).ownBlock ≠ some k ∧ (Value.slice a f.code.length c).ownBlock ≠ some k) w' acc row := by
    obtain ⟨row1, q1, q2, _⟩ := h1
    have hrr : row1 = row := by
      have e1 := q1.2
      have e2 := hown.2
      rcases e1 with ⟨e3, e4⟩ | ⟨g, cap, cur, e3, e4, e5, e6, e7, e8, e9⟩
      · have l1 := q1.1
        have l2 := hown.1
        rw [e4] at l1 l2
        have : row1 = [] := List.length_eq_zero_iff.1 (by omega)
        have : row = [] := List.length_eq_zero_iff.1 (by omega)
        simp_all
      · rcases e2 with ⟨f3, f4⟩ | ⟨g', cap', cur', f3, f4, f5, f6, f7, f8, f9⟩
        · rw [e3] at f3; cases f3
        · rw [e3] at f3
          simp only [Value.slice.injEq, Option.some.injEq, Addr.mk.injEq] at f3
          obtain ⟨⟨rfl, -⟩, -, rfl⟩ := f3
          rw [hb.block g (Array.getElem?_eq_some_iff.1 e5).1, e5] at f5
          cases f5
          rw [← e9, ← f9]
    subst hrr
    have q3 : AllFu (fun k => (base ≤ k ∧ sl.ownBlock ≠ some k) ∧ k < w1.heap.size) w1 acc row1 := q2.base (fun k hk hl => ⟨hk, hl⟩)
    have q4 := (q3.since (w' := w) ⟨hb.size, fun k hk hl => hb.block k hl⟩)
    have q5 := q4.since (w' := w') ⟨hgr.size, fun k hk hl => hkeep k hl hk.1.2⟩
    refine q5.base (fun k hk hl => ⟨hk.1.1, ?_, fun e => by have := (hcode k e).1; have := hk.2; omega⟩)
    exact hne k (by have := hb.size; have := hk.2; omega) hk.1.2
  have hfn' : IsFn (fun k => base ≤ k ∧ (Value.slice a2 (acc.length + 1) c2).ownBlock ≠ some k) w' f (.slice a f.code.length c) := by
    have q := (hf.base (B' := fun k => w1.heap.size ≤ k ∧ k < w.heap.size) (fun k hk hl => ⟨hk, hl⟩)).since (w' := w') ⟨hgr.size, fun k hk hl => hkeep k hl (hfr k hk.1)⟩
    exact q.base (fun k hk hl => ⟨by omega, hne k hk.2 (hfr k hk.1)⟩)
  refine ⟨a2, c2, w', hr, ⟨row ++ fuCells f (.slice a f.code.length c), ?_, ?_, ?_⟩, hb2, hgr⟩
  · simpa using ho
  · exact (hacc.base (fun k hk hl => ⟨hk.1, hk.2.1⟩)).snoc ⟨a, c, rfl, hfn'⟩
  · intro pre f' e
    obtain ⟨rfl, e2⟩ := List.append_inj' e rfl
    cases e2
    refine ⟨row, a, c, rfl, ?_, fun k hk => hne k (hcode k hk).2 (hfr k (hcode k hk).1), hacc⟩
    refine ⟨hI'.1, ?_⟩
    rcases hI'.2 with q | ⟨g, cap, cur, q1, q2, q3⟩
    · exact Or.inl q
    · exact Or.inr ⟨g, cap, cur, q1, by omega, q3⟩
end Go.Proofs.Ytndahpcjkcihlaa
/- Copy of a module: the document's. -/
namespace Go.Proofs.Ytndahpcjkcihlaa
open Go.RowKit
set_option linter.unusedVariables false
set_option linter.unusedSimpArgs false
attribute [local go_sem ↓] Go.wp_at_zero Go.wp_at_succ

theorem OwnI.low {w : World} {b b' : Nat} {sl : Value} {l : List In} (h : OwnI w b sl l) (hb : b' ≤ b) : OwnI w b' sl l := by
  refine ⟨h.1, ?_⟩
  rcases h.2 with q | ⟨g, cap, cur, q1, q2, q3⟩
  · exact Or.inl q
  · exact Or.inr ⟨g, cap, cur, q1, by omega, q3⟩
/-- A module's box, laid empty and then filled. -/
theorem zmbox (w : World) (x0 x1 : Value) : ∃ wz w4, w.alloc (.cells #[.slice none 0 0, .slice none 0 0] 25) = wz ∧ (wz.setCell ⟨w.heap.size, 0, none⟩ x0).setCell ⟨w.heap.size, 1, none⟩ x1 = w4 ∧ Below w.heap.size w wz ∧ Below w.heap.size w w4 ∧ w4.heap.size = w.heap.size + 1 ∧ w4.heap[w.heap.size]? = some (.cells #[x0, x1] 25 (0, 0)) ∧ wz.heap[w.heap.size]? = some (.cells #[.slice none 0 0, .slice none 0 0] 25 (0, 0)) := by
  have hb : Below w.heap.size w (w.alloc (.cells #[.slice none 0 0, .slice none 0 0] 25)) := (Below.refl _ _).alloc (Nat.le_refl _) _
  have hz : (w.alloc (.cells #[.slice none 0 0, .slice none 0 0] 25)).heap[w.heap.size]? = some (.cells #[.slice none 0 0, .slice none 0 0] 25 (0, 0)) := heap_new _ _
  refine ⟨_, _, rfl, rfl, hb, (hb.setCell (p := ⟨w.heap.size, 0, none⟩) (Nat.le_refl _) x0).setCell (p := ⟨w.heap.size, 1, none⟩) (Nat.le_refl _) x1, by simp [World.setCell], ?_, hz⟩
  generalize w.alloc (.cells #[.slice none 0 0, .slice none 0 0] 25) = wz at *
  simp [World.setCell, Array.getElem?_modify, hz]
/-- A module in new memory: its constants' row and what they hold below n1, its functions from n1 on. -/
def CpPost (w : World) (m : Md) (e : Ending) (w' : World) : Prop := (∃ a c fa fc n1, e = .returned (.agg #[.slice a m.consts.length c, .slice fa m.funcs.length fc]) ∧ Gv (fun k => w.heap.size ≤ k ∧ k < n1) w' (.slice a m.consts.length c) m.consts ∧ GF n1 w' (.slice fa m.funcs.length fc) m.funcs ∧ w.heap.size ≤ n1 ∧ n1 ≤ w'.heap.size) ∧ Below w.heap.size w w'
set_option maxRecDepth 100000 in
set_option maxHeartbeats 8000000 in
theorem copy13_any {B : Nat → Prop} {m : Md} {ac af : Option Addr} {cc cf : Nat} {w : World} (hm : IsMd B w m (.slice ac m.consts.length cc) (.slice af m.funcs.length cf)) (hlo : ∀ v ∈ m.consts, Lst v) (hcl : m.consts.length ≤ 900000) (hfl : m.funcs.length ≤ 900000) (hkl : ∀ f ∈ m.funcs, f.code.length ≤ 900000) :
    Calls Try.prog 16 #[.agg #[.slice ac m.consts.length cc, .slice af m.funcs.length cf]] w fun e w' => CpPost w m e w' := by
  obtain ⟨w0, hW0, hb0, hl0, hx0⟩ := box2 w (.slice ac m.consts.length cc) (.slice af m.funcs.length cf) 25
  obtain ⟨w1, -, hW1, -, hb1, -, -, -, hx1⟩ := zmbox w0 (.int .i64 0) (.int .i64 0)
  have hl1 : w0.heap.size < w1.heap.size := (Array.getElem?_eq_some_iff.1 hx1).1
  have hl00 : w.heap.size < w0.heap.size := by omega
  have hB1 : Below w.heap.size w w1 := hb0.trans (hb1.mono hb0.size)
  have hC := copyAll_any (hm.con.below hB1) hlo hcl
  obtain ⟨d0, d1, -, -, hld⟩ := cells_k2 ((hb1.block _ hl00).trans hx0)
  clear hl0
  go_enter Try.func16, Try.ntmps16
  go_wp2_with fail
  refine hC.mono ?_
  rintro e w2 ⟨⟨a, c, rfl, hG2⟩, hb2⟩
  obtain ⟨wz, w3, hWz, hW3, hbz, hb3, -, hx3, hz⟩ := zmbox w2 (.slice a m.consts.length c) (.slice none 0 0)
  obtain ⟨z0, z1, y0, y1, hlz⟩ := cells_k2 hz
  have hl3 : w2.heap.size < w3.heap.size := (Array.getElem?_eq_some_iff.1 hx3).1
  have hs2 := hb2.size
  have hB2 : Below w.heap.size w w2 := hB1.trans (hb2.mono hB1.size)
  have hB3 : Below w.heap.size w w3 := hB2.trans (hb3.mono hB2.size)
  obtain ⟨dd0, dd1, -, -, hldd⟩ := cells_k2 ((hb3.block _ (by omega)).trans ((hb2.block _ (by omega)).trans ((hb1.block _ hl00).trans hx0)))
  have hres3 : w3.heap[w0.heap.size]? = some (.cells #[.slice none 0 0, .slice none 0 0] 25 (0, 0)) := (hb3.block _ (by omega)).trans ((hb2.block _ hl1).trans hx1)
  have hG3 : Gv (fun k => w1.heap.size ≤ k ∧ k < w2.heap.size) w3 (.slice a m.consts.length c) m.consts := (hG2.base (fun k hk hl => ⟨hk, hl⟩)).below hb3
  clear hC hG2 hW0 hW1 d0 d1 hx0 hx1
  go_wp2_with fail
  clear hWz hW3 z0 z1 y0 y1 dd0 dd1 hz
  go_loopg [13] m.funcs.length (fun gk i wr => ∃ (q : Nat) (sa : Option Addr) (sc : Nat), q ≤ m.funcs.length ∧ gk = m.funcs.length - q ∧ i = .int .i64 q ∧ Hid (Below w.heap.size w wr ∧ wr.heap[w2.heap.size]? = some (.cells #[.slice a m.consts.length c, .slice sa q sc] 25 (0, 0)) ∧ GF w3.heap.size wr (.slice sa q sc) (m.funcs.take q) ∧ w3.heap.size ≤ wr.heap.size ∧ ∀ k, k < w3.heap.size → k ≠ w2.heap.size → wr.heap[k]? = w3.heap[k]?))
  case atStart => exact ⟨0, none, 0, Nat.zero_le _, rfl, rfl, hB3, hx3, by simpa using GF.nil _ _, Nat.le_refl _, fun k _ _ => rfl⟩
  case round =>
    obtain ⟨q, sa, sc, hq, rfl, rfl, HI⟩ := hrel
    obtain ⟨hBr, hxr, hGr, hsr, hkr⟩ := HI.out
    clear HI hx3
    have hlq : (m.funcs.take q).length = q := by simp; omega
    by_cases hlt : q < m.funcs.length
    rotate_left
    · have hltI : ¬ (q : Int) < (m.funcs.length : Int) := by omega
      obtain rfl : q = m.funcs.length := by omega
      obtain ⟨x0, x1, -, -, hlx⟩ := cells_k2 hxr
      have hresr := (hkr w0.heap.size (by omega) (by omega)).trans hres3
      obtain ⟨r0, r1, s0, s1, hlr⟩ := cells_k2 hresr
      obtain ⟨w9, hW9⟩ : ∃ w9, (wr.setCell ⟨w0.heap.size, 0, none⟩ (.slice a m.consts.length c)).setCell ⟨w0.heap.size, 1, none⟩ (.slice sa m.funcs.length sc) = w9 := ⟨_, rfl⟩
      have hx9 : w9.heap[w0.heap.size]? = some (.cells #[.slice a m.consts.length c, .slice sa m.funcs.length sc] 25 (0, 0)) := by rw [← hW9]; simp [World.setCell, Array.getElem?_modify, hresr]
      obtain ⟨t0, t1, -, -, hl9⟩ := cells_k2 hx9
      have hoth : ∀ k, k ≠ w0.heap.size → w9.heap[k]? = wr.heap[k]? := fun k hk => by rw [← hW9, Below.heap_setCell _ _ _ _ hk, Below.heap_setCell _ _ _ _ hk]
      have hs9 : w9.heap.size = wr.heap.size := by rw [← hW9]; simp [World.setCell]
      have hpost : CpPost w m (.returned (.agg #[.slice a m.consts.length c, .slice sa m.funcs.length sc])) w9 := by
        rw [List.take_length] at hGr
        refine ⟨⟨a, c, sa, sc, w3.heap.size, rfl, ?_, ?_, ?_, ?_⟩, ?_⟩
        · have h1 := hG3.since (w' := w9) ⟨by omega, fun k hk hl => by
            rw [hoth k (by omega)]; exact hkr k (by omega) (by omega)⟩
          exact h1.base (fun k hk hl => ⟨by omega, by omega⟩)
        · exact hGr.since (by omega) (fun k hk hl => hoth k (by omega))
        · have := hB3.size; omega
        · omega
        · rw [← hW9]; exact (hBr.setCell (p := ⟨w0.heap.size, 0, none⟩) (by show w.heap.size ≤ w0.heap.size; omega) _).setCell (p := ⟨w0.heap.size, 1, none⟩) (by show w.heap.size ≤ w0.heap.size; omega) _
      clear hm hlo hkl hBr hxr hGr hkr hG3 hres3 hresr hoth hx9 hs9
      go_wp2_with fail
      exact bodyPost_ret (v := .agg #[.slice a m.consts.length c, .slice sa m.funcs.length sc]) (by simp [results, Try.results16, go_sem, hl9, t0, t1]) rfl hpost
    have hltI : (q : Int) < (m.funcs.length : Int) := by omega
    have hq0 : (0 : Int) ≤ (q : Int) := by omega
    obtain ⟨f, hf⟩ : ∃ f, m.funcs[q]? = some f := ⟨_, List.getElem?_eq_getElem hlt⟩
    obtain ⟨gf, of, ak, ck, haf, -, hgf, p0, p1, p2, p3, p4, hfn⟩ := (hm.fun_.since (Since.of_below hBr)).get hf
    subst haf
    obtain ⟨wz, wb, hWz, hWb, hbz, hbb, hsb, hxb, hz⟩ := fbox wr (.int .i64 f.params) (.int .i64 f.locals) (.int .i64 f.zero) (.int .i64 f.stack) (.slice ak f.code.length ck)
    obtain ⟨z0, z1, z2, z3, z4, y0, y1, y2, y3, y4, hlz⟩ := cells_k5 hz
    obtain ⟨c0, c1, c2, c3, c4, -, -, -, -, -, hlc⟩ := cells_k5 hxb
    have hfl2 := hkl f (List.mem_of_getElem? hf)
    obtain ⟨wa, a1, cp1, w6, hWa, hr6, hO6, hb6, hba⟩ := freshI (hfn.below hbb).code (by omega)
    have hwr : wr.heap.size < wb.heap.size := hlc
    obtain ⟨-, -, -, -, e4, -, -, -, -, -, hle⟩ := cells_k5 ((hba.block _ hlc).trans hxb)
    have hx6 := (hb6.block _ hlc).trans hxb
    obtain ⟨j0, j1, j2, j3, j4, -, -, -, -, fz4, hlj⟩ := cells_k5 hx6
    obtain ⟨w7, hW7⟩ : ∃ w7, w6.setCell ⟨wr.heap.size, 4, none⟩ (.slice a1 f.code.length cp1) = w7 := ⟨_, rfl⟩
    have hx7 : w7.heap[wr.heap.size]? = some (.cells #[.int .i64 f.params, .int .i64 f.locals, .int .i64 f.zero, .int .i64 f.stack, .slice a1 f.code.length cp1] 44 (0, 0)) := by rw [← hW7]; simp [World.setCell, Array.getElem?_modify, hx6]
    have hb67 : Below wr.heap.size wr w7 := by
      rw [← hW7]
      exact (hbb.trans (hb6.mono (by omega))).setCell (p := ⟨wr.heap.size, 4, none⟩) (Nat.le_refl _) _
    obtain ⟨q0, q1, q2, q3, q4, -, -, -, -, -, hlq7⟩ := cells_k5 hx7
    have hbx := (hb67.block _ (by omega)).trans hxr
    obtain ⟨x0, x1, fx0, fx1, hlx⟩ := cells_k2 hbx
    obtain ⟨w8, hW8⟩ : ∃ w8, w7.alloc (.cells #[.int .i64 f.params, .int .i64 f.locals, .int .i64 f.zero, .int .i64 f.stack, .slice a1 f.code.length cp1] 44) = w8 := ⟨_, rfl⟩
    have hb8 : Below w7.heap.size w7 w8 := by rw [← hW8]; exact (Below.refl _ _).alloc (Nat.le_refl _) _
    have hx8 : w8.heap[w7.heap.size]? = some (.cells #[.int .i64 f.params, .int .i64 f.locals, .int .i64 f.zero, .int .i64 f.stack, .slice a1 f.code.length cp1] 44 (0, 0)) := by rw [← hW8]; exact heap_new _ _
    have hb08 : Below wr.heap.size wr w8 := hb67.trans (hb8.mono hb67.size)
    have hOb : ∀ k, (Value.slice a1 f.code.length cp1).ownBlock = some k → wb.heap.size ≤ k ∧ k < w6.heap.size := fun k hk => World.ownsRow.lt hO6 k hk
    have hs67 : w7.heap.size = w6.heap.size := by rw [← hW7]; simp [World.setCell]
    have hO8 : OwnI w8 wr.heap.size (.slice a1 f.code.length cp1) f.code := (hO6.since (fun j hj => by
      have := hOb j hj
      rw [hb8.block j (by omega), ← hW7, Below.heap_setCell _ _ _ _ (by show j ≠ wr.heap.size; omega)])).low (by omega)
    have hfn8 : IsFn (From wr.heap.size) w8 f (.slice a1 f.code.length cp1) := ⟨hfn.p, hfn.l, hfn.z, hfn.s, hO8.is hfn.code.rng (fun k hk => by have := hOb k hk; show wr.heap.size ≤ k; omega)⟩
    obtain ⟨a9, c9, w9, hr9, hG9, hb9, hgr9⟩ := GF.push (n1 := 0) hGr hb08 hO8 hfn8 hx8 hsr (by rw [hlq]; omega) 1
    rw [hlq] at hr9 hG9
    have hown9 : ∀ k, k < w3.heap.size → w9.heap[k]? = w8.heap[k]? := fun k hk => hb9.block k hk
    have hs8 := hb08.size
    have hx9 : w9.heap[w2.heap.size]? = some (.cells #[.slice a m.consts.length c, .slice sa q sc] 25 (0, 0)) := (hown9 _ hl3).trans ((hb8.block _ (by omega)).trans hbx)
    obtain ⟨v0, v1, fv0, fv1, hlv⟩ := cells_k2 hx9
    obtain ⟨w10, hW10⟩ : ∃ w10, w9.setCell ⟨w2.heap.size, 1, none⟩ (.slice a9 (q + 1) c9) = w10 := ⟨_, rfl⟩
    have hff : Hid (m.funcs[q]? = some f) := hf
    have hnew : Hid (Below w.heap.size w w10 ∧ w10.heap[w2.heap.size]? = some (.cells #[.slice a m.consts.length c, .slice a9 (q + 1) c9] 25 (0, 0)) ∧ GF w3.heap.size w10 (.slice a9 (q + 1) c9) (m.funcs.take (q + 1)) ∧ w3.heap.size ≤ w10.heap.size ∧ ∀ k, k < w3.heap.size → k ≠ w2.heap.size → w10.heap[k]? = w3.heap[k]?) := by
      have hs9 := hgr9.size
      have hs10 : w10.heap.size = w9.heap.size := by rw [← hW10]; simp [World.setCell]
      refine ⟨?_, ?_, ?_, by omega, fun k hk hne => ?_⟩
      · rw [← hW10]
        exact ((hBr.trans (hb08.mono hBr.size)).trans (hb9.mono hB3.size)).setCell (p := ⟨w2.heap.size, 1, none⟩) (by show w.heap.size ≤ w2.heap.size; exact hB2.size) _
      · rw [← hW10]; simp [World.setCell, Array.getElem?_modify, hx9]
      · rw [List.take_add_one, hff.out]
        exact hG9.since (by omega) (fun k hk hl => by rw [← hW10, Below.heap_setCell _ _ _ _ (by show k ≠ w2.heap.size; omega)])
      · rw [← hW10, Below.heap_setCell _ _ _ _ hne, hown9 k hk, hb08.block k (by omega)]
        exact hkr k hk hne
    clear hm hlo hkl hBr hxr hGr hkr hG3 hres3 hf hfn hxb hz hx6 hx7 hbx hx8 hO6 hO8 hfn8 hG9 hb9 hgr9 hown9 hx9 hOb hff hs67 hsb
    go_wp2_with (first | (at_builtin; refine Lib.wpList_append_run _ rfl _ _ 42 42 rfl _ _ rfl rfl _ _ hr6 ?_; clear hr6) | (at_builtin; refine Lib.wpList_append_run _ rfl _ _ 23 23 rfl _ _ rfl rfl _ _ hr9 ?_; clear hr9))
    go_roundg (m.funcs.length - (q + 1))
    case measure => omega
    case rel => exact ⟨q + 1, _, _, by omega, rfl, by go_num, hnew⟩
end Go.Proofs.Ytndahpcjkcihlaa
