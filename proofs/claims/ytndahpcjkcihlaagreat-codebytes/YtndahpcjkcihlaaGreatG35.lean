/- Texts of ours, joined: Kd, Ke, Et, Etk. -/
import Derived.Test.YtndahpcjkcihlaaGreatG34
import Derived.Test.YtndahpcjkcihlaaGreatG26
import Derived.Test.YtndahpcjkcihlaaGreatG13
/- Functions that are being gathered, in a row of one's own; their code in rows of its own. -/
namespace Go.Proofs.YtndahpcjkcihlaaGreat
open Go.RowKit
set_option linter.unusedVariables false
set_option linter.unusedSimpArgs false
attribute [local go_sem ↓] Go.wp_at_zero Go.wp_at_succ

theorem funcInfo : (Tryz.prog.info? 42).map (fun i => (i.zero, i.size, i.bytes)) = some (some (.agg #[.int .i64 0, .int .i64 0, .int .i64 0, .int .i64 0, .slice none 0 0]), 5, 56) := by kernel_rfl
theorem instrInfo : (Tryz.prog.info? 38).map (fun i => (i.zero, i.size, i.bytes)) = some (some (.agg #[.int .i64 0, .int .i64 0]), 2, 16) := by kernel_rfl
theorem inRow_len' : ∀ l : List In, (l.flatMap inCells).length = l.length * 2
  | [] => rfl
  | a :: r => by
    have := inRow_len' r
    simp only [List.flatMap_cons, List.length_append, this, List.length_cons, inCells, List.length_nil]
    omega
theorem inCells_one (l : List In) : ∀ u ∈ l.flatMap inCells, u.oneCell' = true := by
  intro u hu
  rw [List.mem_flatMap] at hu
  obtain ⟨i, _, hi⟩ := hu
  simp only [inCells, List.mem_cons, List.not_mem_nil, or_false] at hi
  rcases hi with rfl | rfl <;> rfl
theorem IsIs.news {B : Nat → Prop} {w : World} {l : List In} {ao : Option Addr} {cap : Nat} (h : IsIs B w l (.slice ao l.length cap)) : (ao = none → l.length = 0 ∧ cap = 0) ∧ ∀ b, ao = some b → ∀ j u, (l.flatMap inCells)[j]? = some u → w.cell? (b.add j) = some u := by
  obtain ⟨⟨h1, h2⟩, h3⟩ := h
  rcases h2 with ⟨hn, h0⟩ | ⟨g, o, c, e, _, _, _, _, hc⟩
  · have hl : l = [] := List.length_eq_zero_iff.1 h0
    subst hl
    refine ⟨fun e => ⟨rfl, ?_⟩, fun b hb j u hj => by simp at hj⟩
    rcases hn with hn | ⟨a, c, hn, _⟩
    · simp only [Value.slice.injEq] at hn; exact hn.2.2
    · simp only [Value.slice.injEq] at hn; rw [hn.1] at e; cases e
  · simp only [Value.slice.injEq] at e
    obtain ⟨rfl, -, rfl⟩ := e
    refine ⟨fun e => (by cases e), fun b hb j u hj => ?_⟩
    cases hb
    have := hc j u hj
    by_cases hj0 : j = 0
    · subst hj0; simpa [Addr.add] using this
    · simpa [Addr.add, hj0] using this
/-- A row of instructions of one's own. -/
abbrev OwnI (w : World) (base : Nat) (sl : Value) (l : List In) : Prop := w.ownsRow base 38 2 sl l.length (l.flatMap inCells)
theorem OwnI.is {w : World} {base : Nat} {sl : Value} {l : List In} (h : OwnI w base sl l) (hr : ∀ i ∈ l, InR i.op ∧ InR i.a) {B : Nat → Prop} (hB : ∀ k, sl.ownBlock = some k → B k) : IsIs B w l sl := by
  refine ⟨⟨h.1, ?_⟩, hr⟩
  rcases h.2 with ⟨h3, h4⟩ | ⟨g, cap, cur, h3, h4, h5, h6, h7, h8, h9⟩
  · exact Or.inl ⟨Or.inl h3, h4⟩
  · refine Or.inr ⟨g, 0, cap, h3, h6, h7, hB g (by rw [h3]; rfl), (Array.getElem?_eq_some_iff.1 h5).1, fun j u hj => ?_⟩
    have hc : w.cell? ⟨g, 0 + j, none⟩ = cur[j]? := by rw [Nat.zero_add]; simp [World.cell?, h5]
    rw [hc]
    rw [← h9, List.getElem?_take] at hj
    split at hj
    · simpa using hj
    · cases hj
theorem OwnI.since {w w' : World} {base : Nat} {sl : Value} {l : List In} (h : OwnI w base sl l) (e : ∀ j, sl.ownBlock = some j → w'.heap[j]? = w.heap[j]?) : OwnI w' base sl l := by
  refine ⟨h.1, ?_⟩
  rcases h.2 with h3 | ⟨g, cap, cur, h3, h4, h5, h6⟩
  · exact Or.inl h3
  · exact Or.inr ⟨g, cap, cur, h3, h4, by rw [e g (by rw [h3]; rfl)]; exact h5, h6⟩
/-- append([]api.Instr{}, l...) behind the empty row that was just laid down. -/
theorem freshI {B : Nat → Prop} {w : World} {ao : Option Addr} {cap : Nat} {l : List In} (h : IsIs B w l (.slice ao l.length cap)) (hl : l.length ≤ 1000000) :
    ∃ wa a1 c1 w', w.alloc (.cells #[] 38) = wa ∧ (Builtin.append_ #[40, 40] 40 #[.slice (some ⟨w.heap.size, 0, none⟩) 0 0, .slice ao l.length cap]).run Tryz.prog wa = .ok (.slice a1 l.length c1) w' ∧ OwnI w' w.heap.size (.slice a1 l.length c1) l ∧ Below w.heap.size w w' ∧ Below w.heap.size w wa := by
  obtain ⟨wa, hWa⟩ : ∃ wa, w.alloc (.cells #[] 38) = wa := ⟨_, rfl⟩
  have hba : Below w.heap.size w wa := by rw [← hWa]; exact (Below.refl _ _).alloc (Nat.le_refl _) _
  have hown : wa.ownsRow w.heap.size 38 2 (.slice (some ⟨w.heap.size, 0, none⟩) 0 0) 0 [] := by
    rw [← hWa]
    exact ⟨rfl, Or.inr ⟨w.heap.size, 0, #[], rfl, Nat.le_refl _, heap_new _ _, Nat.le_refl _, by unfold maxLen; omega, rfl, rfl⟩⟩
  obtain ⟨n1, n2⟩ := (h.since (Since.of_below hba)).news
  obtain ⟨ao', cap', w', hr, ho, hb', _⟩ := app_run Tryz.underlying40 instrInfo rfl (by decide) 40 (news := l.flatMap inCells) hown n1 (by rw [inRow_len']) n2 (inCells_one _) (by omega) (by decide) hba.size
  have hz : 0 + l.length = l.length := by omega
  rw [hz] at hr ho
  exact ⟨wa, ao', cap', w', hWa, hr, ho, hba.trans hb', hba⟩
abbrev fuCells (f : Fu) (sl : Value) : List Value := [.int .i64 f.params, .int .i64 f.locals, .int .i64 f.zero, .int .i64 f.stack, sl]
/-- The last function's code, in a row of its own, apart from all else. -/
def Tail (base : Nat) (w : World) (sl : Value) (acc : List Fu) (row : List Value) : Prop := ∀ pre f, acc = pre ++ [f] → ∃ rp a c, row = rp ++ fuCells f (.slice a f.code.length c) ∧ OwnI w base (.slice a f.code.length c) f.code ∧ (∀ k, (Value.slice a f.code.length c).ownBlock = some k → sl.ownBlock ≠ some k) ∧ AllFu (fun k => base ≤ k ∧ sl.ownBlock ≠ some k ∧ (Value.slice a f.code.length c).ownBlock ≠ some k) w pre rp
/-- Functions that are gathered: the row is owned, and what its elements hold lies in other blocks from base on. -/
def GF (base : Nat) (w : World) (sl : Value) (acc : List Fu) : Prop := ∃ row, w.ownsRow base 42 5 sl acc.length row ∧ AllFu (fun k => base ≤ k ∧ sl.ownBlock ≠ some k) w acc row ∧ Tail base w sl acc row
theorem GF.nil (base : Nat) (w : World) : GF base w (.slice none 0 0) [] := ⟨[], ⟨rfl, Or.inl ⟨rfl, rfl⟩⟩, by rw [AllFu], fun pre f e => by simp at e⟩
theorem GF.slice {base : Nat} {w : World} {sl : Value} {acc : List Fu} (h : GF base w sl acc) : ∃ ao cap, sl = .slice ao acc.length cap ∧ acc.length ≤ cap ∧ cap ≤ 9223372036854775807 := by
  obtain ⟨row, h1, _⟩ := h
  rcases h1.2 with ⟨e, h0⟩ | ⟨g, cap, cur, e, h4, h5, h6, h7, _⟩
  · exact ⟨none, 0, by rw [e, h0], by omega, by omega⟩
  · exact ⟨_, cap, e, h6, by unfold maxLen at h7; omega⟩
theorem GF.since {base : Nat} {w w' : World} {sl : Value} {acc : List Fu} (h : GF base w sl acc) (hs : w.heap.size ≤ w'.heap.size) (e : ∀ j, base ≤ j → j < w.heap.size → w'.heap[j]? = w.heap[j]?) : GF base w' sl acc := by
  obtain ⟨row, h1, h2, h3⟩ := h
  have hown : w'.ownsRow base 42 5 sl acc.length row := by
    refine ⟨h1.1, ?_⟩
    rcases h1.2 with h4 | ⟨g, cap, cur, h4, h5, h6, h7⟩
    · exact Or.inl h4
    · exact Or.inr ⟨g, cap, cur, h4, h5, by rw [e g h5 (Array.getElem?_eq_some_iff.1 h6).1]; exact h6, h7⟩
  refine ⟨row, hown, h2.since ⟨hs, fun k hk hl => e k hk.1 hl⟩, fun pre f ea => ?_⟩
  obtain ⟨rp, a, c, g1, g2, g3, g4⟩ := h3 pre f ea
  exact ⟨rp, a, c, g1, g2.since (fun j hj => by have := World.ownsRow.lt g2 j hj; exact e j this.1 this.2), g3, g4.since ⟨hs, fun k hk hl => e k hk.1 hl⟩⟩
theorem GF.below {base : Nat} {w w' : World} {sl : Value} {acc : List Fu} (h : GF base w sl acc) (hb : Below w.heap.size w w') : GF base w' sl acc := h.since hb.size (fun j _ hl => hb.block j hl)
theorem GF.fus {base : Nat} {w : World} {sl : Value} {acc : List Fu} (h : GF base w sl acc) : IsFus (From base) w acc sl := by
  obtain ⟨row, h1, h2, _⟩ := h
  refine ⟨row, ⟨h1.1, ?_⟩, h2.base (fun k hk _ => hk.1)⟩
  rcases h1.2 with ⟨h3, h4⟩ | ⟨g, cap, cur, h3, h4, h5, h6, h7, h8, h9⟩
  · exact Or.inl ⟨Or.inl h3, h4⟩
  · refine Or.inr ⟨g, 0, cap, h3, h6, h7, h4, (Array.getElem?_eq_some_iff.1 h5).1, fun j u hj => ?_⟩
    have hc : w.cell? ⟨g, 0 + j, none⟩ = cur[j]? := by rw [Nat.zero_add]; simp [World.cell?, h5]
    rw [hc]
    rw [← h9, List.getElem?_take] at hj
    split at hj
    · simpa using hj
    · cases hj
theorem fu_ones {f : Fu} {a : Option Addr} {n c : Nat} : ∀ u ∈ fuCells f (.slice a n c), u.oneCell' = true := by
  intro u hu
  simp only [fuCells, List.mem_cons, List.not_mem_nil, or_false] at hu
  rcases hu with rfl | rfl | rfl | rfl | rfl <;> rfl
/-- One function more, whose code lies in a row of its own, newer than all that was gathered. -/
theorem GF.push {base n1 : Nat} {w1 w : World} {sl : Value} {acc : List Fu} (h1 : GF base w1 sl acc) (hb : Below w1.heap.size w1 w) {f : Fu} {a : Option Addr} {c : Nat} (hI : OwnI w w1.heap.size (.slice a f.code.length c) f.code) (hf : IsFn (From w1.heap.size) w f (.slice a f.code.length c)) {g0 : Nat} (hg : w.heap[g0]? = some (.cells #[.int .i64 f.params, .int .i64 f.locals, .int .i64 f.zero, .int .i64 f.stack, .slice a f.code.length c] 42 (0, 0))) (hbase : base ≤ w1.heap.size) (hn : acc.length + 1 ≤ 1000000) (cc : Nat) :
    ∃ a2 c2 w', (Builtin.append_ #[23, 23] 23 #[sl, .slice (some ⟨g0, 0, none⟩) 1 cc]).run Tryz.prog w = .ok (.slice a2 (acc.length + 1) c2) w' ∧ GF base w' (.slice a2 (acc.length + 1) c2) (acc ++ [f]) ∧ Below base w w' ∧ w.grownBy w' sl.ownBlock := by
  have h := h1.below hb
  obtain ⟨row, hown, hall, -⟩ := h
  have hnews : ∀ b, (some ⟨g0, 0, none⟩ : Option Addr) = some b → ∀ (j : Nat) (u : Value), (fuCells f (.slice a f.code.length c))[j]? = some u → w.cell? (b.add j) = some u := by
    intro b hb' j u hj
    cases hb'
    have hc : w.cell? ⟨g0, j, none⟩ = (fuCells f (.slice a f.code.length c))[j]? := by simp [World.cell?, hg]
    by_cases hj0 : j = 0
    · subst hj0; simpa [Addr.add] using hc.trans hj
    · simpa [Addr.add, hj0] using hc.trans hj
  obtain ⟨a2, c2, w', hr, ho, hb2, hgr, hat⟩ := app_run_at Tryz.underlying23 funcInfo rfl (by decide) 23 (news := fuCells f (.slice a f.code.length c)) (m := 1) (c := cc) hown (fun e => by cases e) rfl hnews fu_ones (by omega) (by decide) (by have := hb.size; omega)
  have hslt : ∀ k, sl.ownBlock = some k → k < w1.heap.size := fun k hk => by obtain ⟨r1, q1, _⟩ := h1; exact (World.ownsRow.lt q1 k hk).2
  have hne : ∀ k, k < w.heap.size → sl.ownBlock ≠ some k → (Value.slice a2 (acc.length + 1) c2).ownBlock ≠ some k := fun k hk hs e => by
    rcases hat with h | h
    · rw [h] at e; exact hs e
    · rw [h] at e; cases e; omega
  have hkeep : ∀ k, k < w.heap.size → sl.ownBlock ≠ some k → w'.heap[k]? = w.heap[k]? := fun k hk hs => hgr.block k hk (fun e => hs e.symm)
  have hfr : ∀ k, w1.heap.size ≤ k → sl.ownBlock ≠ some k := fun k hk e => by have := hslt k e; omega
  have hcode : ∀ k, (Value.slice a f.code.length c).ownBlock = some k → w1.heap.size ≤ k ∧ k < w.heap.size := fun k hk => World.ownsRow.lt hI k hk
  have hI' : OwnI w' w1.heap.size (.slice a f.code.length c) f.code := hI.since (fun j hj => hkeep j (hcode j hj).2 (hfr j (hcode j hj).1))
  have hs0 : Since (fun k => base ≤ k ∧ sl.ownBlock ≠ some k) w w' := ⟨hgr.size, fun k hk hl => hkeep k hl hk.2⟩
  have hs1 : Since (From w1.heap.size) w w' := ⟨hgr.size, fun k hk hl => hkeep k hl (hfr k hk)⟩
  have hold : AllFu (fun k => (base ≤ k ∧ sl.ownBlock ≠ some k) ∧ k < w1.heap.size) w1 acc row ∨ True := Or.inr trivial
  -- what was gathered lies in older blocks
  have hacc : AllFu (fun k => base ≤ k ∧ (Value.slice a2 (acc.length + 1) c2).ownBlock ≠ some k ∧ (Value.slice a f.code.length c).ownBlock ≠ some k) w' acc row := by
    obtain ⟨row1, q1, q2, _⟩ := h1
    have hrr : row1 = row := by
      have e1 := q1.2
      have e2 := hown.2
      rcases e1 with ⟨e3, e4⟩ | ⟨g, cap, cur, e3, e4, e5, e6, e7, e8, e9⟩
      · have l1 := q1.1
        have l2 := hown.1
        rw [e4] at l1 l2
        have : row1 = [] := List.length_eq_zero_iff.1 (by omega)
        have : row = [] := List.length_eq_zero_iff.1 (by omega)
        simp_all
      · rcases e2 with ⟨f3, f4⟩ | ⟨g', cap', cur', f3, f4, f5, f6, f7, f8, f9⟩
        · rw [e3] at f3; cases f3
        · rw [e3] at f3
          simp only [Value.slice.injEq, Option.some.injEq, Addr.mk.injEq] at f3
          obtain ⟨⟨rfl, -⟩, -, rfl⟩ := f3
          rw [hb.block g (Array.getElem?_eq_some_iff.1 e5).1, e5] at f5
          cases f5
          rw [← e9, ← f9]
    subst hrr
    have q3 : AllFu (fun k => (base ≤ k ∧ sl.ownBlock ≠ some k) ∧ k < w1.heap.size) w1 acc row1 := q2.base (fun k hk hl => ⟨hk, hl⟩)
    have q4 := (q3.since (w' := w) ⟨hb.size, fun k hk hl => hb.block k hl⟩)
    have q5 := q4.since (w' := w') ⟨hgr.size, fun k hk hl => hkeep k hl hk.1.2⟩
    refine q5.base (fun k hk hl => ⟨hk.1.1, ?_, fun e => by have := (hcode k e).1; have := hk.2; omega⟩)
    exact hne k (by have := hb.size; have := hk.2; omega) hk.1.2
  have hfn' : IsFn (fun k => base ≤ k ∧ (Value.slice a2 (acc.length + 1) c2).ownBlock ≠ some k) w' f (.slice a f.code.length c) := by
    have q := (hf.base (B' := fun k => w1.heap.size ≤ k ∧ k < w.heap.size) (fun k hk hl => ⟨hk, hl⟩)).since (w' := w') ⟨hgr.size, fun k hk hl => hkeep k hl (hfr k hk.1)⟩
    exact q.base (fun k hk hl => ⟨by omega, hne k hk.2 (hfr k hk.1)⟩)
  refine ⟨a2, c2, w', hr, ⟨row ++ fuCells f (.slice a f.code.length c), ?_, ?_, ?_⟩, hb2, hgr⟩
  · simpa using ho
  · exact (hacc.base (fun k hk hl => ⟨hk.1, hk.2.1⟩)).snoc ⟨a, c, rfl, hfn'⟩
  · intro pre f' e
    obtain ⟨rfl, e2⟩ := List.append_inj' e rfl
    cases e2
    refine ⟨row, a, c, rfl, ?_, fun k hk => hne k (hcode k hk).2 (hfr k (hcode k hk).1), hacc⟩
    refine ⟨hI'.1, ?_⟩
    rcases hI'.2 with q | ⟨g, cap, cur, q1, q2, q3⟩
    · exact Or.inl q
    · exact Or.inr ⟨g, cap, cur, q1, by omega, q3⟩
end Go.Proofs.YtndahpcjkcihlaaGreat
/- Copy of a module: the document's. -/
namespace Go.Proofs.YtndahpcjkcihlaaGreat
open Go.RowKit
set_option linter.unusedVariables false
set_option linter.unusedSimpArgs false
attribute [local go_sem ↓] Go.wp_at_zero Go.wp_at_succ

theorem OwnI.low {w : World} {b b' : Nat} {sl : Value} {l : List In} (h : OwnI w b sl l) (hb : b' ≤ b) : OwnI w b' sl l := by
  refine ⟨h.1, ?_⟩
  rcases h.2 with q | ⟨g, cap, cur, q1, q2, q3⟩
  · exact Or.inl q
  · exact Or.inr ⟨g, cap, cur, q1, by omega, q3⟩
/-- A module's box, laid empty and then filled. -/
theorem zmbox (w : World) (x0 x1 : Value) : ∃ wz w4, w.alloc (.cells #[.slice none 0 0, .slice none 0 0] 25) = wz ∧ (wz.setCell ⟨w.heap.size, 0, none⟩ x0).setCell ⟨w.heap.size, 1, none⟩ x1 = w4 ∧ Below w.heap.size w wz ∧ Below w.heap.size w w4 ∧ w4.heap.size = w.heap.size + 1 ∧ w4.heap[w.heap.size]? = some (.cells #[x0, x1] 25 (0, 0)) ∧ wz.heap[w.heap.size]? = some (.cells #[.slice none 0 0, .slice none 0 0] 25 (0, 0)) := by
  have hb : Below w.heap.size w (w.alloc (.cells #[.slice none 0 0, .slice none 0 0] 25)) := (Below.refl _ _).alloc (Nat.le_refl _) _
  have hz : (w.alloc (.cells #[.slice none 0 0, .slice none 0 0] 25)).heap[w.heap.size]? = some (.cells #[.slice none 0 0, .slice none 0 0] 25 (0, 0)) := heap_new _ _
  refine ⟨_, _, rfl, rfl, hb, (hb.setCell (p := ⟨w.heap.size, 0, none⟩) (Nat.le_refl _) x0).setCell (p := ⟨w.heap.size, 1, none⟩) (Nat.le_refl _) x1, by simp [World.setCell], ?_, hz⟩
  generalize w.alloc (.cells #[.slice none 0 0, .slice none 0 0] 25) = wz at *
  simp [World.setCell, Array.getElem?_modify, hz]
/-- A module in new memory: its constants' row and what they hold below n1, its functions from n1 on. -/
def CpPost (w : World) (m : Md) (e : Ending) (w' : World) : Prop := (∃ a c fa fc n1, e = .returned (.agg #[.slice a m.consts.length c, .slice fa m.funcs.length fc]) ∧ Gv (fun k => w.heap.size ≤ k ∧ k < n1) w' (.slice a m.consts.length c) m.consts ∧ GF n1 w' (.slice fa m.funcs.length fc) m.funcs ∧ w.heap.size ≤ n1 ∧ n1 ≤ w'.heap.size) ∧ Below w.heap.size w w'
end Go.Proofs.YtndahpcjkcihlaaGreat
/- Take and the reader: the document's. -/
namespace Go.Proofs.YtndahpcjkcihlaaGreat
open Go.RowKit
set_option linter.unusedVariables false
set_option linter.unusedSimpArgs false

/-- The number of these digits. -/
def dg : List UInt8 → Nat
  | [] => 0
  | c :: r => c.toNat % 128 + 128 * dg r
theorem dg_lt : ∀ l : List UInt8, dg l < 128 ^ l.length
  | [] => by simp [dg]
  | c :: r => by
    have := dg_lt r
    rw [dg, List.length_cons, pow_succ128]
    omega
theorem tkL_high : ∀ (bs : List UInt8) (i x : Nat), (∀ j c, bs[j]? = some c → i + j < 9 → 128 ≤ c.toNat) → tkL i x bs = (0, 0)
  | [], i, x, h => rfl
  | c :: r, i, x, h => by
    rw [tkL]
    by_cases h9 : 9 ≤ i
    · rw [if_pos h9]
    · rw [if_neg h9, if_pos (h 0 c rfl (by omega))]
      exact tkL_high r (i + 1) _ (fun j d hj hi => h (j + 1) d (by simpa using hj) (by omega))
theorem tkL_end : ∀ (q : Nat) (bs : List UInt8) (i x : Nat) (c : UInt8), (∀ j d, bs[j]? = some d → j < q → 128 ≤ d.toNat) → bs[q]? = some c → c.toNat < 128 → i + q ≤ 8 →
    tkL i x bs = if c.toNat = 0 ∧ 0 < i + q then (0, 0) else (x + dg (bs.take (q + 1)) * 128 ^ i, i + q + 1)
  | 0, [], i, x, c, _, h, _, _ => by simp at h
  | 0, d :: r, i, x, c, hl, h, hc, hi => by
    simp only [List.getElem?_cons_zero, Option.some.injEq] at h
    subst h
    rw [tkL, if_neg (by omega), if_neg (by omega)]
    simp [dg]
  | q + 1, [], i, x, c, _, h, _, _ => by simp at h
  | q + 1, d :: r, i, x, c, hl, h, hc, hi => by
    have ih := tkL_end q r (i + 1) (x + d.toNat % 128 * 128 ^ i) c (fun j e hj hq => hl (j + 1) e (by simpa using hj) (by omega)) (by simpa using h) hc (by omega)
    rw [tkL, if_neg (by omega), if_pos (hl 0 d rfl (by omega)), ih]
    have e1 : i + 1 + q = i + (q + 1) := by omega
    rw [e1]
    congr 1
    simp only [Prod.mk.injEq, and_true]
    rw [List.take_succ_cons, dg, pow_succ128, Nat.add_mul, Nat.mul_comm 128 (dg _), Nat.mul_assoc (dg _) 128, Nat.mul_comm 128 (128 ^ i)]
    omega
theorem tk_high {bs : List UInt8} (h : ∀ j c, bs[j]? = some c → j < 9 → 128 ≤ c.toNat) : tk bs = (0, 0) := tkL_high bs 0 0 (fun j c hj hi => h j c hj (by omega))
theorem tk_end {q : Nat} {bs : List UInt8} {c : UInt8} (h1 : ∀ j d, bs[j]? = some d → j < q → 128 ≤ d.toNat) (h2 : bs[q]? = some c) (h3 : c.toNat < 128) (h4 : q ≤ 8) : tk bs = if c.toNat = 0 ∧ 0 < q then (0, 0) else (dg (bs.take (q + 1)), q + 1) := by
  have := tkL_end q bs 0 0 c h1 h2 h3 (by omega)
  unfold tk
  rw [this]
  simp
theorem dg_drop {l : List UInt8} {p : Nat} {c : UInt8} (h : l[p]? = some c) : dg (l.drop p) = dg (l.drop (p + 1)) * 128 + c.toNat % 128 := by
  obtain ⟨hi, rfl⟩ := List.getElem?_eq_some_iff.1 h
  rw [List.drop_eq_getElem_cons hi, dg]; omega
end Go.Proofs.YtndahpcjkcihlaaGreat
/- Take: the document's. -/
namespace Go.Proofs.YtndahpcjkcihlaaGreat
open Go.RowKit
set_option linter.unusedVariables false
set_option linter.unusedSimpArgs false

set_option maxRecDepth 100000 in
set_option maxHeartbeats 2000000 in
theorem rtake_any {B : Nat → Prop} {w : World} {sl : Value} {bs : List UInt8} (hb : IsB B w sl bs) (hl : bs.length ≤ 1000000) :
    Calls Tryz.prog 42 #[sl] w fun r w' => r = .returned (.tuple #[.int .i64 ((tk bs).1 : Nat), .int .i64 ((tk bs).2 : Nat)]) ∧ w' = w := by
  obtain ⟨ao, cap, rfl, hc1, hc2, -, hcell⟩ := hb
  go_enter Tryz.func42, Tryz.ntmps42
  go_wp2_with fail
  go_loopg [4] bs.length (fun g i wr => ∃ q : Nat, q ≤ bs.length ∧ g = bs.length - q ∧ i = .int .i64 q ∧ Hid (∀ j d, bs[j]? = some d → j < q → 128 ≤ d.toNat) ∧ wr = w)
  case atStart => exact ⟨0, by omega, rfl, rfl, fun j d _ h => by omega, rfl⟩
  case round =>
    obtain ⟨q, hq, rfl, rfl, HT, rfl⟩ := hrel
    by_cases hlt : q < bs.length
    · have hltI : (q : Int) < (bs.length : Int) := by omega
      have hgeI : ¬ (bs.length : Int) ≤ (q : Int) := by omega
      have hq0 : (0 : Int) ≤ (q : Int) := by omega
      obtain ⟨g, o, rfl, hBg, hgl, hc⟩ := hcell (by intro e; rw [e] at hlt; simp at hlt)
      have hcq := hc q bs[q] (List.getElem?_eq_getElem hlt)
      have hgq : Hid (bs[q]? = some bs[q]) := List.getElem?_eq_getElem hlt
      have hcl := bs[q].toNat_lt
      generalize bs[q] = c at *
      by_cases h128 : 128 ≤ c.toNat
      · have hcI : (128 : Int) ≤ (c.toNat : Int) := by omega
        have HT2 : Hid (∀ j d, bs[j]? = some d → j < q + 1 → 128 ≤ d.toNat) := by
          intro j d hj hjq
          by_cases e : j = q
          · subst e; rw [hgq.out] at hj; obtain rfl := Option.some.inj hj; exact h128
          · exact HT.out j d hj (by omega)
        clear HT hgq hc hcell
        go_wp2_with fail
        go_roundg (bs.length - (q + 1))
        case measure => omega
        case rel => exact ⟨q + 1, by omega, rfl, by go_num, HT2, rfl⟩
      · have hcI : ¬ (128 : Int) ≤ (c.toNat : Int) := by omega
        by_cases h9 : 9 ≤ q
        · have h9I : (9 : Int) ≤ (q : Int) := by omega
          have HF : Hid (tk bs = (0, 0)) := tk_high (fun j d hj h => HT.out j d hj (by omega))
          clear HT hgq hc hcell
          go_wp2
          go_ret2
          exact ⟨by rw [HF.out]; rfl, rfl⟩
        have h9I : ¬ (9 : Int) ≤ (q : Int) := by omega
        have HF : Hid (tk bs = if c.toNat = 0 ∧ 0 < q then (0, 0) else (dg (bs.take (q + 1)), q + 1)) := tk_end HT.out hgq.out (by omega) (by omega)
        have hend : Hid (∀ (P : Prop), (c.toNat = 0 ∧ 0 < q → P) → P → P) := fun P _ h => h
        have main : ¬ (c.toNat = 0 ∧ 0 < q) → tk bs = (dg (bs.take (q + 1)), q + 1) := fun h => by rw [HF.out, if_neg h]
        by_cases hz : c.toNat = 0 ∧ 0 < q
        · obtain ⟨z1, z2⟩ := hz
          have hqI : (0 : Int) < (q : Int) := by omega
          have hcz : ((c.toNat : Int) == 0) = true := by simp [z1]
          have HF2 : Hid (tk bs = (0, 0)) := by show _ = _; rw [HF.out, if_pos ⟨z1, z2⟩]
          clear HT hgq hc hcell HF main hend z1
          go_wp2
          go_ret2
          exact ⟨by rw [HF2.out]; rfl, rfl⟩
        · have HF2 : Hid (tk bs = (dg (bs.take (q + 1)), q + 1)) := main hz
          have hcells : Hid (∀ (p : Nat) (d : UInt8), bs[p]? = some d → wr.cell? ⟨g, o + p, none⟩ = some (.int .u8 d.toNat)) := hc
          have hfin : ∀ (Q : Prop), (∀ (p : Nat), p ≤ q + 1 → True) → Q → Q := fun Q _ h => h
          have hcz : (decide ((0 : Int) < (q : Int)) && ((c.toNat : Int) == 0)) = false := by
            by_cases h0 : 0 < q
            · have : c.toNat ≠ 0 := fun e => hz ⟨e, h0⟩
              simp; intro; omega
            · simp; omega
          clear HT hgq hc hcell HF main hend hz hfin
          by_cases h0 : 0 < q
          all_goals
            have h0I : (0 : Int) < (q : Int) ∨ ¬ (0 : Int) < (q : Int) := by omega
            first
              | (have hqI : (0 : Int) < (q : Int) := by omega
                 have hcb : ((c.toNat : Int) == 0) = false := by
                   simp only [decide_eq_true hqI, Bool.true_and] at hcz; exact hcz
                 clear hcz h0I
                 go_wp2_with fail)
              | (have hqI : ¬ (0 : Int) < (q : Int) := by omega
                 clear hcz h0I
                 go_wp2_with fail)
            go_loopg [5, 6] (q + 1) (fun g x i wr' => ∃ p : Nat, p ≤ q + 1 ∧ p = g ∧ i = .int .i64 ((p : Int) - 1) ∧ x = .int .i64 (dg ((bs.take (q + 1)).drop p) : Nat) ∧ wr' = wr)
            case atStart =>
              exact ⟨q + 1, Nat.le_refl _, rfl, by go_num, by rw [List.drop_of_length_le (by simp; omega)]; rfl, rfl⟩
            case round =>
              obtain ⟨p, hp, rfl, rfl, rfl, rfl⟩ := hrel
              by_cases hp0 : 0 < p
              · obtain ⟨p, rfl⟩ : ∃ p', p = p' + 1 := ⟨p - 1, by omega⟩
                have hpb : p < bs.length := by omega
                have hd := hcells.out p bs[p] (List.getElem?_eq_getElem hpb)
                have hdr : Hid (dg ((bs.take (q + 1)).drop p) = dg ((bs.take (q + 1)).drop (p + 1)) * 128 + bs[p].toNat % 128) := dg_drop (by rw [List.getElem?_take, if_pos (by omega)]; exact List.getElem?_eq_getElem hpb)
                have hdl := bs[p].toNat_lt
                have hbd : dg ((bs.take (q + 1)).drop (p + 1)) ≤ 72057594037927935 := by
                  have h1 := dg_lt ((bs.take (q + 1)).drop (p + 1))
                  have h2 : ((bs.take (q + 1)).drop (p + 1)).length ≤ 8 := by simp; omega
                  have h3 : (128 : Nat) ^ ((bs.take (q + 1)).drop (p + 1)).length ≤ 128 ^ 8 := Nat.pow_le_pow_right (by omega) h2
                  have h4 : (128 : Nat) ^ 8 = 72057594037927936 := by decide
                  omega
                generalize bs[p] = d at *
                generalize hX : dg ((bs.take (q + 1)).drop (p + 1)) = X at *
                have hi1 : (((p + 1 : Nat) : Int) - 1) = (p : Int) := by omega
                rw [hi1]
                have hp1 : (0 : Int) ≤ (p : Int) := by omega
                have hp2 : (p : Int) < (bs.length : Int) := by omega
                have hXI : (X : Int) ≤ 72057594037927935 := by omega
                have hX0 : (0 : Int) ≤ (X : Int) := by omega
                clear hX hcells
                go_wp2_with fail
                go_roundg p
                case measure => omega
                case rel => exact ⟨p, by omega, rfl, by go_num, by rw [hdr.out]; go_num, rfl⟩
              · obtain rfl : p = 0 := by omega
                clear hcells
                go_wp2
                go_ret2
                exact ⟨by rw [HF2.out]; simp, rfl⟩
    · have hltI : ¬ (q : Int) < (bs.length : Int) := by omega
      have hgeI : (bs.length : Int) ≤ (q : Int) := by omega
      have HF : Hid (tk bs = (0, 0)) := tk_high (fun j d hj h => HT.out j d hj (by have := (List.getElem?_eq_some_iff.1 hj).1; omega))
      clear HT hcell
      go_wp2
      go_ret2
      exact ⟨by rw [HF.out]; rfl, rfl⟩
end Go.Proofs.YtndahpcjkcihlaaGreat
