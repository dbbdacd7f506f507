/- Texts of ours, joined: Jc, Jd, Na, Mp. -/
import Derived.Test.YtnijcolomoobnaaGreatDoorK04
import Derived.Test.YtnijcolomoobnaaGreatDoorK07
import Derived.Test.YtnijcolomoobnaaGreatDoorK01
import Derived.Test.YtnijcolomoobnaaGreatDoorK00
namespace Go.Proofs.YtnijcolomoobnaaGreatDoor
open Go.RowKit
set_option linter.unusedVariables false
set_option linter.unusedSimpArgs false
attribute [local go_sem ↓] Go.wp_at_zero Go.wp_at_succ

noncomputable def numB (nc : Nat) (f : Fu) : Bool := @decide (NumOk nc f) (Classical.propDecidable _)
theorem numB_iff {nc : Nat} {f : Fu} : numB nc f = true ↔ NumOk nc f := by unfold numB; simp
theorem numB_not {nc : Nat} {f : Fu} (h : ¬ NumOk nc f) : numB nc f = false := by
  cases e : numB nc f with
  | false => rfl
  | true => exact absurd (numB_iff.1 e) h
set_option maxRecDepth 100000 in
set_option maxHeartbeats 8000000 in
theorem framed_any {f : Fu} {ak af : Option Addr} {ck cf nc n : Nat} {states : Int} (hk : f.code.length ≤ 900000) (hnc : nc ≤ 900000) (w : World) : Calls Tryz.prog 121 #[.agg #[.int .i64 f.params, .int .i64 f.locals, .int .i64 f.zero, .int .i64 f.stack, .slice ak f.code.length ck, .int .i64 nc, .int .i64 states, .slice af n cf]] w fun e w' => e = .returned (.bool (numB nc f)) ∧ Below w.heap.size w w' := by
  obtain ⟨w0, hW0, hb0, hl0, hx0⟩ := box8 w (.int .i64 f.params) (.int .i64 f.locals) (.int .i64 f.zero) (.int .i64 f.stack) (.slice ak f.code.length ck) (.int .i64 nc) (.int .i64 states) (.slice af n cf) 131
  obtain ⟨d0, d1, d2, d3, d4, d5, d6, d7, hlt0⟩ := cells_k8 hx0
  obtain ⟨r, hr⟩ : ∃ r, Hid (numB nc f = r) := ⟨_, rfl⟩
  rw [hr.out]
  have hno : ¬ NumOk nc f → (Ending.returned (.bool false) = Ending.returned (.bool r) ∧ Below w.heap.size w w0) := fun h => ⟨by rw [← hr.out, numB_not h], hb0⟩
  have hw1 : IntKind.i64.wrap ((nc : Int) - 1) = (nc : Int) - 1 := by rw [IntKind.wrap_i64]; omega
  have hC1 := within_any f.params 0 8 w0
  have hC2 := within_any f.locals f.params 256 w0
  have hC3 := within_any f.zero 0 ((nc : Int) - 1) w0
  have hC4 := within_any f.stack 1 256 w0
  have hC5 := within_any (f.code.length : Int) 1 16384 w0
  clear hx0 hl0
  cases h1 : wn f.params 0 8 with
  | false =>
    have hpost := hno (fun h => by have := (Bool.eq_false_iff.1 h1); rw [Ne, wn_iff] at this; unfold NumOk at h; omega)
    rw [h1] at hC1
    clear hno hC2 hC3 hC4 hC5 h1 hr hk
    go_enter Tryz.func121, Tryz.ntmps121
    go_wp2_with (refine hC1.mono ?_; rintro e w1 ⟨rfl, rfl⟩)
    go_ret
    exact hpost
  | true =>
  rw [h1] at hC1
  cases h2 : wn f.locals f.params 256 with
  | false =>
    have hpost := hno (fun h => by have := (Bool.eq_false_iff.1 h2); rw [Ne, wn_iff] at this; unfold NumOk at h; omega)
    rw [h2] at hC2
    clear hno hC3 hC4 hC5 h1 h2 hr hk
    go_enter Tryz.func121, Tryz.ntmps121
    go_wp2_with (first | (refine hC1.mono ?_; rintro e w1 ⟨rfl, rfl⟩; clear hC1) | (refine hC2.mono ?_; rintro e w1 ⟨rfl, rfl⟩))
    go_ret
    exact hpost
  | true =>
  rw [h2] at hC2
  cases h3 : wn f.zero 0 ((nc : Int) - 1) with
  | false =>
    have hpost := hno (fun h => by have := (Bool.eq_false_iff.1 h3); rw [Ne, wn_iff] at this; unfold NumOk at h; omega)
    rw [h3] at hC3
    clear hno hC4 hC5 h1 h2 h3 hr hk
    go_enter Tryz.func121, Tryz.ntmps121
    go_wp2_with (first | (refine hC1.mono ?_; rintro e w1 ⟨rfl, rfl⟩; clear hC1) | (refine hC2.mono ?_; rintro e w1 ⟨rfl, rfl⟩; clear hC2) | (refine hC3.mono ?_; rintro e w1 ⟨rfl, rfl⟩; clear hC3))
    go_ret
    exact hpost
  | true =>
  rw [h3] at hC3
  cases h4 : wn f.stack 1 256 with
  | false =>
    have hpost := hno (fun h => by have := (Bool.eq_false_iff.1 h4); rw [Ne, wn_iff] at this; unfold NumOk at h; omega)
    rw [h4] at hC4
    clear hno hC5 h1 h2 h3 h4 hr hk
    go_enter Tryz.func121, Tryz.ntmps121
    go_wp2_with (first | (refine hC1.mono ?_; rintro e w1 ⟨rfl, rfl⟩; clear hC1) | (refine hC2.mono ?_; rintro e w1 ⟨rfl, rfl⟩; clear hC2) | (refine hC3.mono ?_; rintro e w1 ⟨rfl, rfl⟩; clear hC3) | (refine hC4.mono ?_; rintro e w1 ⟨rfl, rfl⟩; clear hC4))
    go_ret
    exact hpost
  | true =>
  rw [h4] at hC4
  have hpost : Ending.returned (.bool (wn (f.code.length : Int) 1 16384)) = Ending.returned (.bool r) ∧ Below w.heap.size w w0 := by
    refine ⟨?_, hb0⟩
    rw [← hr.out]
    refine ret_bool ?_
    rw [wn_iff] at h1 h2 h3 h4
    rw [Bool.eq_iff_iff, wn_iff, numB_iff]
    unfold NumOk
    omega
  clear hno h1 h2 h3 h4 hr hk
  go_enter Tryz.func121, Tryz.ntmps121
  go_wp2_with (first | (refine hC1.mono ?_; rintro e w1 ⟨rfl, rfl⟩; clear hC1) | (refine hC2.mono ?_; rintro e w1 ⟨rfl, rfl⟩; clear hC2) | (refine hC3.mono ?_; rintro e w1 ⟨rfl, rfl⟩; clear hC3) | (refine hC4.mono ?_; rintro e w1 ⟨rfl, rfl⟩; clear hC4) | (refine hC5.mono ?_; rintro e w1 ⟨rfl, rfl⟩; clear hC5))
  go_ret
  exact hpost
noncomputable def insB (nc : Nat) (states : Int) (n : Nat) (f : Fu) : Bool := @decide (∀ i ∈ f.code, InOk nc states n f i) (Classical.propDecidable _)
theorem insB_iff {nc : Nat} {states : Int} {n : Nat} {f : Fu} : insB nc states n f = true ↔ ∀ i ∈ f.code, InOk nc states n f i := by unfold insB; simp
theorem insB_not {nc : Nat} {states : Int} {n : Nat} {f : Fu} {i : In} (hi : i ∈ f.code) (h : inB nc states n f i = false) : insB nc states n f = false := by
  cases e : insB nc states n f with
  | false => rfl
  | true =>
    have := insB_iff.1 e i hi
    unfold InOk at this
    rw [h] at this
    cases this
set_option maxRecDepth 100000 in
set_option maxHeartbeats 8000000 in
theorem fine_any {B : Nat → Prop} {f : Fu} {ak af : Option Addr} {ck cf nc n : Nat} {states : Int} {w : World} (hf : IsFn B w f (.slice ak f.code.length ck)) (hk : f.code.length ≤ 900000) (hl : 0 ≤ f.locals ∧ f.locals ≤ 256) (hnc : nc ≤ 900000) (hn : n ≤ 900000) (hst : 0 ≤ states ∧ states ≤ 32) : Calls Tryz.prog 122 #[.agg #[.int .i64 f.params, .int .i64 f.locals, .int .i64 f.zero, .int .i64 f.stack, .slice ak f.code.length ck, .int .i64 nc, .int .i64 states, .slice af n cf]] w fun e w' => e = .returned (.bool (insB nc states n f)) ∧ Below w.heap.size w w' := by
  obtain ⟨w0, hW0, hb0, hl0, hx0⟩ := box8 w (.int .i64 f.params) (.int .i64 f.locals) (.int .i64 f.zero) (.int .i64 f.stack) (.slice ak f.code.length ck) (.int .i64 nc) (.int .i64 states) (.slice af n cf) 131
  obtain ⟨d0, d1, d2, d3, d4, d5, d6, d7, hlt0⟩ := cells_k8 hx0
  obtain ⟨r, hr⟩ : ∃ r, Hid (insB nc states n f = r) := ⟨_, rfl⟩
  rw [hr.out]
  have hE := fun (op : Int) (w : World) => ends_any (f := f) (ak := ak) (af := af) (ck := ck) (cf := cf) hk hl hnc hn hst op w
  have hcell : ∀ wr, Below w0.heap.size w0 wr → wr.heap[w.heap.size]? = some (.cells #[.int .i64 f.params, .int .i64 f.locals, .int .i64 f.zero, .int .i64 f.stack, .slice ak f.code.length ck, .int .i64 nc, .int .i64 states, .slice af n cf] 131 (0, 0)) := fun wr hb => (hb.block _ hlt0).trans hx0
  clear hx0 hl0
  go_enter Tryz.func122, Tryz.ntmps122
  go_wp2_with fail
  clear d0 d1 d2 d3 d4 d5 d6 d7 hW0
  go_loopg [11] f.code.length (fun gk i wr => ∃ j : Nat, j ≤ f.code.length ∧ gk = f.code.length - j ∧ i = .int .i64 j ∧ Hid (Below w0.heap.size w0 wr ∧ ∀ (k : Nat) i, k < j → f.code[k]? = some i → InOk nc states n f i))
  case atStart => exact ⟨0, Nat.zero_le _, rfl, rfl, Below.refl _ _, fun k i hk => by omega⟩
  case round =>
    obtain ⟨j, hj, rfl, rfl, HI⟩ := hrel
    have hBj := HI.out.1
    have Hin : Hid (∀ (k : Nat) i, k < j → f.code[k]? = some i → InOk nc states n f i) := HI.out.2
    clear HI
    have hBw : Below w.heap.size w wr := hb0.trans (hBj.mono hb0.size)
    by_cases hjlt : j < f.code.length
    · have hjI : (j : Int) < (f.code.length : Int) := by omega
      have hj0 : (0 : Int) ≤ (j : Int) := by omega
      obtain ⟨i, hi⟩ : ∃ i, f.code[j]? = some i := ⟨_, List.getElem?_eq_getElem hjlt⟩
      obtain ⟨gc, oc, hak, -, hgc, ci0, ci1, -, -⟩ := ((hf.below hBw).code).get hi
      subst hak
      obtain ⟨wz, wi, hWz, hWi, hbz, hbi, -, hxi, hz⟩ := zibox wr (.int .i64 i.op) (.int .i64 i.a)
      obtain ⟨z0, z1, y0, y1, hlz⟩ := cells_k2 hz
      obtain ⟨u0, u1, -, -, hli⟩ := cells_k2 hxi
      have hBji : Below w0.heap.size w0 wi := hBj.trans (hbi.mono hBj.size)
      obtain ⟨e0, e1, e2, e3, e4, e5, e6, e7, hle⟩ := cells_k8 (hcell wi hBji)
      have hF := hE i.op wi
      have hii : Hid (f.code[j]? = some i) := hi
      clear hi hz hf hE
      go_wp2_with fail
      refine hF.mono ?_
      rintro e w3 ⟨rfl, hb3⟩
      have hBj3 : Below w0.heap.size w0 w3 := hBji.trans (hb3.mono hBji.size)
      have hBw3 : Below w.heap.size w w3 := hb0.trans (hBj3.mono hb0.size)
      obtain ⟨v0, v1, -, -, hlv⟩ := cells_k2 ((hb3.block _ hli).trans hxi)
      have hG := within_any i.a (inLow i.op) (enHi nc states n f i.op) w3
      rw [en_inB] at hG
      clear hF hWz hWi z0 z1 y0 y1 u0 u1 ci0 ci1 e0 e1 e2 e3 e4 e5 e6 e7 hxi hcell
      generalize inLow i.op = lo at *
      generalize enHi nc states n f i.op = hi at *
      go_wp2_with fail
      refine hG.mono ?_
      rintro e w4 ⟨rfl, rfl⟩
      clear hG v0 v1
      cases hib : inB nc states n f i with
      | false =>
        have hpost : Ending.returned (.bool false) = Ending.returned (.bool r) ∧ Below w.heap.size w w4 := ⟨by rw [← hr.out, insB_not (List.mem_of_getElem? hii.out) hib], hBw3⟩
        clear hBj hBji hBj3 hBw3 Hin hii hib
        go_wp2
        go_ret
        exact hpost
      | true =>
        have hnew : Hid (Below w0.heap.size w0 w4 ∧ ∀ (k : Nat) i, k < j + 1 → f.code[k]? = some i → InOk nc states n f i) := ⟨hBj3, fun k i' hk hi' => by
          by_cases e : k = j
          · subst e
            rw [hii.out] at hi'
            cases hi'
            exact hib
          · exact Hin.out k i' (by omega) hi'⟩
        clear hBj hBji hBj3 hBw3 Hin hii hib
        go_wp2_with fail
        go_roundg (f.code.length - (j + 1))
        case measure => omega
        case rel => exact ⟨j + 1, by omega, rfl, by go_num, hnew⟩
    · have hjI : ¬ (j : Int) < (f.code.length : Int) := by omega
      have hall : insB nc states n f = true := insB_iff.2 fun i hi => by
        obtain ⟨k, hk⟩ := List.mem_iff_getElem?.1 hi
        exact Hin.out k i (by have := (List.getElem?_eq_some_iff.1 hk).1; omega) hk
      have hpost : Ending.returned (.bool true) = Ending.returned (.bool r) ∧ Below w.heap.size w wr := ⟨by rw [← hr.out, hall], hBw⟩
      clear hf hE hcell Hin hBj hall hr
      go_wp2
      go_ret
      exact hpost
end Go.Proofs.YtnijcolomoobnaaGreatDoor
namespace Go.Proofs.YtnijcolomoobnaaGreatDoor
open Go.RowKit
set_option linter.unusedVariables false
set_option linter.unusedSimpArgs false
attribute [local go_sem ↓] Go.wp_at_zero Go.wp_at_succ

structure Fr (G : Nat → Prop) (w w' : World) : Prop where
  os : w'.os = w.os
  tape : w'.tape = w.tape
  output : w'.output = w.output
  size : w.heap.size ≤ w'.heap.size
  block : ∀ k, G k → k < w.heap.size → w'.heap[k]? = w.heap[k]?
theorem Fr.refl (G : Nat → Prop) (w : World) : Fr G w w := ⟨rfl, rfl, rfl, Nat.le_refl _, fun _ _ _ => rfl⟩
theorem Fr.trans {G : Nat → Prop} {w w1 w2 : World} (a : Fr G w w1) (b : Fr G w1 w2) : Fr G w w2 := ⟨b.os.trans a.os, b.tape.trans a.tape, b.output.trans a.output, Nat.le_trans a.size b.size, fun k h1 h2 => (b.block k h1 (Nat.lt_of_lt_of_le h2 a.size)).trans (a.block k h1 h2)⟩
theorem Fr.of_below {G : Nat → Prop} {w w' : World} (h : Below w.heap.size w w') : Fr G w w' := ⟨h.os, h.tape, h.output, h.size, fun k _ h1 => h.block k h1⟩
theorem Fr.below {G : Nat → Prop} {w w' : World} (h : Fr G w w') {n : Nat} (hn : n ≤ w.heap.size) (hG : ∀ k, k < n → G k) : Below n w w' := ⟨h.os, h.tape, h.output, h.size, fun k hk => h.block k (hG k hk) (by omega)⟩
theorem Fr.mono {G G' : Nat → Prop} {w w' : World} (h : Fr G w w') (hG : ∀ k, G' k → G k) : Fr G' w w' := ⟨h.os, h.tape, h.output, h.size, fun k hk => h.block k (hG k hk)⟩
theorem Fr.set {G : Nat → Prop} {w : World} {g : Nat} (hg : ¬ G g) (o : Nat) (x : Value) : Fr G w (w.setCell ⟨g, o, none⟩ x) := ⟨rfl, rfl, rfl, by simp [World.setCell], fun k hk _ => Below.heap_setCell _ _ _ _ (by rintro rfl; exact hg hk)⟩
theorem Fr.grown {G : Nat → Prop} {w w' : World} {row : Option Nat} (hg : w.grownBy w' row) (hr : ∀ k, row = some k → ¬ G k) : Fr G w w' := ⟨hg.os, hg.tape, hg.output, hg.size, fun k hk h1 => hg.block k h1 (fun e => hr k e.symm hk)⟩
abbrev tI (td : List Nat) : List Int := td.map fun (n : Nat) => (n : Int)
theorem tI_len (td : List Nat) : (tI td).length = td.length := List.length_map _
structure Wk (G : Nat → Prop) (p gh : Nat) (hs : List Int) (td : List Nat) (w : World) : Prop where
  hk : Ints w gh hs
  bx : ∃ tv, w.heap[p]? = some (.cells #[.slice (some ⟨gh, 0, none⟩) hs.length hs.length, tv] 152 (0, 0)) ∧ IRow 0 w tv (tI td) ∧ tv.ownBlock ≠ some p ∧ tv.ownBlock ≠ some gh ∧ ∀ k, tv.ownBlock = some k → ¬ G k
  np : ¬ G p
  ng : ¬ G gh
  pg : p ≠ gh
  gb : ∀ k, G k → k < w.heap.size
theorem Wk.keep {G : Nat → Prop} {p gh : Nat} {hs : List Int} {td : List Nat} {w w' : World} (h : Wk G p gh hs td w) (hb : Below w.heap.size w w') : Wk G p gh hs td w' := by
  obtain ⟨tv, b1, b2, b3, b4, b5⟩ := h.bx
  exact ⟨h.hk.keep (hb.block _ (Array.getElem?_eq_some_iff.1 h.hk).1), ⟨tv, (hb.block _ (Array.getElem?_eq_some_iff.1 b1).1).trans b1, b2.since (fun j hj => hb.block j (b2.lt hj).2), b3, b4, b5⟩, h.np, h.ng, h.pg, fun k hk => Nat.lt_of_lt_of_le (h.gb k hk) hb.size⟩
theorem Wk.more {G : Nat → Prop} {p gh : Nat} {hs : List Int} {td : List Nat} {w w' : World} (h : Wk G p gh hs td w) (hb : Below w.heap.size w w') {b : Nat} (h1 : w.heap.size ≤ b) (h2 : b < w'.heap.size) : Wk (fun k => G k ∨ k = b) p gh hs td w' := by
  have h' := h.keep hb
  obtain ⟨tv, b1, b2, b3, b4, b5⟩ := h.bx
  obtain ⟨tv', c1, c2, c3, c4, c5⟩ := h'.bx
  have l1 := (Array.getElem?_eq_some_iff.1 b1).1
  have l2 := (Array.getElem?_eq_some_iff.1 h.hk).1
  have e : tv' = tv := by
    rw [(hb.block _ l1).trans b1] at c1
    simp only [Option.some.injEq, Obj.cells.injEq, Array.mk.injEq, List.cons.injEq] at c1
    exact c1.1.2.1.symm
  subst e
  refine ⟨h'.hk, ⟨tv', c1, c2, c3, c4, fun k hk => ?_⟩, ?_, ?_, h.pg, ?_⟩
  · rintro (hG | rfl)
    · exact c5 k hk hG
    · have := (b2.lt hk).2; omega
  · rintro (hG | rfl)
    · exact h.np hG
    · omega
  · rintro (hG | rfl)
    · exact h.ng hG
    · omega
  · rintro k (hG | rfl)
    · exact h'.gb k hG
    · exact h2
theorem Wk.less {G G' : Nat → Prop} {p gh : Nat} {hs : List Int} {td : List Nat} {w : World} (h : Wk G p gh hs td w) (hG : ∀ k, G' k → G k) : Wk G' p gh hs td w := by
  obtain ⟨tv, b1, b2, b3, b4, b5⟩ := h.bx
  exact ⟨h.hk, ⟨tv, b1, b2, b3, b4, fun k hk hg => b5 k hk (hG k hg)⟩, fun hg => h.np (hG _ hg), fun hg => h.ng (hG _ hg), h.pg, fun k hk => h.gb k (hG k hk)⟩
set_option maxRecDepth 100000 in
set_option maxHeartbeats 1000000 in
theorem height_any {G : Nat → Prop} {p gh : Nat} {hs : List Int} {td : List Nat} {w : World} (h : Wk G p gh hs td w) (hlen : hs.length ≤ 900000) {q : Nat} {y : Int} (hy : hs[q]? = some y) (h0 : 0 ≤ y ∧ y ≤ 1000) : Calls Tryz.prog 147 #[.pointer (some ⟨p, 0, none⟩), .int .i64 q] w fun e w' => e = .returned (.int .i64 (y - 1)) ∧ w' = w := by
  obtain ⟨tv, b1, b2, b3, b4, b5⟩ := h.bx
  obtain ⟨c0, c1, -, -, hlp⟩ := cells_k2 b1
  obtain ⟨k0, k1, k2⟩ := h.hk.get hy
  have hql := (List.getElem?_eq_some_iff.1 hy).1
  have hI : (q : Int) < (hs.length : Int) := by omega
  have hq0 : (0 : Int) ≤ (q : Int) := by omega
  obtain ⟨l0, l1⟩ := h0
  have hw : IntKind.i64.wrap (y - 1) = y - 1 := by rw [IntKind.wrap_i64]; omega
  clear b1 b2 b3 b4 b5 h hy
  go_enter Tryz.func147, Tryz.ntmps147
  go_wp2
  go_ret
  exact ⟨rfl, rfl⟩
end Go.Proofs.YtnijcolomoobnaaGreatDoor
namespace Go.Proofs.YtnijcolomoobnaaGreatDoor
set_option linter.unusedVariables false
set_option linter.unusedSimpArgs false

def exR (x : Int) : Int × Int := if -9223372036854775808 ≤ x ∧ x ≤ 9223372036854775807 then (x, 0) else (0, 50)
theorem exR_in {x : Int} (h : InR x) : exR x = (x, 0) := by unfold exR InR at *; rw [if_pos h]
theorem exR_out {x : Int} (h : ¬ InR x) : exR x = (0, 50) := by unfold exR InR at *; rw [if_neg h]
theorem exR_r (x : Int) : InR (exR x).1 := by
  unfold exR
  split
  · assumption
  · unfold InR; simp
def arZ (op a b : Int) : Int × Int :=
  if op = 9 then exR (a + b) else if op = 10 then exR (a - b) else if op = 11 then exR (a * b)
  else if op = 12 then (if b = 0 then (0, 51) else exR (a.tdiv b)) else if op = 13 then (if b = 0 then (0, 51) else (a.tmod b, 0)) else (0, 40)
def ordB (op c : Int) : Bool := if op = 5 then decide (c < 0) else if op = 6 then decide (c ≤ 0) else if op = 7 then decide (c > 0) else decide (c ≥ 0)
abbrev bV' (b : Bool) : V := .mk 2 (if b then 1 else 0) [] []
abbrev nV (n : Int) : V := .mk 1 n [] []
abbrev tV (t : List UInt8) : V := .mk 3 0 t []
abbrev zV : V := .mk 0 0 [] []
def binV (op : Int) (a b : V) : V × Int :=
  if op = 3 then (bV' (decide (cmpV a b = 0)), 0) else if op = 4 then (bV' (decide (cmpV a b ≠ 0)), 0)
  else if a.k ≠ b.k ∨ (a.k ≠ 1 ∧ a.k ≠ 3) then (zV, 40)
  else if 5 ≤ op ∧ op ≤ 8 then (bV' (ordB op (cmpV a b)), 0)
  else if a.k = 1 then (if (arZ op a.n b.n).2 = 0 then (nV (arZ op a.n b.n).1, 0) else (zV, (arZ op a.n b.n).2))
  else if op = 9 then (if a.t.length + b.t.length ≤ 256 then (tV (a.t ++ b.t), 0) else (zV, 53)) else (zV, 40)
def negV (a : V) : V × Int := if a.k = 1 then (if (exR (-a.n)).2 = 0 then (nV (exR (-a.n)).1, 0) else (zV, (exR (-a.n)).2)) else (zV, 40)
/-! What machine arithmetic tells of it. -/
def wr64 (x : Int) : Int := (x + 9223372036854775808) % 18446744073709551616 - 9223372036854775808
theorem wr64_in {x : Int} (h : InR x) : wr64 x = x := by unfold wr64 InR at *; omega
theorem wr64_r (x : Int) : InR (wr64 x) := by unfold wr64 InR; omega
theorem sum_tell {a b : Int} (ha : InR a) (hb : InR b) : ((decide (wr64 (a + b) < a) == decide (b < 0)) = true) ↔ InR (a + b) := by
  rw [beq_iff_eq, decide_eq_decide]
  unfold InR wr64 at *
  omega
theorem sub_tell {a b : Int} (ha : InR a) (hb : InR b) : ((decide (wr64 (a - b) > a) == decide (b < 0)) = true) ↔ InR (a - b) := by
  rw [beq_iff_eq, decide_eq_decide]
  unfold InR wr64 at *
  omega
theorem mul_tell {a b : Int} (ha : InR a) (hb : InR b) (h0 : a ≠ 0) (h1 : a ≠ -1) : ((wr64 (a * b)).tdiv a = b) ↔ InR (a * b) := by
  constructor
  · intro h
    -- wr64 (a b) = a b + r, |r| < |a|
    have hr := Int.mul_tdiv_add_tmod (wr64 (a * b)) a
    rw [h] at hr
    -- the rest
    have hm : ∃ k : Int, wr64 (a * b) = a * b - 18446744073709551616 * k := by
      refine ⟨(a * b + 9223372036854775808) / 18446744073709551616, ?_⟩
      unfold wr64
      generalize a * b = x
      omega
    obtain ⟨k, hk⟩ := hm
    have h3 : (wr64 (a * b)).tmod a = -18446744073709551616 * k := by
      have : a * b + (wr64 (a * b)).tmod a = wr64 (a * b) := hr
      rw [hk] at this
      have h4 : (a * b - 18446744073709551616 * k).tmod a = -(18446744073709551616 * k) := by
        generalize (a * b - 18446744073709551616 * k).tmod a = y at this
        generalize a * b = x at this
        omega
      rw [hk, h4, Int.neg_mul]
    have h5 : ((wr64 (a * b)).tmod a).natAbs < a.natAbs := by rw [Int.natAbs_tmod]; exact Nat.mod_lt _ (Int.natAbs_pos.2 h0)
    rw [h3] at h5
    have h6 : k = 0 := by
      unfold InR at ha
      have : (-18446744073709551616 * k).natAbs = 18446744073709551616 * k.natAbs := by
        rw [Int.natAbs_mul]; rfl
      rw [this] at h5
      omega
    rw [h6] at hk
    have hw := wr64_r (a * b)
    rw [hk] at hw
    simpa using hw
  · intro h
    rw [wr64_in h]
    exact Int.mul_tdiv_cancel_left b h0
end Go.Proofs.YtnijcolomoobnaaGreatDoor
namespace Go.Proofs.YtnijcolomoobnaaGreatDoor
set_option linter.unusedVariables false
set_option linter.unusedSimpArgs false

def Rise (l : List V) : Prop := ∀ (i : Nat) (a b : V), l[2 * i]? = some a → l[2 * i + 2]? = some b → cmpV a b < 0
def Tidy (v : V) : Prop := v.k = 5 → v.l.length % 2 = 0 ∧ Rise v.l
theorem Rise.lt {l : List V} (h : Rise l) : ∀ {i j : Nat} {a b : V}, i < j → l[2 * i]? = some a → l[2 * j]? = some b → cmpV a b < 0 := by
  intro i j
  induction j with
  | zero => intro a b hij; omega
  | succ j ih =>
    intro a b hij ha hb
    by_cases hj : i = j
    · subst hj; exact h i a b ha (by rw [show 2 * i + 2 = 2 * (i + 1) by omega]; exact hb)
    · have hlt : 2 * j < l.length := by have := (List.getElem?_eq_some_iff.1 hb).1; omega
      have hc : l[2 * j]? = some l[2 * j] := List.getElem?_eq_getElem hlt
      exact cmpV_lt_trans (ih (by omega) ha hc) (h j _ b hc (by rw [show 2 * j + 2 = 2 * (j + 1) by omega]; exact hb))
def kat (k : V) : List V → Nat
  | a :: _ :: r => if cmpV a k < 0 then kat k r + 1 else 0
  | _ => 0
theorem kat_le (k : V) : ∀ l : List V, 2 * kat k l ≤ l.length
  | a :: b :: r => by
    rw [kat]; have := kat_le k r
    split <;> simp <;> omega
  | [] => by simp [kat]
  | [a] => by simp [kat]
theorem kat_lo (k : V) : ∀ (l : List V) (j : Nat) (a : V), j < kat k l → l[2 * j]? = some a → cmpV a k < 0
  | a :: b :: r, j, c, h, hc => by
    rw [kat] at h
    split at h
    · rename_i hak
      cases j with
      | zero => simp at hc; subst hc; exact hak
      | succ j => exact kat_lo k r j c (by omega) (by simpa [show 2 * (j + 1) = 2 * j + 1 + 1 by omega] using hc)
    · omega
  | [], j, c, h, hc => by simp at hc
  | [a], j, c, h, hc => by simp [kat] at h
theorem kat_hi (k : V) : ∀ (l : List V) (a : V), 2 * kat k l + 1 < l.length → l[2 * kat k l]? = some a → ¬ cmpV a k < 0
  | a :: b :: r, c, h, hc => by
    rw [kat] at h hc
    by_cases hak : cmpV a k < 0
    · rw [if_pos hak] at h hc
      exact kat_hi k r c (by simp at h; omega) (by simpa [show 2 * (kat k r + 1) = 2 * kat k r + 1 + 1 by omega] using hc)
    · rw [if_neg hak] at hc
      simp at hc; subst hc; exact hak
  | [], c, h, hc => by simp at hc
  | [a], c, h, hc => by simp at h
theorem kat_uniq {k : V} {l : List V} (hr : Rise l) {i : Nat} (hi : 2 * i ≤ l.length) (h1 : ∀ a, 0 < i → l[2 * (i - 1)]? = some a → cmpV a k < 0) (h2 : ∀ a, 2 * i + 1 < l.length → l[2 * i]? = some a → ¬ cmpV a k < 0) (he : l.length % 2 = 0) : kat k l = i := by
  have hle := kat_le k l
  rcases Nat.lt_trichotomy (kat k l) i with h | h | h
  · exfalso
    have hb : 2 * (i - 1) < l.length := by omega
    have hb0 : 2 * kat k l < l.length := by omega
    have e1 := h1 _ (by omega) (List.getElem?_eq_getElem hb)
    have e2 := kat_hi k l _ (by omega) (List.getElem?_eq_getElem hb0)
    by_cases he : kat k l = i - 1
    · apply e2
      have : l[2 * kat k l] = l[2 * (i - 1)] := by congr 1; omega
      rw [this]; exact e1
    · exact e2 (cmpV_lt_trans (hr.lt (i := kat k l) (j := i - 1) (by omega) (List.getElem?_eq_getElem hb0) (List.getElem?_eq_getElem hb)) e1)
  · exact h
  · exfalso
    have hb : 2 * i < l.length := by omega
    exact h2 _ (by omega) (List.getElem?_eq_getElem hb) (kat_lo k l i _ h (List.getElem?_eq_getElem hb))
def hit (k : V) (l : List V) : Bool := match l[2 * kat k l]? with | some a => decide (cmpV k a = 0) | none => false
theorem hit_some {k : V} {l : List V} (h : hit k l = true) : l[2 * kat k l]? = some k := by
  unfold hit at h
  rcases e : l[2 * kat k l]? with _ | a
  · rw [e] at h; cases h
  · rw [e] at h
    simp at h
    rw [(cmpV_zero k a).1 h]
theorem hit_at {k : V} {l : List V} (hr : Rise l) (he : l.length % 2 = 0) {i : Nat} (h : l[2 * i]? = some k) : kat k l = i ∧ hit k l = true := by
  have hlt := (List.getElem?_eq_some_iff.1 h).1
  have hk : kat k l = i := by
    refine kat_uniq hr (by omega) (fun a h0 ha => hr.lt (i := i - 1) (j := i) (by omega) ha h) (fun a _ ha => ?_) he
    rw [h] at ha
    simp only [Option.some.injEq] at ha
    subst ha
    rw [cmpV_self]; omega
  refine ⟨hk, ?_⟩
  unfold hit
  rw [hk, h]
  simp [cmpV_self]
def spl (l : List V) (f t : Nat) (xs : List V) : List V := l.take f ++ xs ++ l.drop t
theorem wts_drop_le (l : List V) (i : Nat) : wts (l.drop i) ≤ wts l := by
  have := wts_append (l.take i) (l.drop i)
  rw [List.take_append_drop] at this; omega
theorem wts_spl (l : List V) (f t : Nat) (xs : List V) : wts (spl l f t xs) ≤ wts l + wts xs + wts l := by
  unfold spl
  rw [wts_append, wts_append]
  have := wts_take_le l f; have := wts_drop_le l t; omega
def wgV (v : V) : V × Int := if wt v ≤ 16384 then (v, 0) else (V.zero, 53)
def plV (v k : V) : Nat × Int :=
  if v.k = 4 ∧ k.k = 1 then (if 0 ≤ k.n ∧ k.n < v.l.length then (k.n.toNat, 0) else (0, 52))
  else if v.k = 5 then (if hit k v.l = true then (2 * kat k v.l + 1, 0) else (0, 52))
  else (0, 40)
theorem plV_lt {v k : V} (ht : Tidy v) (h : (plV v k).2 = 0) : (plV v k).1 < v.l.length := by
  unfold plV at h ⊢
  split
  · split
    · simp only; omega
    · rename_i h1 h2; rw [if_pos h1, if_neg h2] at h; simp at h
  · rename_i h1
    rw [if_neg h1] at h
    split
    · rename_i h2
      rw [if_pos h2] at h
      split
      · rename_i h3
        have := (List.getElem?_eq_some_iff.1 (hit_some h3)).1
        have := (ht h2).1
        simp only; omega
      · rename_i h3; rw [if_neg h3] at h; simp at h
    · rename_i h2; rw [if_neg h2] at h; simp at h
def atV (v k : V) : V × Int := if (plV v k).2 = 0 then (v.l.getD (plV v k).1 V.zero, 0) else (V.zero, (plV v k).2)
def putV (v k x : V) : V × Int :=
  if (plV v k).2 = 0 then wgV (.mk v.k v.n v.t (spl v.l (plV v k).1 ((plV v k).1 + 1) [x]))
  else if v.k ≠ 5 then (V.zero, (plV v k).2)
  else if 64 ≤ v.l.length / 2 then (V.zero, 53)
  else wgV (.mk v.k v.n v.t (spl v.l (2 * kat k v.l) (2 * kat k v.l) [k, x]))
def delV (v k : V) : V × Int :=
  if v.k ≠ 5 then (V.zero, 40)
  else if hit k v.l = true then (.mk v.k v.n v.t (spl v.l (2 * kat k v.l) (2 * kat k v.l + 2) []), 0)
  else (v, 0)
def lenV (v : V) : Nat × Int := if v.k = 3 then (v.t.length, 0) else if v.k = 4 then (v.l.length, 0) else if v.k = 5 then (v.l.length / 2, 0) else (0, 40)
def pushV (v x : V) : V × Int := if v.k ≠ 4 then (V.zero, 40) else if 64 ≤ v.l.length then (V.zero, 53) else wgV (.mk v.k v.n v.t (v.l ++ [x]))
end Go.Proofs.YtnijcolomoobnaaGreatDoor
namespace Go.Proofs.YtnijcolomoobnaaGreatDoor
set_option linter.unusedVariables false
set_option linter.unusedSimpArgs false

theorem Rise.tail {a b : V} {r : List V} (h : Rise (a :: b :: r)) : Rise r := fun i x y hx hy => h (i + 1) x y (by simpa [show 2 * (i + 1) = 2 * i + 1 + 1 by omega] using hx) (by simpa [show 2 * (i + 1) + 2 = 2 * i + 2 + 1 + 1 by omega] using hy)
end Go.Proofs.YtnijcolomoobnaaGreatDoor
