/- Lists of a type: the program's. -/
import Derived.Test.YtkbplffckkjbfaaVb
import Derived.Test.YtkbplffckkjbfaaVc
import Derived.Deep.LoopGhost
namespace Go.Proofs.Ytkbplffckkjbfaa
open Go.RowKit
set_option linter.unusedVariables false
set_option linter.unusedSimpArgs false

/-- hasShape does what it should, of this type's text. -/
def HsOk (B : Nat → Prop) (y : List UInt8) (p : V → Bool) : Prop := ∀ (v : V) (sl : Value) (w : World), IsW B w v sl →
    Calls Try.prog 51 #[.agg #[.int .i64 v.k, .int .i64 v.n, .string ⟨v.t.toArray⟩, sl], .string ⟨y.toArray⟩] w fun r w' => r = .returned (.bool (p v)) ∧ Below w.heap.size w w'

set_option maxRecDepth 100000 in
set_option maxHeartbeats 1000000 in
theorem closure_any {B : Nat → Prop} {y : List UInt8} {p : V → Bool} (hok : HsOk B y p) {v : V} {sl : Value} {w : World} {g : Nat} (hv : IsW B w v sl) (hg : w.cell? ⟨g, 0, none⟩ = some (.string ⟨y.toArray⟩)) (hgl : g < w.heap.size) :
    Calls Try.prog 94 #[.agg #[.int .i64 v.k, .int .i64 v.n, .string ⟨v.t.toArray⟩, sl], .pointer (some ⟨g, 0, none⟩)] w fun r w' => r = .returned (.bool (!p v)) ∧ Below w.heap.size w w' := by
  obtain ⟨ao, cap, rfl, hc1, hc2⟩ := hv.vs.slice
  obtain ⟨w0, hW, hb0, hsz, d0, d1, d2, d3⟩ := boxed w v (.slice ao v.l.length cap)
  have hg' : w0.cell? ⟨g, 0, none⟩ = some (.string ⟨y.toArray⟩) := by rw [(bcell hb0).1 _ _ hgl]; exact hg
  have hC := hok v _ w0 (hv.below hb0)
  clear hv hok hg
  go_enter Try.func94, Try.ntmps94
  go_wp2_with fail
  refine hC.mono ?_
  rintro e w3 ⟨rfl, hb3⟩
  go_wp2
  go_ret
  exact ⟨rfl, hb0.trans (hb3.mono hb0.size)⟩
set_option maxRecDepth 100000 in
set_option maxHeartbeats 1000000 in
theorem indexFunc_any {B : Nat → Prop} {y : List UInt8} {p : V → Bool} (hok : HsOk B y p) {l : List V} {ao : Option Addr} {cap : Nat} {w : World} {g0 : Nat} (hl : IsVs B w l (.slice ao l.length cap)) (hg : w.cell? ⟨g0, 0, none⟩ = some (.string ⟨y.toArray⟩)) (hgl : g0 < w.heap.size) :
    Calls Try.prog 106 #[.slice ao l.length cap, .func (Fn.func 94) #[] #[.pointer (some ⟨g0, 0, none⟩)]] w fun r w' => (∃ i : Int, r = .returned (.int .i64 i) ∧ decide (0 ≤ i) = l.any (fun x => !p x)) ∧ Below w.heap.size w w' := by
  obtain ⟨ao', cap', e, a1, a2⟩ := hl.slice
  simp only [Value.slice.injEq] at e
  obtain ⟨rfl, -, rfl⟩ := e
  have hround : ∀ (q : Nat) (wr : World), q < l.length → Below w.heap.size w wr →
      ∃ x g o ax cx, l[q]? = some x ∧ ao = some ⟨g, o, none⟩ ∧ g < wr.heap.size ∧ wr.cell? ⟨g, o + q * 4, none⟩ = some (.int .i64 x.k) ∧ wr.cell? ⟨g, o + q * 4 + 1, none⟩ = some (.int .i64 x.n) ∧ wr.cell? ⟨g, o + q * 4 + 2, none⟩ = some (.string ⟨x.t.toArray⟩) ∧ wr.cell? ⟨g, o + q * 4 + 3, none⟩ = some (.slice ax x.l.length cx) ∧
        Calls Try.prog 94 #[.agg #[.int .i64 x.k, .int .i64 x.n, .string ⟨x.t.toArray⟩, .slice ax x.l.length cx], .pointer (some ⟨g0, 0, none⟩)] wr fun r w' => r = .returned (.bool (!p x)) ∧ Below wr.heap.size wr w' := by
    intro q wr hq hB
    have hx : l[q]? = some l[q] := List.getElem?_eq_getElem hq
    obtain ⟨g, o, ax, cx, e, _, hg1, c0, c1, c2, c3, hw⟩ := (hl.below hB).get hx
    have hs := hB.size
    exact ⟨l[q], g, o, ax, cx, hx, e, hg1, c0, c1, c2, c3, closure_any hok hw (by rw [(bcell hB).1 _ _ hgl]; exact hg) (by omega)⟩
  clear hok hl hg
  go_enter Try.func106, Try.ntmps106
  go_wp2_with fail
  go_loopg [8] l.length (fun g i wr => ∃ q : Nat, q ≤ l.length ∧ g = l.length - q ∧ i = .int .i64 q ∧ Hid (∀ j x, j < q → l[j]? = some x → p x = true) ∧ Below w.heap.size w wr)
  case atStart => exact ⟨0, Nat.zero_le _, rfl, rfl, fun j x h => by omega, Below.refl _ _⟩
  case round =>
    obtain ⟨q, hq, rfl, rfl, HA, hB⟩ := hrel
    by_cases hlt : q < l.length
    · obtain ⟨x, g, o, ax, cx, hx, rfl, hg, c0, c1, c2, c3, hcall⟩ := hround q wr hlt hB
      have hltI : (q : Int) < (l.length : Int) := by omega
      have hx' : Hid (l[q]? = some x) := hx
      clear hround hx
      go_wp2_with fail
      refine hcall.mono ?_
      rintro e w3 ⟨rfl, hb3⟩
      clear hcall
      have hB3 : Below w.heap.size w w3 := hB.trans (hb3.mono hB.size)
      rcases hp : p x with _ | _
      · have hfin : Hid (decide (0 ≤ (q : Int)) = l.any fun x => !p x) := by
          show _ = _
          rw [decide_eq_true (by omega)]
          symm
          rw [List.any_eq_true]
          exact ⟨x, List.mem_of_getElem? hx'.out, by simp [hp]⟩
        go_wp2
        go_ret
        exact ⟨⟨q, rfl, hfin⟩, hB3⟩
      · have HA2 : Hid (∀ j x, j < q + 1 → l[j]? = some x → p x = true) := by
          intro j z hj hz
          by_cases e : j = q
          · subst e; rw [hx'.out] at hz; cases hz; exact hp
          · exact HA.out j z (by omega) hz
        go_wp2_with fail
        go_roundg (l.length - (q + 1))
        case measure => omega
        case rel => exact ⟨q + 1, by omega, rfl, by go_num, HA2, hB3⟩
    · have hltI : ¬ (q : Int) < (l.length : Int) := by omega
      have hfin : Hid (decide (0 ≤ (-1 : Int)) = l.any fun x => !p x) := by
        show _ = _
        rw [decide_eq_false (by omega)]
        symm
        rw [List.any_eq_false]
        intro x hx
        obtain ⟨j, hj⟩ := List.mem_iff_getElem?.1 hx
        have := (List.getElem?_eq_some_iff.1 hj).1
        simp [HA.out j x (by omega) hj]
      clear hround HA
      go_wp2
      go_ret
      exact ⟨⟨-1, rfl, hfin⟩, hB⟩
set_option maxRecDepth 100000 in
set_option maxHeartbeats 1000000 in
theorem contains_any {B : Nat → Prop} {y : List UInt8} {p : V → Bool} (hok : HsOk B y p) {l : List V} {ao : Option Addr} {cap : Nat} {w : World} {g0 : Nat} (hl : IsVs B w l (.slice ao l.length cap)) (hg : w.cell? ⟨g0, 0, none⟩ = some (.string ⟨y.toArray⟩)) (hgl : g0 < w.heap.size) :
    Calls Try.prog 93 #[.slice ao l.length cap, .func (Fn.func 94) #[] #[.pointer (some ⟨g0, 0, none⟩)]] w fun r w' => r = .returned (.bool (l.any (fun x => !p x))) ∧ Below w.heap.size w w' := by
  have hC := indexFunc_any hok hl hg hgl
  clear hok hl hg
  go_enter Try.func93, Try.ntmps93
  go_wp2_with fail
  refine hC.mono ?_
  rintro e w3 ⟨⟨i, rfl, hi⟩, hb3⟩
  clear hC
  have Hi : Hid (decide (0 ≤ i) = l.any fun x => !p x) := hi
  clear hi
  go_wp2
  go_ret
  exact ⟨ret_bool Hi.out, hb3⟩
set_option maxRecDepth 100000 in
set_option maxHeartbeats 1000000 in
theorem isListOf_any {B : Nat → Prop} {y : List UInt8} {p : V → Bool} (hok : HsOk B (elT y).1 p) (hy : y.length ≤ 9223372036854775807) {l : List V} {ao : Option Addr} {cap : Nat} {w : World} (hl : IsVs B w l (.slice ao l.length cap)) :
    Calls Try.prog 76 #[.slice ao l.length cap, .string ⟨y.toArray⟩] w fun r w' => r = .returned (.bool (decide (l.length ≤ 64) && l.all p)) ∧ Below w.heap.size w w' := by
  obtain ⟨ao', cap', e, a1, a2⟩ := hl.slice
  simp only [Value.slice.injEq] at e
  obtain ⟨rfl, -, rfl⟩ := e
  by_cases h64 : l.length ≤ 64
  · have h64I : ¬ (64 : Int) < (l.length : Int) := by omega
    have hL := list_any y hy w
    have hC : ∀ w2, Below w.heap.size w w2 → Calls Try.prog 93 #[.slice ao l.length cap, .func (Fn.func 94) #[] #[.pointer (some ⟨w2.heap.size, 0, none⟩)]] (w2.alloc (.cells #[.string ⟨(elT y).1.toArray⟩] 9)) fun r w' => r = .returned (.bool (l.any (fun x => !p x))) ∧ Below w.heap.size w w' := by
      intro w2 hb
      have hba : Below w2.heap.size w2 (w2.alloc (.cells #[.string ⟨(elT y).1.toArray⟩] 9)) := (Below.refl _ _).alloc (Nat.le_refl _) _
      have hbw : Below w.heap.size w (w2.alloc (.cells #[.string ⟨(elT y).1.toArray⟩] 9)) := hb.trans (hba.mono hb.size)
      refine (contains_any hok (hl.below hbw) (g0 := w2.heap.size) ?_ ?_).mono ?_
      · exact cell_of_one (heap_new w2 (.cells #[.string ⟨(elT y).1.toArray⟩] 9))
      · simp
      · rintro e w3 ⟨rfl, h3⟩
        exact ⟨rfl, hbw.trans (h3.mono hbw.size)⟩
    have hfin : Hid ((decide (l.length ≤ 64) && l.all p) = !(l.any (fun x => !p x))) := by
      show _ = _
      rw [decide_eq_true h64, Bool.true_and, Bool.eq_iff_iff]
      simp
    clear hok hl
    generalize (elT y).1 = z at *
    generalize (elT y).2 = zb at *
    generalize l.any (fun x => !p x) = r at *
    go_enter Try.func76, Try.ntmps76
    go_wp2_with fail
    refine hL.mono ?_
    rintro e w2 ⟨rfl, hb2⟩
    go_wp2_with fail
    refine (hC w2 hb2).mono ?_
    rintro e w3 ⟨rfl, hb3⟩
    clear hC hL
    go_wp2
    go_ret
    exact ⟨ret_bool hfin.out.symm, hb3⟩
  · have h64I : (64 : Int) < (l.length : Int) := by omega
    clear hok hl
    go_enter Try.func76, Try.ntmps76
    go_wp2
    go_ret
    exact ⟨ret_bool (by rw [decide_eq_false h64]; rfl), Below.refl _ _⟩
end Go.Proofs.Ytkbplffckkjbfaa
