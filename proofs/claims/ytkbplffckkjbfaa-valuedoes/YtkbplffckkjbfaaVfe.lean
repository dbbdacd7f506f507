/- Where a map's key stands: the program's find and place. -/
import Derived.Test.YtkbplffckkjbfaaVfd
import Derived.Deep.QuietTactic
namespace Go.Proofs.Ytkbplffckkjbfaa
open Go.RowKit
set_option linter.unusedVariables false
set_option linter.unusedSimpArgs false

set_option maxRecDepth 100000 in
set_option maxHeartbeats 1000000 in
theorem prs_any {B : Nat → Prop} {v : V} {ao : Option Addr} {cap : Nat} {w : World} (hv : IsW B w v (.slice ao v.l.length cap)) : Calls Try.prog 56 #[.agg #[.int .i64 v.k, .int .i64 v.n, .string ⟨v.t.toArray⟩, .slice ao v.l.length cap]] w fun r w' => r = .returned (.int .i64 ((v.l.length / 2 : Nat) : Int)) ∧ Below w.heap.size w w' := by
  obtain ⟨ao', cap', e, c1, c2⟩ := hv.vs.slice
  simp only [Value.slice.injEq] at e
  obtain ⟨rfl, -, rfl⟩ := e
  obtain ⟨w0, hW, hb0, hsz, d0, d1, d2, d3⟩ := boxed w v (.slice ao v.l.length cap)
  clear hv
  go_enter Try.func56, Try.ntmps56
  go_wp2
  go_ret
  exact ⟨ret_int (by omega), hb0⟩
theorem find_math {k : V} {l : List V} (he : l.length % 2 = 0) (hr : Rise l) {i : Nat} (hi : i ≤ l.length / 2) (h1 : 0 < i → 0 < cmpV k (l.getD (2 * (i - 1)) V.zero)) (h2 : i < l.length / 2 → cmpV k (l.getD (2 * i) V.zero) ≤ 0) :
    i = kat k l ∧ (decide (i < l.length / 2) && decide (cmpV k (l.getD (2 * i) V.zero) = 0)) = hit k l := by
  have hk : kat k l = i := by
    refine kat_uniq hr (by omega) (fun a h0 ha => ?_) (fun a h0 ha => ?_) he
    · have := h1 h0
      rw [List.getD_eq_getElem?_getD, ha] at this
      have h3 := cmpV_neg a k
      simp at this; omega
    · have := h2 (by omega)
      rw [List.getD_eq_getElem?_getD, ha] at this
      have h3 := cmpV_neg a k
      simp at this; omega
  refine ⟨hk.symm, ?_⟩
  unfold hit
  rw [hk]
  by_cases h : i < l.length / 2
  · have hlt : 2 * i < l.length := by omega
    rw [List.getD_eq_getElem?_getD, List.getElem?_eq_getElem hlt]
    simp [h]
  · rw [List.getElem?_eq_none (by omega)]
    simp [h]
set_option maxRecDepth 100000 in
set_option maxHeartbeats 1000000 in
theorem find_any {B : Nat → Prop} {v k : V} {ao ak : Option Addr} {cap ck : Nat} {w : World} (hv : IsW B w v (.slice ao v.l.length cap)) (hk : IsW B w k (.slice ak k.l.length ck)) (hn : v.l.length ≤ 1000000) (he : v.l.length % 2 = 0) (hr : Rise v.l) :
    Calls Try.prog 61 #[.agg #[.int .i64 v.k, .int .i64 v.n, .string ⟨v.t.toArray⟩, .slice ao v.l.length cap], .agg #[.int .i64 k.k, .int .i64 k.n, .string ⟨k.t.toArray⟩, .slice ak k.l.length ck]] w fun r w' => r = .returned (.tuple #[.int .i64 (2 * kat k v.l : Nat), .bool (hit k v.l)]) ∧ Below w.heap.size w w' := by
  obtain ⟨w0, w1, hW, hW1, hs0, hs1, hB, d0, d1, d2, d3, e0, e1, e2, e3⟩ := boxed2 w v (.slice ao v.l.length cap) k (.slice ak k.l.length ck)
  have hP := prs_any (hv.below hB)
  have hF : ∀ w2, Below w1.heap.size w1 w2 → Calls Try.prog 80 #[.int .i64 (v.l.length / 2 : Nat), .func (Fn.func 81) #[] #[.pointer (some ⟨w.heap.size + 1, 0, none⟩), .pointer (some ⟨w.heap.size, 0, none⟩)]] w2 fun r w' => r = .returned (.tuple #[.int .i64 (kat k v.l), .bool (hit k v.l)]) ∧ Below w2.heap.size w2 w' := by
    intro w2 hb2
    have hs2 := hb2.size
    refine (sfind_any (f := fun i => cmpV k (v.l.getD (2 * i) V.zero)) (fun i wr hi hbr => ?_) (by omega)).mono ?_
    · have hb : Below w1.heap.size w1 wr := hb2.trans (hbr.mono hs2)
      have hbw : Below w.heap.size w wr := hB.trans (hb.mono hB.size)
      have hsr := hb.size
      have hlt : 2 * i < v.l.length := by omega
      obtain ⟨f1, -⟩ := bcell hb
      exact fcl_any (hk.below hbw) (hv.vs.below hbw) (by rw [List.getD_eq_getElem?_getD, List.getElem?_eq_getElem hlt]; rfl) hn ((f1 _ _ (by omega)).trans e0) ((f1 _ _ (by omega)).trans e1) ((f1 _ _ (by omega)).trans e2) ((f1 _ _ (by omega)).trans e3) ((f1 _ _ (by omega)).trans d3) (by omega) (by omega)
    · rintro e w' ⟨⟨i, hi, h1, h2, rfl⟩, hb'⟩
      obtain ⟨rfl, h4⟩ := find_math he hr hi h1 h2
      exact ⟨by rw [h4], hb'⟩
  have hle := kat_le k v.l
  clear hv hk
  generalize kat k v.l = q at *
  generalize hit k v.l = t at *
  generalize hL : v.l.length / 2 = m at *
  go_enter Try.func61, Try.ntmps61
  go_wp2_with fail
  refine hP.mono ?_
  rintro e w2 ⟨rfl, hb2⟩
  clear hP
  have hF2 := hF w2 hb2
  clear hF
  go_wp2_with fail
  refine hF2.mono ?_
  rintro e w3 ⟨rfl, hb3⟩
  have hB3 : Below w.heap.size w w3 := hB.trans ((hb2.trans (hb3.mono hb2.size)).mono hB.size)
  clear hF2
  go_wp2
  go_ret2
  exact ⟨by congr 3, hB3⟩
end Go.Proofs.Ytkbplffckkjbfaa
