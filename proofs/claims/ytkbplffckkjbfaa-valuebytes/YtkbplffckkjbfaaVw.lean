/- Weights: the program's and the document's. -/
import Derived.Test.YtkbplffckkjbfaaVr
import Derived.Deep.LoopGhost
namespace Go.Proofs.Ytkbplffckkjbfaa
open Go.RowKit
set_option linter.unusedVariables false
set_option linter.unusedSimpArgs false

set_option maxRecDepth 100000 in
set_option maxHeartbeats 1000000 in
theorem weight_any : ∀ (N : Nat) (v : V) (sl : Value) (B : Nat → Prop) (w : World), wt v < N → wt v ≤ 4611686018427387904 → IsW B w v sl →
    Calls Try.prog 26 #[.agg #[.int .i64 v.k, .int .i64 v.n, .string ⟨v.t.toArray⟩, sl]] w fun r w' => r = .returned (.int .i64 (wt v)) ∧ Below w.heap.size w w' := by
  intro N
  induction N with
  | zero => intro v sl B w h; omega
  | succ N ih =>
    intro v sl B w hN hbig hv
    obtain ⟨ao, cap, rfl, hc1, hc2⟩ := hv.vs.slice
    have hwt := wt_eq v
    have hlen := wts_len v.l
    obtain ⟨w0, hW, hb0, hsz, d0, d1, d2, d3⟩ := boxed w v (.slice ao v.l.length cap)
    have hround : ∀ (q : Nat) (wr : World), q < v.l.length → Below (w.heap.size + 1) w0 wr →
        ∃ x g o ax cx, v.l[q]? = some x ∧ ao = some ⟨g, o, none⟩ ∧ g < wr.heap.size ∧ wr.cell? ⟨g, o + q * 4, none⟩ = some (.int .i64 x.k) ∧ wr.cell? ⟨g, o + q * 4 + 1, none⟩ = some (.int .i64 x.n) ∧ wr.cell? ⟨g, o + q * 4 + 2, none⟩ = some (.string ⟨x.t.toArray⟩) ∧ wr.cell? ⟨g, o + q * 4 + 3, none⟩ = some (.slice ax x.l.length cx) ∧
          ∀ w2, Below wr.heap.size wr w2 → Calls Try.prog 26 #[.agg #[.int .i64 x.k, .int .i64 x.n, .string ⟨x.t.toArray⟩, .slice ax x.l.length cx]] w2 fun r w' => r = .returned (.int .i64 (wt x)) ∧ Below w2.heap.size w2 w' := by
      intro q wr hq hB
      have hx : v.l[q]? = some v.l[q] := List.getElem?_eq_getElem hq
      have hBw : Below w.heap.size w wr := hb0.trans (hB.mono (by omega))
      obtain ⟨g, o, ax, cx, e, _, hg, c0, c1, c2, c3, hw⟩ := (hv.vs.below hBw).get hx
      refine ⟨v.l[q], g, o, ax, cx, hx, e, hg, c0, c1, c2, c3, fun w2 hb2 => ?_⟩
      have := wts_get hx
      exact ih _ _ B w2 (by omega) (by omega) (hw.below hb2)
    clear ih hv
    go_enter Try.func26, Try.ntmps26
    go_wp2_with fail
    go_loopg [3, 13] v.l.length (fun g nv i wr => ∃ q : Nat, q ≤ v.l.length ∧ g = v.l.length - q ∧ i = .int .i64 q ∧ nv = .int .i64 (1 + v.t.length + wts (v.l.take q) : Nat) ∧ Below (w.heap.size + 1) w0 wr)
    case atStart => exact ⟨0, Nat.zero_le _, rfl, rfl, by simp [wts], by rw [← hsz]; exact Below.refl _ _⟩
    case round =>
      obtain ⟨q, hq, rfl, rfl, rfl, hB⟩ := hrel
      by_cases hlt : q < v.l.length
      · obtain ⟨x, g, o, ax, cx, hx, rfl, hg, c0, c1, c2, c3, hcall⟩ := hround q wr hlt hB
        have hltI : (q : Int) < (v.l.length : Int) := by omega
        have hs := wts_take_succ hx
        have hs2 := wts_take_le v.l (q + 1)
        have HS : Hid (wts (v.l.take (q + 1)) = wts (v.l.take q) + wt x) := hs
        have hsum : (1 + v.t.length + wts (v.l.take q) : Nat) + wt x ≤ 4611686018427387904 := by omega
        clear hs hs2 hround hx
        generalize wts (v.l.take q) = z at *
        go_wp2_with fail
        have hba : Below wr.heap.size wr (wr.alloc (.cells #[.int .i64 x.k, .int .i64 x.n, .string ⟨x.t.toArray⟩, .slice ax x.l.length cx] 24)) := (Below.refl _ _).alloc (Nat.le_refl _) _
        refine (hcall _ hba).mono ?_
        rintro e w3 ⟨rfl, hb3⟩
        clear hcall
        go_wp2_with fail
        go_roundg (v.l.length - (q + 1))
        case measure => omega
        case rel => exact ⟨q + 1, by omega, rfl, by go_num, by rw [HS.out]; go_num, hB.trans ((hba.trans (hb3.mono hba.size)).mono (by have := hB.size; omega))⟩
      · have hltI : ¬ (q : Int) < (v.l.length : Int) := by omega
        have hqe : q = v.l.length := by omega
        clear hround
        subst hqe
        go_wp2
        go_ret
        refine ⟨ret_int ?_, hb0.trans (hB.mono (by omega))⟩
        omega
set_option maxRecDepth 100000 in
set_option maxHeartbeats 1000000 in
theorem rweight_any : ∀ (N : Nat) (v : V) (sl : Value) (B : Nat → Prop) (w : World), wt v < N → wt v ≤ 4611686018427387904 → IsW B w v sl →
    Calls Try.prog 27 #[.agg #[.int .i64 v.k, .int .i64 v.n, .string ⟨v.t.toArray⟩, sl]] w fun r w' => r = .returned (.int .i64 (wt v)) ∧ Below w.heap.size w w' := by
  intro N
  induction N with
  | zero => intro v sl B w h; omega
  | succ N ih =>
    intro v sl B w hN hbig hv
    obtain ⟨ao, cap, rfl, hc1, hc2⟩ := hv.vs.slice
    have hwt := wt_eq v
    have hlen := wts_len v.l
    obtain ⟨w0, hW, hb0, hsz, d0, d1, d2, d3⟩ := boxed w v (.slice ao v.l.length cap)
    have hround : ∀ (q : Nat) (wr : World), q < v.l.length → Below (w.heap.size + 1) w0 wr →
        ∃ x g o ax cx, v.l[q]? = some x ∧ ao = some ⟨g, o, none⟩ ∧ g < wr.heap.size ∧ wr.cell? ⟨g, o + q * 4, none⟩ = some (.int .i64 x.k) ∧ wr.cell? ⟨g, o + q * 4 + 1, none⟩ = some (.int .i64 x.n) ∧ wr.cell? ⟨g, o + q * 4 + 2, none⟩ = some (.string ⟨x.t.toArray⟩) ∧ wr.cell? ⟨g, o + q * 4 + 3, none⟩ = some (.slice ax x.l.length cx) ∧
          ∀ w2, Below wr.heap.size wr w2 → Calls Try.prog 27 #[.agg #[.int .i64 x.k, .int .i64 x.n, .string ⟨x.t.toArray⟩, .slice ax x.l.length cx]] w2 fun r w' => r = .returned (.int .i64 (wt x)) ∧ Below w2.heap.size w2 w' := by
      intro q wr hq hB
      have hx : v.l[q]? = some v.l[q] := List.getElem?_eq_getElem hq
      have hBw : Below w.heap.size w wr := hb0.trans (hB.mono (by omega))
      obtain ⟨g, o, ax, cx, e, _, hg, c0, c1, c2, c3, hw⟩ := (hv.vs.below hBw).get hx
      refine ⟨v.l[q], g, o, ax, cx, hx, e, hg, c0, c1, c2, c3, fun w2 hb2 => ?_⟩
      have := wts_get hx
      exact ih _ _ B w2 (by omega) (by omega) (hw.below hb2)
    clear ih hv
    go_enter Try.func27, Try.ntmps27
    go_wp2_with fail
    go_loopg [3, 13] v.l.length (fun g nv i wr => ∃ q : Nat, q ≤ v.l.length ∧ g = v.l.length - q ∧ i = .int .i64 q ∧ nv = .int .i64 (1 + v.t.length + wts (v.l.take q) : Nat) ∧ Below (w.heap.size + 1) w0 wr)
    case atStart => exact ⟨0, Nat.zero_le _, rfl, rfl, by simp [wts], by rw [← hsz]; exact Below.refl _ _⟩
    case round =>
      obtain ⟨q, hq, rfl, rfl, rfl, hB⟩ := hrel
      by_cases hlt : q < v.l.length
      · obtain ⟨x, g, o, ax, cx, hx, rfl, hg, c0, c1, c2, c3, hcall⟩ := hround q wr hlt hB
        have hltI : (q : Int) < (v.l.length : Int) := by omega
        have hs := wts_take_succ hx
        have hs2 := wts_take_le v.l (q + 1)
        have HS : Hid (wts (v.l.take (q + 1)) = wts (v.l.take q) + wt x) := hs
        have hsum : (1 + v.t.length + wts (v.l.take q) : Nat) + wt x ≤ 4611686018427387904 := by omega
        clear hs hs2 hround hx
        generalize wts (v.l.take q) = z at *
        go_wp2_with fail
        have hba : Below wr.heap.size wr (wr.alloc (.cells #[.int .i64 x.k, .int .i64 x.n, .string ⟨x.t.toArray⟩, .slice ax x.l.length cx] 24)) := (Below.refl _ _).alloc (Nat.le_refl _) _
        refine (hcall _ hba).mono ?_
        rintro e w3 ⟨rfl, hb3⟩
        clear hcall
        go_wp2_with fail
        go_roundg (v.l.length - (q + 1))
        case measure => omega
        case rel => exact ⟨q + 1, by omega, rfl, by go_num, by rw [HS.out]; go_num, hB.trans ((hba.trans (hb3.mono hba.size)).mono (by have := hB.size; omega))⟩
      · have hltI : ¬ (q : Int) < (v.l.length : Int) := by omega
        have hqe : q = v.l.length := by omega
        clear hround
        subst hqe
        go_wp2
        go_ret
        refine ⟨ret_int ?_, hb0.trans (hB.mono (by omega))⟩
        omega
end Go.Proofs.Ytkbplffckkjbfaa
