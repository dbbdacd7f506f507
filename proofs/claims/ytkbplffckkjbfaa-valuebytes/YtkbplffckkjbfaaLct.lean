/- How much a value is: the statements' own count. -/
import Derived.Test.YtkbplffckkjbfaaVr
import Derived.Test.YtkbplffckkjbfaaVg
import Derived.Deep.LoopGhost
namespace Go.Proofs.Ytkbplffckkjbfaa
open Go.RowKit
set_option linter.unusedVariables false
set_option linter.unusedSimpArgs false

mutual
/-- Texts are no longer than a machine holds. -/
def SzV : V → Prop
  | .mk _ _ t l => t.length ≤ 281474976710656 ∧ SzVs l
def SzVs : List V → Prop
  | [] => True
  | v :: r => SzV v ∧ SzVs r
end
theorem SzVs.mem : ∀ {l : List V} {x : V}, SzVs l → x ∈ l → SzV x
  | a :: r, x, h, hx => by
    rw [SzVs] at h
    rcases List.mem_cons.1 hx with rfl | hx
    · exact h.1
    · exact SzVs.mem h.2 hx
theorem szV_eq (v : V) : SzV v ↔ v.t.length ≤ 281474976710656 ∧ SzVs v.l := by cases v; rw [SzV]; rfl
/-- The frame: all but the counter's block, and new memory. -/
structure But (g : Nat) (w w' : World) : Prop where
  os : w'.os = w.os
  tape : w'.tape = w.tape
  output : w'.output = w.output
  size : w.heap.size ≤ w'.heap.size
  block : ∀ k, k < w.heap.size → k ≠ g → w'.heap[k]? = w.heap[k]?
theorem But.refl (g : Nat) (w : World) : But g w w := ⟨rfl, rfl, rfl, Nat.le_refl _, fun _ _ _ => rfl⟩
theorem But.trans {g : Nat} {a b c : World} (h : But g a b) (k : But g b c) : But g a c := ⟨k.os.trans h.os, k.tape.trans h.tape, k.output.trans h.output, Nat.le_trans h.size k.size, fun i hi hg => (k.block i (by have := h.size; omega) hg).trans (h.block i hi hg)⟩
theorem But.of {g : Nat} {w w' : World} (h : Below w.heap.size w w') : But g w w' := ⟨h.os, h.tape, h.output, h.size, fun k hk _ => h.block k hk⟩
theorem But.set {w : World} {g o : Nat} (v : Value) : But g w (w.setCell ⟨g, o, none⟩ v) := ⟨rfl, rfl, rfl, by simp [World.setCell], fun k _ hk => Below.heap_setCell _ _ _ _ hk⟩
theorem But.drew {g : Nat} {a w : World} (h : But g a w) : But g a w.drew := ⟨h.os, h.tape, h.output, h.size, h.block⟩
theorem But.since {g : Nat} {w w' : World} (h : But g w w') : Since (fun k => k ≠ g) w w' := ⟨h.size, fun k h1 h2 => h.block k h2 h1⟩
/-- What counting does. -/
def CntPost (g m : Nat) (w : World) (v : V) (r : Ending) (w' : World) : Prop :=
  (if m + wt v ≤ 65536 then r = .returned (.bool false) ∧ w'.heap[g]? = some (.cells #[.int .i64 ((m + wt v : Nat) : Int)] 3 (0, 0)) else r = .returned (.bool true)) ∧ But g w w'
set_option maxRecDepth 100000 in
set_option maxHeartbeats 2000000 in
theorem count_any : ∀ (N : Nat) (v : V) (ao : Option Addr) (cap : Nat) (g m : Nat) (w : World), wt v < N → SzV v → m ≤ 65536 → IsW (fun k => k ≠ g) w v (.slice ao v.l.length cap) → w.heap[g]? = some (.cells #[.int .i64 (m : Int)] 3 (0, 0)) →
    Calls Try.prog 46 #[.agg #[.int .i64 v.k, .int .i64 v.n, .string ⟨v.t.toArray⟩, .slice ao v.l.length cap], .pointer (some ⟨g, 0, none⟩)] w fun r w' => CntPost g m w v r w' := by
  intro N
  induction N with
  | zero => intro v ao cap g m w h; omega
  | succ N ih =>
    intro v ao cap g m w hN hsv hm hv hg
    obtain ⟨ao', cap', e, c1, c2⟩ := hv.vs.slice
    simp only [Value.slice.injEq] at e
    obtain ⟨rfl, -, rfl⟩ := e
    have hwt := wt_eq v
    obtain ⟨hst, hsl⟩ := (szV_eq v).1 hsv
    obtain ⟨w0, hW, hb0, hsz, d0, d1, d2, d3⟩ := boxed w v (.slice ao v.l.length cap)
    have hgl : g < w.heap.size := (Array.getElem?_eq_some_iff.1 hg).1
    have hg0 : w0.heap[g]? = some (.cells #[.int .i64 (m : Int)] 3 (0, 0)) := (hb0.block g hgl).trans hg
    have k0 := cell_of_one hg0
    have f0 : w0.frozen? ⟨g, 0, none⟩ = false := by simp [World.frozen?, hg0]
    have IH : Hid (∀ (v : V) (ao : Option Addr) (cap : Nat) (g m : Nat) (w : World), wt v < N → SzV v → m ≤ 65536 → IsW (fun k => k ≠ g) w v (.slice ao v.l.length cap) → w.heap[g]? = some (.cells #[.int .i64 (m : Int)] 3 (0, 0)) →
      Calls Try.prog 46 #[.agg #[.int .i64 v.k, .int .i64 v.n, .string ⟨v.t.toArray⟩, .slice ao v.l.length cap], .pointer (some ⟨g, 0, none⟩)] w fun r w' => CntPost g m w v r w') := ih
    clear ih
    go_enter Try.func46, Try.ntmps46
    go_wp2_with fail
    go_region
    obtain ⟨w1, hW1⟩ : ∃ w1, (w0.setCell ⟨g, 0, none⟩ (.int .i64 ((m : Int) + (1 + (v.t.length : Int))))).drew = w1 := ⟨_, rfl⟩
    rw [hW1]
    have hB1 : But g w w1 := by
      rw [← hW1]; exact ((But.of hb0).trans (But.set _)).drew
    have hg1 : w1.heap[g]? = some (.cells #[.int .i64 ((m + 1 + v.t.length : Nat) : Int)] 3 (0, 0)) := by
      rw [← hW1]
      have := setCell_block hg0 0 (.int .i64 ((m : Int) + (1 + (v.t.length : Int))))
      have e : ((m + 1 + v.t.length : Nat) : Int) = (m : Int) + (1 + (v.t.length : Int)) := by omega
      rw [e]; exact this
    have e3 : w1.cell? ⟨w.heap.size, 3, none⟩ = some (.slice ao v.l.length cap) := by
      rw [← hW1]
      show (w0.setCell ⟨g, 0, none⟩ _).cell? ⟨w.heap.size, 3, none⟩ = _
      rw [World.cell?_of_block (w := w0) (Below.heap_setCell _ _ _ _ (by show w.heap.size ≠ g; omega))]
      exact d3
    have k1 := cell_of_one hg1
    have hgl1 : g < w1.heap.size := (Array.getElem?_eq_some_iff.1 hg1).1
    clear hW1 hW d0 d1 d2 d3 k0 f0 hg0
    simp only [Exit.then]
    refine ‹∀ (a : Act) (w : World), _ → _› _ _ ?_
    by_cases hbig : 65536 < m + 1 + v.t.length
    · have hbigI : (65536 : Int) < ((m + 1 + v.t.length : Nat) : Int) := by omega
      have hfin : CntPost g m w v (.returned (.bool true)) w1 := ⟨by rw [if_neg (by omega)], hB1⟩
      clear hg1 hg hv hsl
      generalize ((m + 1 + v.t.length : Nat) : Int) = z at *
      go_wp2
      go_ret
      exact hfin
    · have hbigI : ¬ (65536 : Int) < ((m + 1 + v.t.length : Nat) : Int) := by omega
      have hround : ∀ (q mq : Nat) (wr : World), q < v.l.length → But g w wr → mq ≤ 65536 → wr.heap[g]? = some (.cells #[.int .i64 (mq : Int)] 3 (0, 0)) →
          ∃ x gx o ax cx, v.l[q]? = some x ∧ ao = some ⟨gx, o, none⟩ ∧ gx < wr.heap.size ∧ wr.cell? ⟨gx, o + q * 4, none⟩ = some (.int .i64 x.k) ∧ wr.cell? ⟨gx, o + q * 4 + 1, none⟩ = some (.int .i64 x.n) ∧ wr.cell? ⟨gx, o + q * 4 + 2, none⟩ = some (.string ⟨x.t.toArray⟩) ∧ wr.cell? ⟨gx, o + q * 4 + 3, none⟩ = some (.slice ax x.l.length cx) ∧
            ∀ w2, Below wr.heap.size wr w2 → Calls Try.prog 46 #[.agg #[.int .i64 x.k, .int .i64 x.n, .string ⟨x.t.toArray⟩, .slice ax x.l.length cx], .pointer (some ⟨g, 0, none⟩)] w2 fun r w' => CntPost g mq w2 x r w' := by
        intro q mq wr hq hB hmq hgr
        have hx : v.l[q]? = some v.l[q] := List.getElem?_eq_getElem hq
        obtain ⟨gx, o, ax, cx, e, _, hgx, c0, c1, c2, c3, hw⟩ := (hv.vs.since hB.since).get hx
        refine ⟨v.l[q], gx, o, ax, cx, hx, e, hgx, c0, c1, c2, c3, fun w2 hb2 => ?_⟩
        have := wts_get hx
        exact IH.out _ _ _ g mq w2 (by omega) (hsl.mem (List.getElem_mem hq)) hmq (hw.below hb2) ((hb2.block g (Array.getElem?_eq_some_iff.1 hgr).1).trans hgr)
      clear IH hv hsl hg
      go_wp2_with fail
      go_loopg [23] v.l.length (fun gh i wr => ∃ q : Nat, q ≤ v.l.length ∧ gh = v.l.length - q ∧ i = .int .i64 q ∧ m + 1 + v.t.length + wts (v.l.take q) ≤ 65536 ∧ Hid (wr.heap[g]? = some (.cells #[.int .i64 ((m + 1 + v.t.length + wts (v.l.take q) : Nat) : Int)] 3 (0, 0))) ∧ But g w wr)
      case atStart => exact ⟨0, by omega, rfl, rfl, by simp [wts]; omega, by show w1.heap[g]? = _; simpa [wts] using hg1, hB1⟩
      case round =>
        clear hg1 hB1 k1 hgl1 e3
        obtain ⟨q, hq, rfl, rfl, hmq, HG, hB⟩ := hrel
        by_cases hlt : q < v.l.length
        · obtain ⟨x, gx, o, ax, cx, hx, rfl, hgx, c0, c1, c2, c3, hcall⟩ := hround q _ wr hlt hB hmq HG.out
          have hltI : (q : Int) < (v.l.length : Int) := by omega
          have hs := wts_take_succ hx
          have hs2 := wts_take_le v.l (q + 1)
          have hba : Below wr.heap.size wr (wr.alloc (.cells #[.int .i64 x.k, .int .i64 x.n, .string ⟨x.t.toArray⟩, .slice ax x.l.length cx] 24)) := (Below.refl _ _).alloc (Nat.le_refl _) _
          replace hcall := hcall _ hba
          clear hround hx HG
          by_cases hfit : m + 1 + v.t.length + wts (v.l.take q) + wt x ≤ 65536
          · go_wp2_with fail
            refine hcall.mono ?_
            rintro e w3 ⟨h3, hb3⟩
            rw [if_pos hfit] at h3
            obtain ⟨rfl, hg3⟩ := h3
            have HG3 : Hid (w3.heap[g]? = some (.cells #[.int .i64 ((m + 1 + v.t.length + wts (v.l.take (q + 1)) : Nat) : Int)] 3 (0, 0))) := by
              show _ = _
              rw [hs, ← Nat.add_assoc]; exact hg3
            have hB3 : But g w w3 := hB.trans ((But.of hba).trans hb3)
            have hle3 : m + 1 + v.t.length + wts (v.l.take (q + 1)) ≤ 65536 := by omega
            clear hcall hg3 hs hs2 hfit
            go_wp2_with fail
            go_roundg (v.l.length - (q + 1))
            case measure => omega
            case rel => exact ⟨q + 1, by omega, rfl, by go_num, hle3, HG3, hB3⟩
          · go_wp2_with fail
            refine hcall.mono ?_
            rintro e w3 ⟨h3, hb3⟩
            rw [if_neg hfit] at h3
            subst h3
            have hB3 : But g w w3 := hB.trans ((But.of hba).trans hb3)
            have hfin : CntPost g m w v (.returned (.bool true)) w3 := ⟨by rw [if_neg (by omega)], hB3⟩
            clear hcall hs hs2 hfit
            go_wp2
            go_ret
            exact hfin
        · have hltI : ¬ (q : Int) < (v.l.length : Int) := by omega
          have hqe : q = v.l.length := by omega
          have hfin : CntPost g m w v (.returned (.bool false)) wr := by
            have h1 := HG.out
            rw [hqe, List.take_length] at h1 hmq
            have e : m + 1 + v.t.length + wts v.l = m + wt v := by omega
            rw [e] at h1 hmq
            exact ⟨by rw [if_pos hmq]; exact ⟨rfl, h1⟩, hB⟩
          clear hround HG hqe
          go_wp2
          go_ret
          exact hfin
set_option maxRecDepth 100000 in
set_option maxHeartbeats 1000000 in
theorem large_any {B : Nat → Prop} {v : V} {ao : Option Addr} {cap : Nat} {w : World} (hsv : SzV v) (hv : IsW B w v (.slice ao v.l.length cap)) :
    Calls Try.prog 10 #[.agg #[.int .i64 v.k, .int .i64 v.n, .string ⟨v.t.toArray⟩, .slice ao v.l.length cap]] w fun r w' => r = .returned (.bool (decide (65536 < wt v))) ∧ Below w.heap.size w w' := by
  obtain ⟨w0, hW, hb0, hsz, d0, d1, d2, d3⟩ := boxed w v (.slice ao v.l.length cap)
  obtain ⟨w1, hW1⟩ : ∃ w1, w0.alloc (.cells #[.int .i64 0] 3) = w1 := ⟨_, rfl⟩
  have hb1 : Below w0.heap.size w0 w1 := by rw [← hW1]; exact (Below.refl _ _).alloc (Nat.le_refl _) _
  have hg1 : w1.heap[w.heap.size + 1]? = some (.cells #[.int .i64 0] 3 (0, 0)) := by rw [← hW1, ← hsz]; exact heap_new _ _
  have hB1 : Below w.heap.size w w1 := hb0.trans (hb1.mono (by omega))
  have hs1 : w1.heap.size = w.heap.size + 2 := by rw [← hW1]; simp [hsz]
  obtain ⟨f1, -⟩ := bcell hb1
  rw [← f1 w.heap.size _ (by omega)] at d0 d1 d2 d3
  have hC := count_any _ v ao cap (w.heap.size + 1) 0 w1 (Nat.lt_succ_self _) hsv (by omega) (((hv.base (B' := fun k => k < w.heap.size) (fun k _ h => h)).below hB1).base (B' := fun k => k ≠ w.heap.size + 1) (fun k h _ => by omega)) hg1
  · clear f1 hv
    subst hW1
    go_enter Try.func10, Try.ntmps10
    go_wp2_with fail
    refine hC.mono ?_
    rintro e w3 ⟨h3, hb3⟩
    have hB3 : Below w.heap.size w w3 := ⟨hb3.os.trans hB1.os, hb3.tape.trans hB1.tape, hb3.output.trans hB1.output, Nat.le_trans hB1.size hb3.size, fun k hk => (hb3.block k (by omega) (by omega)).trans (hB1.block k hk)⟩
    rw [Nat.zero_add] at h3
    by_cases hle : wt v ≤ 65536
    · rw [if_pos hle] at h3
      obtain ⟨rfl, -⟩ := h3
      go_wp2
      go_ret
      exact ⟨ret_bool (by rw [decide_eq_false (by omega)]), hB3⟩
    · rw [if_neg hle] at h3
      subst h3
      go_wp2
      go_ret
      exact ⟨ret_bool (by rw [decide_eq_true (by omega)]), hB3⟩
end Go.Proofs.Ytkbplffckkjbfaa
