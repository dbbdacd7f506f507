/- The statement on bytes. -/
import Derived.Test.YtkbplffckkjbfaaEda
import Derived.Test.YtkbplffckkjbfaaEca
import Derived.Test.YtkbplffckkjbfaaLct
import Derived.Test.YtkbplffckkjbfaaLwa
import Derived.Test.YtkbplffckkjbfaaVc
namespace Go.Proofs.Ytkbplffckkjbfaa
open Go.RowKit
set_option linter.unusedVariables false
set_option linter.unusedSimpArgs false

set_option maxRecDepth 100000 in
set_option maxHeartbeats 2000000 in
theorem bytes_walk {l : List UInt8} (hl : l.length ≤ 9223372036854775807) {v : V} {ao : Option Addr} {cap : Nat} {w : World} (hv : IsW Any w v (.slice ao v.l.length cap)) (hz : SzV v) {ab : Option Addr} {cb : Nat} {bs : List UInt8} (hb : IsB Any w (.slice ab bs.length cb) bs) (hbn : bs.length ≤ 9223372036854775807) :
    Calls Try.prog 6 #[.agg #[.int .i64 v.k, .int .i64 v.n, .string ⟨v.t.toArray⟩, .slice ao v.l.length cap], .string ⟨l.toArray⟩, .slice ab bs.length cb] w fun r w' => r = .returned (.bool true) ∧ Below w.heap.size w w' := by
  obtain ⟨W, hW, hBW, hsW, d0, d1, d2, d3⟩ := boxed w v (.slice ao v.l.length cap)
  replace hv := hv.below hBW
  replace hb := hb.since (Since.of_below hBW)
  have hBf : ∀ w', Below W.heap.size W w' → Below w.heap.size w w' := fun w' h => hBW.trans (h.mono hBW.size)
  have hgb : w.heap.size < W.heap.size := by omega
  have hcell : ∀ w', Below W.heap.size W w' → w'.cell? ⟨w.heap.size, 0, none⟩ = some (.int .i64 v.k) ∧ w'.cell? ⟨w.heap.size, 1, none⟩ = some (.int .i64 v.n) ∧ w'.cell? ⟨w.heap.size, 2, none⟩ = some (.string ⟨v.t.toArray⟩) ∧ w'.cell? ⟨w.heap.size, 3, none⟩ = some (.slice ao v.l.length cap) := fun w' h => by
    obtain ⟨f, -⟩ := bcell h
    exact ⟨by rw [f _ _ hgb]; exact d0, by rw [f _ _ hgb]; exact d1, by rw [f _ _ hgb]; exact d2, by rw [f _ _ hgb]; exact d3⟩
  have up : ∀ w2 w', Below W.heap.size W w2 → Below w2.heap.size w2 w' → Below W.heap.size W w' := fun w2 w' h1 h2 => h1.trans (h2.mono h1.size)
  have hWk := wakes_any W
  have hL : ∀ w2, Below W.heap.size W w2 → Calls Try.prog 10 #[.agg #[.int .i64 v.k, .int .i64 v.n, .string ⟨v.t.toArray⟩, .slice ao v.l.length cap]] w2 fun r w' => r = .returned (.bool (decide (65536 < wt v))) ∧ Below W.heap.size W w' := fun w2 hb2 => (large_any hz (hv.below hb2)).mono (fun r w' h => ⟨h.1, up _ _ hb2 h.2⟩)
  go_enter Try.func6, Try.ntmps6
  go_wp2_with fail
  refine hWk.mono ?_
  rintro e w3 ⟨rfl, hbX⟩
  obtain ⟨p0, p1, p2, p3⟩ := hcell w3 hbX
  clear hW hWk
  go_wp2_with fail
  refine (hL w3 hbX).mono ?_
  rintro e w4 ⟨rfl, hB4⟩
  clear hL hbX p0 p1 p2 p3 d0 d1 d2 d3
  by_cases hla : 65536 < wt v
  · rw [decide_eq_true hla]
    go_wp2
    go_ret
    exact ⟨rfl, hBf _ hB4⟩
  rw [decide_eq_false hla]
  by_cases hbl : 65536 < bs.length
  · have hblI : (65536 : Int) < (bs.length : Int) := by omega
    go_wp2
    go_ret
    exact ⟨rfl, hBf _ hB4⟩
  have hblI : ¬ (65536 : Int) < (bs.length : Int) := by omega
  have hEn := fun w2 (hb2 : Below W.heap.size W w2) => encode_any hl (hv.below hb2) (by omega)
  have hEr := fun w2 (hb2 : Below W.heap.size W w2) => rencode_any hl (hv.below hb2) (by omega)
  have hDb : ∀ w2, Below W.heap.size W w2 → Calls Try.prog 42 #[.slice ab bs.length cb, .string ⟨l.toArray⟩] w2 fun r w' => OutV w2 (dcV l bs) r w' := fun w2 hb2 => decode_any hl (hb.since (Since.of_below hb2)) (by omega)
  have hDr : ∀ w2, Below W.heap.size W w2 → Calls Try.prog 43 #[.slice ab bs.length cb, .string ⟨l.toArray⟩] w2 fun r w' => OutV w2 (dcV l bs) r w' := fun w2 hb2 => rdecode_any hl (hb.since (Since.of_below hb2)) (by omega)
  obtain ⟨p0, p1, p2, p3⟩ := hcell w4 hB4
  obtain ⟨R, HR⟩ : ∃ R, Hid (encR l v = R) := ⟨_, rfl⟩
  rw [HR.out] at hEn hEr
  obtain ⟨d, Hd⟩ : ∃ d, Hid (dcV l bs = d) := ⟨_, rfl⟩
  rw [Hd.out] at hDb hDr
  clear HR Hd hv hz hb
  go_wp2_with fail
  refine (hEn _ hB4).mono ?_
  rintro e w5 ⟨⟨a5, c5, rfl, ho5⟩, hb5⟩
  have hB5 := up _ _ hB4 hb5
  clear hEn p0 p1 p2 p3
  obtain ⟨p0, p1, p2, p3⟩ := hcell w5 hB5
  go_wp2_with fail
  refine (hEr _ hB5).mono ?_
  rintro e w6 ⟨⟨a6, c6, rfl, ho6⟩, hb6⟩
  have hB6 := up _ _ hB5 hb6
  clear hEr p0 p1 p2 p3
  have i5 := (owns_b ho5).since (Since.of_below hb6)
  have i6 := owns_b ho6
  clear ho5 ho6
  go_wp2_with fail
  refine (hDb _ hB6).mono ?_
  rintro e w7 ⟨⟨ap, cp, rfl, hp7⟩, hb7⟩
  have hB7 := up _ _ hB6 hb7
  clear hDb
  obtain ⟨wy, w8, hWy, hW8, hb8, hs8, hsy, hblk8, ⟨y0, y1, y2, y3⟩, ⟨z0, z1, z2, z3⟩⟩ := rdbox w7 (.int .i64 d.1.k) (.int .i64 d.1.n) (.string ⟨d.1.t.toArray⟩) (.slice ap d.1.l.length cp)
  have hB8 := up _ _ hB7 hb8
  go_wp2_with fail
  refine (hDr _ hB8).mono ?_
  rintro e w9 ⟨⟨aq, cq, rfl, hq9⟩, hb9⟩
  have hB9 := up _ _ hB8 hb9
  clear hDr y0 y1 y2 y3 z0 z1 z2 z3 hWy hW8
  obtain ⟨wx, w10, hWx, hW10, hb10, hs10, hsx, hblk10, ⟨y0, y1, y2, y3⟩, ⟨z0, z1, z2, z3⟩⟩ := rdbox w9 (.int .i64 d.1.k) (.int .i64 d.1.n) (.string ⟨d.1.t.toArray⟩) (.slice aq d.1.l.length cq)
  have hB10 := up _ _ hB9 hb10
  have hs9 := hb9.size
  have hblk8' : w10.heap[w7.heap.size]? = some (.cells #[.int .i64 d.1.k, .int .i64 d.1.n, .string ⟨d.1.t.toArray⟩, .slice ap d.1.l.length cp] 24 (0, 0)) := (hb10.block _ (by omega)).trans ((hb9.block _ (by omega)).trans hblk8)
  obtain ⟨q0, q1, q2, q3, -⟩ := cells_of4 hblk8'
  obtain ⟨r0, r1, r2, r3, -⟩ := cells_of4 hblk10
  have hb67 : Below w6.heap.size w6 w10 := ((((hb7.trans (hb8.mono hb7.size)).trans (hb9.mono (by have := hb7.size; have := hb8.size; omega)))).trans (hb10.mono (by have := hb7.size; have := hb8.size; omega)))
  have s5 := str_b (i5.since (Since.of_below hb67))
  have s6 := str_b (i6.since (Since.of_below hb67))
  have hpA : IsW Any w10 d.1 (.slice ap d.1.l.length cp) := (((hp7.below hb8).below hb9).below hb10).base (fun _ _ _ => trivial)
  have hqA : IsW Any w10 d.1 (.slice aq d.1.l.length cq) := (hq9.below hb10).base (fun _ _ _ => trivial)
  have hSm := rsame_any hpA hqA
  rw [cmpV_self] at hSm
  clear hpA hqA hp7 hq9 i5 i6 hblk8 hblk8' hblk10
  have hx9 : w9.heap.size < w10.heap.size := by omega
  have hx7 : w7.heap.size < w10.heap.size := by omega
  go_wp2_with fail
  refine hSm.mono ?_
  rintro e w11 ⟨rfl, hb11⟩
  have hB11 := up _ _ hB10 hb11
  clear hSm
  go_wp2
  go_ret
  exact ⟨ret_bool (by simp), hBf _ hB11⟩
end Go.Proofs.Ytkbplffckkjbfaa
