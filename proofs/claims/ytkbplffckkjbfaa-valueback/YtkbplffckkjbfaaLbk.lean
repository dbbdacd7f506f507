/- The statement on bytes that are read back, where the value is none of the type. -/
import Derived.Test.YtkbplffckkjbfaaDvc
import Derived.Test.YtkbplffckkjbfaaLct
import Derived.Test.YtkbplffckkjbfaaLwa
import Derived.Test.YtkbplffckkjbfaaVc
namespace Go.Proofs.Ytkbplffckkjbfaa
open Go.RowKit
set_option linter.unusedVariables false
set_option linter.unusedSimpArgs false

set_option maxRecDepth 100000 in
set_option maxHeartbeats 2000000 in
theorem back_no {l : List UInt8} (hl : l.length ≤ 9223372036854775807) {v : V} {ao : Option Addr} {cap : Nat} {w : World} (hv : IsW Any w v (.slice ao v.l.length cap)) (hz : SzV v) {ab : Option Addr} {cb : Nat} {bs : List UInt8} (hb : IsB Any w (.slice ab bs.length cb) bs) (hbn : bs.length ≤ 9223372036854775807) (hf : fitS l v = false) :
    Calls Try.prog 7 #[.agg #[.int .i64 v.k, .int .i64 v.n, .string ⟨v.t.toArray⟩, .slice ao v.l.length cap], .string ⟨l.toArray⟩, .slice ab bs.length cb] w fun r w' => r = .returned (.bool true) ∧ Below w.heap.size w w' := by
  obtain ⟨W, hW, hBW, hsW, d0, d1, d2, d3⟩ := boxed w v (.slice ao v.l.length cap)
  replace hv := hv.below hBW
  replace hb := hb.since (Since.of_below hBW)
  have hBf : ∀ w', Below W.heap.size W w' → Below w.heap.size w w' := fun w' h => hBW.trans (h.mono hBW.size)
  have hgb : w.heap.size < W.heap.size := by omega
  have hcell : ∀ w', Below W.heap.size W w' → w'.cell? ⟨w.heap.size, 0, none⟩ = some (.int .i64 v.k) ∧ w'.cell? ⟨w.heap.size, 1, none⟩ = some (.int .i64 v.n) ∧ w'.cell? ⟨w.heap.size, 2, none⟩ = some (.string ⟨v.t.toArray⟩) ∧ w'.cell? ⟨w.heap.size, 3, none⟩ = some (.slice ao v.l.length cap) := fun w' h => by
    obtain ⟨f, -⟩ := bcell h
    exact ⟨by rw [f _ _ hgb]; exact d0, by rw [f _ _ hgb]; exact d1, by rw [f _ _ hgb]; exact d2, by rw [f _ _ hgb]; exact d3⟩
  have up : ∀ w2 w', Below W.heap.size W w2 → Below w2.heap.size w2 w' → Below W.heap.size W w' := fun w2 w' h1 h2 => h1.trans (h2.mono h1.size)
  have hWk := wakes_any W
  have hL : ∀ w2, Below W.heap.size W w2 → Calls Try.prog 10 #[.agg #[.int .i64 v.k, .int .i64 v.n, .string ⟨v.t.toArray⟩, .slice ao v.l.length cap]] w2 fun r w' => r = .returned (.bool (decide (65536 < wt v))) ∧ Below W.heap.size W w' := fun w2 hb2 => (large_any hz (hv.below hb2)).mono (fun r w' h => ⟨h.1, up _ _ hb2 h.2⟩)
  go_enter Try.func7, Try.ntmps7
  go_wp2_with fail
  refine hWk.mono ?_
  rintro e w3 ⟨rfl, hbX⟩
  obtain ⟨p0, p1, p2, p3⟩ := hcell w3 hbX
  clear hW hWk
  go_wp2_with fail
  refine (hL w3 hbX).mono ?_
  rintro e w4 ⟨rfl, hB4⟩
  clear hL hbX p0 p1 p2 p3 d0 d1 d2 d3
  by_cases hla : 65536 < wt v
  · rw [decide_eq_true hla]
    go_wp2
    go_ret
    exact ⟨rfl, hBf _ hB4⟩
  rw [decide_eq_false hla]
  by_cases hbl : 16384 < bs.length
  · have hblI : (16384 : Int) < (bs.length : Int) := by omega
    go_wp2
    go_ret
    exact ⟨rfl, hBf _ hB4⟩
  have hblI : ¬ (16384 : Int) < (bs.length : Int) := by omega
  have hEn := fun w2 (hb2 : Below W.heap.size W w2) => encode_any hl (hv.below hb2) (by omega)
  have hDb : ∀ w2, Below W.heap.size W w2 → Calls Try.prog 42 #[.slice ab bs.length cb, .string ⟨l.toArray⟩] w2 fun r w' => OutV w2 (dcV l bs) r w' := fun w2 hb2 => decode_any hl (hb.since (Since.of_below hb2)) (by omega)
  have hstr : ∀ w2, Below W.heap.size W w2 → (convert 52 9 (.slice ab bs.length cb)).run Try.prog w2 = .ok (.string ⟨bs.toArray⟩) w2 := fun w2 hb2 => str_b (hb.since (Since.of_below hb2))
  have hTy := rtype_l l hl
  obtain ⟨p0, p1, p2, p3⟩ := hcell w4 hB4
  have hR : encR l v = ([], 1) := by unfold encR; rw [if_neg (by simp [hf])]
  have hFv : ∀ w2, Below W.heap.size W w2 → Calls Try.prog 22 #[.agg #[.int .i64 v.k, .int .i64 v.n, .string ⟨v.t.toArray⟩, .slice ao v.l.length cap], .string ⟨l.toArray⟩] w2 fun r w' => r = .returned (.bool (fitS l v)) ∧ Below w2.heap.size w2 w' := fun w2 hb2 => fits_any hl (hv.below hb2) (by omega)
  rw [hf] at hFv
  rw [hR] at hEn
  clear hR hf hv hz hb
  go_wp2_with fail
  refine (hEn _ hB4).mono ?_
  rintro e w5 ⟨⟨a5, c5, rfl, -⟩, hb5⟩
  have hB5 := up _ _ hB4 hb5
  clear hEn p0 p1 p2 p3
  obtain ⟨p0, p1, p2, p3⟩ := hcell w5 hB5
  go_wp2_with fail
  refine (hFv _ hB5).mono ?_
  rintro e w6 ⟨rfl, hb6⟩
  have hB6 := up _ _ hB5 hb6
  clear hFv p0 p1 p2 p3
  go_wp2_with fail
  refine (hDb _ hB6).mono ?_
  rintro e w20 ⟨⟨ap, cp, rfl, hp⟩, hb20⟩
  have hB20 := up _ _ hB6 hb20
  have hbk : Hid ((dcV l bs).2 = 0 → fitS l (dcV l bs).1 = true ∧ enc (dcV l bs).1 = bs ∧ OkV (dcV l bs).1) := fun h => dc_back (y := l) (b := bs) (p := (dcV l bs).1) (by rw [← h])
  have her : Hid ((dcV l bs).2 ≠ 0 → (dcV l bs).1 = V.zero ∧ ((dcV l bs).2 = 1 ↔ gType l = false)) := fun h => ⟨(dc_err h).1, (dc_err h).2.1⟩
  obtain ⟨d, Hd⟩ : ∃ d, Hid (dcV l bs = d) := ⟨_, rfl⟩
  rw [Hd.out] at hbk her hp
  simp only [Hd.out]
  clear hDb Hd
  obtain ⟨wy, w21, hWy, hW21, hb21, hs21, hsy, hblk21, ⟨y0, y1, y2, y3⟩, ⟨z0, z1, z2, z3⟩⟩ := rdbox w20 (.int .i64 d.1.k) (.int .i64 d.1.n) (.string ⟨d.1.t.toArray⟩) (.slice ap d.1.l.length cp)
  have hB21 := up _ _ hB20 hb21
  have hp21 := hp.below hb21
  obtain ⟨q0, q1, q2, q3, -⟩ := cells_of4 hblk21
  by_cases hd0 : d.2 = 0
  · have hd0b : (d.2 != 0) = false := by simp [hd0]
    obtain ⟨hfd, hed, hod⟩ := hbk.out hd0
    have hwd := fit_wt hfd
    have hE2 := encode_any (w := w21) hl hp21 (by omega)
    have hR2 : encR l d.1 = (bs, 0) := by unfold encR; rw [if_pos hfd, hed]
    rw [hR2] at hE2
    clear hfd hed hod hwd hR2 hbk her hp hp21 hd0
    go_wp2_with fail
    refine hE2.mono ?_
    rintro e w22 ⟨⟨a22, c22, rfl, ho22⟩, hb22⟩
    have hB22 := up _ _ hB21 hb22
    have hs1 := str_b (owns_b ho22)
    have hs2 := hstr w22 hB22
    clear hE2 ho22 hstr q0 q1 q2 q3 y0 y1 y2 y3 z0 z1 z2 z3
    go_wp2
    go_ret
    exact ⟨ret_bool (by simp), hBf _ hB22⟩
  · have hd0b : (d.2 != 0) = true := by simp [hd0]
    obtain ⟨hdz, hd1⟩ := her.out hd0
    have hdk : (d.1.k == 0) = true := by rw [hdz]; rfl
    have hd1b : (d.2 == 1) = !gType l := by
      cases hg : gType l
      · simp [hd1.2 hg]
      · have : d.2 ≠ 1 := fun h => by rw [hd1.1 h] at hg; cases hg
        simp [this]
    clear her hbk hdz hd1 hd0 hp hp21
    go_wp2_with fail
    refine (hTy _).mono ?_
    rintro e w22 ⟨rfl, hw⟩
    obtain rfl := hw.symm
    generalize gType l = gl at *
    clear hTy
    go_wp2
    go_ret
    exact ⟨ret_bool (by simp), hBf _ hB21⟩
end Go.Proofs.Ytkbplffckkjbfaa
