/- Texts of ours, joined: Oc, Oma. -/
import Derived.Test.YtnijcolomoobnaaGreatDoorK16
import Derived.Test.YtnijcolomoobnaaGreatDoorK02
import Derived.Test.YtnijcolomoobnaaGreatDoorK15
import Derived.Test.YtnijcolomoobnaaGreatDoorK14
namespace Go.Proofs.YtnijcolomoobnaaGreatDoor
open Go.RowKit
set_option linter.unusedVariables false
set_option linter.unusedSimpArgs false
attribute [local go_sem ↓] Go.wp_at_zero Go.wp_at_succ

def joinV (a b : List UInt8) : V × Int := if a.length + b.length ≤ 256 then (tV (a ++ b), 0) else (zV, 53)
set_option maxRecDepth 100000 in
set_option maxHeartbeats 1000000 in
theorem joined_any {a b : List UInt8} (ha : a.length ≤ 281474976710656) (hb : b.length ≤ 281474976710656) (w : World) : Calls Tryz.prog 126 #[.string ⟨a.toArray⟩, .string ⟨b.toArray⟩] w fun r w' => VTwo (joinV a b) w r w' := by
  obtain ⟨w0, hW0, hb0, hl0, hx0⟩ := zbox4 w
  have hwr : IntKind.i64.wrap ((a.length : Int) + (b.length : Int)) = (a.length : Int) + (b.length : Int) := by rw [wrap_wr]; refine wr64_in ?_; unfold InR; omega
  by_cases he : a.length + b.length ≤ 256
  · have hv : joinV a b = (tV (a ++ b), 0) := by unfold joinV; rw [if_pos he]
    rw [hv]
    have hgt : decide ((256 : Int) < (a.length : Int) + (b.length : Int)) = false := by simp; omega
    have hI := text_any (a ++ b) (by simp; omega) w0
    have hap : ByteArray.mk a.toArray ++ ByteArray.mk b.toArray = ByteArray.mk (a ++ b).toArray := by
      apply ByteArray.ext; simp
    generalize hab : a ++ b = ab at *
    clear he hv
    go_enter Tryz.func126, Tryz.ntmps126
    go_wp2_with fail
    refine hI.mono ?_
    rintro r w1 ⟨rfl, hb1⟩
    have hx1 := (hb1.block _ hl0).trans hx0
    obtain ⟨s0, s1, s2, s3, t0, t1, t2, t3⟩ := cells_of4 hx1
    obtain ⟨wN, hWN, hxN, hbN⟩ := resB hx1 (Nat.le_refl _) (hb0.trans (hb1.mono hb0.size)) (.int .i64 3) (.int .i64 0) (.string ⟨ab.toArray⟩) (.slice none 0 0)
    obtain ⟨m0, m1, m2, m3, -⟩ := cells_of4 hxN
    have hlN : w.heap.size < wN.heap.size := (Array.getElem?_eq_some_iff.1 hxN).1
    have hl1 : w.heap.size < w1.heap.size := (Array.getElem?_eq_some_iff.1 hx1).1
    clear hI hx0 hx1 hxN hW0 hb1
    go_wp2_with fail
    exact bodyPost_ret (v := .tuple #[.agg #[.int .i64 3, .int .i64 0, .string ⟨ab.toArray⟩, .slice none 0 0], .int .i64 0]) (by simp [results, Tryz.results126, go_sem, hlN, m0, m1, m2, m3]) rfl ⟨rfl, hbN⟩
  · have hv : joinV a b = (zV, 53) := by unfold joinV; rw [if_neg he]
    rw [hv]
    have hgt : decide ((256 : Int) < (a.length : Int) + (b.length : Int)) = true := by simp; omega
    obtain ⟨s0, s1, s2, s3, t0, t1, t2, t3⟩ := cells_of4 hx0
    obtain ⟨wN, hWN, hxN, hbN⟩ := resB hx0 (Nat.le_refl _) hb0 (.int .i64 0) (.int .i64 0) (.string ⟨#[]⟩) (.slice none 0 0)
    obtain ⟨m0, m1, m2, m3, -⟩ := cells_of4 hxN
    have hlN : w.heap.size < wN.heap.size := (Array.getElem?_eq_some_iff.1 hxN).1
    clear he hv hx0 hxN
    go_enter Tryz.func126, Tryz.ntmps126
    go_wp2_with fail
    exact bodyPost_ret (v := .tuple #[.agg #[.int .i64 0, .int .i64 0, .string ⟨#[]⟩, .slice none 0 0], .int .i64 53]) (by simp [results, Tryz.results126, go_sem, hlN, m0, m1, m2, m3]) rfl ⟨rfl, hbN⟩
/-! Binary. -/
theorem boxR (w : World) (a : V) (sa : Value) (b : V) (sb : Value) : ∃ w0 w1 w2, w.alloc (.cells #[.int .i64 a.k, .int .i64 a.n, .string ⟨a.t.toArray⟩, sa] 31) = w0 ∧ w0.alloc (.cells #[.int .i64 b.k, .int .i64 b.n, .string ⟨b.t.toArray⟩, sb] 31) = w1 ∧ w1.alloc (.cells #[.int .i64 0, .int .i64 0, .string ⟨#[]⟩, .slice none 0 0] 31) = w2 ∧ w0.heap.size = w.heap.size + 1 ∧ w1.heap.size = w.heap.size + 2 ∧ w2.heap.size = w.heap.size + 3 ∧ Below w.heap.size w w2 ∧ w2.heap[w.heap.size + 2]? = some (.cells #[.int .i64 0, .int .i64 0, .string ⟨#[]⟩, .slice none 0 0] 31 (0, 0)) ∧
    w2.cell? ⟨w.heap.size, 0, none⟩ = some (.int .i64 a.k) ∧ w2.cell? ⟨w.heap.size, 1, none⟩ = some (.int .i64 a.n) ∧ w2.cell? ⟨w.heap.size, 2, none⟩ = some (.string ⟨a.t.toArray⟩) ∧ w2.cell? ⟨w.heap.size, 3, none⟩ = some sa ∧
    w2.cell? ⟨w.heap.size + 1, 0, none⟩ = some (.int .i64 b.k) ∧ w2.cell? ⟨w.heap.size + 1, 1, none⟩ = some (.int .i64 b.n) ∧ w2.cell? ⟨w.heap.size + 1, 2, none⟩ = some (.string ⟨b.t.toArray⟩) ∧ w2.cell? ⟨w.heap.size + 1, 3, none⟩ = some sb := by
  obtain ⟨w0, w1, hW, hW1, hs0, hs1, hB, d0, d1, d2, d3, e0, e1, e2, e3⟩ := boxed2 w a sa b sb
  obtain ⟨w2, hW2, hb2, hl2, hx2⟩ := zbox4 w1
  obtain ⟨f1, -⟩ := bcell hb2
  rw [← f1 w.heap.size _ (by omega)] at d0 d1 d2 d3
  rw [← f1 (w.heap.size + 1) _ (by omega)] at e0 e1 e2 e3
  rw [hs1] at hx2
  refine ⟨w0, w1, w2, hW, hW1, hW2, hs0, hs1, ?_, hB.trans (hb2.mono hB.size), hx2, d0, d1, d2, d3, e0, e1, e2, e3⟩
  rw [← hW2]; simp [hs1]
set_option maxRecDepth 100000 in
set_option maxHeartbeats 1000000 in
theorem bin_eq {B : Nat → Prop} {a b : V} {sa sb : Value} {w : World} (ha : IsW B w a sa) (hb : IsW B w b sb) : Calls Tryz.prog 83 #[.int .i64 3, .agg #[.int .i64 a.k, .int .i64 a.n, .string ⟨a.t.toArray⟩, sa], .agg #[.int .i64 b.k, .int .i64 b.n, .string ⟨b.t.toArray⟩, sb]] w fun r w' => VTwo (bV' (decide (cmpV a b = 0)), 0) w r w' := by
  obtain ⟨w0, w1, w2, hW0, hW1, hW2, hs0, hs1, hs2, hB, hx0, d0, d1, d2, d3, g0, g1, g2, g3⟩ := boxR w a sa b sb
  have hC := compare_any (ha.below hB) (hb.below hB)
  generalize cmpV a b = c at *
  have hd : decide (c = 0) = (c == 0) := by by_cases h : c = 0 <;> simp [h]
  rw [hd]
  obtain ⟨q, hq⟩ : ∃ q, (c == 0) = q := ⟨_, rfl⟩
  rw [hq]
  have hQ := fun w => bool_any q w
  obtain ⟨z, hz⟩ : ∃ z, Hid ((if q = true then (1 : Int) else 0) = z) := ⟨_, rfl⟩
  simp only [hz.out] at hQ
  clear hd ha hb
  go_enter Tryz.func83, Tryz.ntmps83
  go_wp2_with fail
  refine hC.mono ?_
  rintro r w3 ⟨rfl, hb3⟩
  clear hC
  go_wp2_with fail
  refine (hQ w3).mono ?_
  rintro r w4 ⟨rfl, hb4⟩
  have hb5 : Below w2.heap.size w2 w4 := hb3.trans (hb4.mono hb3.size)
  have hlq : w.heap.size + 2 < w2.heap.size := by omega
  have hxq := (hb5.block _ hlq).trans hx0
  obtain ⟨s0, s1, s2, s3, t0, t1, t2, t3⟩ := cells_of4 hxq
  obtain ⟨wN, hWN, hxN, hbN⟩ := resB hxq (Nat.le_add_right _ 2) (hB.trans (hb5.mono hB.size)) (.int .i64 2) (.int .i64 z) (.string ⟨#[]⟩) (.slice none 0 0)
  obtain ⟨m0, m1, m2, m3, -⟩ := cells_of4 hxN
  have hlN : w.heap.size + 2 < wN.heap.size := (Array.getElem?_eq_some_iff.1 hxN).1
  have hlw : w.heap.size + 2 < w4.heap.size := (Array.getElem?_eq_some_iff.1 hxq).1
  clear hxN hxq hx0 hQ hb3 hb4 hW0 hW1 hW2 d0 d1 d2 d3 g0 g1 g2 g3
  go_wp2_with fail
  exact bodyPost_ret (v := .tuple #[.agg #[.int .i64 2, .int .i64 z, .string ⟨#[]⟩, .slice none 0 0], .int .i64 0]) (by simp [results, Tryz.results83, go_sem, hlN, m0, m1, m2, m3]) rfl ⟨by rw [← hz.out]; rfl, hbN⟩
set_option maxRecDepth 100000 in
set_option maxHeartbeats 1000000 in
theorem bin_ne {B : Nat → Prop} {a b : V} {sa sb : Value} {w : World} (ha : IsW B w a sa) (hb : IsW B w b sb) : Calls Tryz.prog 83 #[.int .i64 4, .agg #[.int .i64 a.k, .int .i64 a.n, .string ⟨a.t.toArray⟩, sa], .agg #[.int .i64 b.k, .int .i64 b.n, .string ⟨b.t.toArray⟩, sb]] w fun r w' => VTwo (bV' (decide (cmpV a b ≠ 0)), 0) w r w' := by
  obtain ⟨w0, w1, w2, hW0, hW1, hW2, hs0, hs1, hs2, hB, hx0, d0, d1, d2, d3, g0, g1, g2, g3⟩ := boxR w a sa b sb
  have hC := compare_any (ha.below hB) (hb.below hB)
  generalize cmpV a b = c at *
  have hd : decide (c ≠ 0) = (c != 0) := by by_cases h : c = 0 <;> simp [h]
  rw [hd]
  obtain ⟨q, hq⟩ : ∃ q, (c != 0) = q := ⟨_, rfl⟩
  rw [hq]
  have hQ := fun w => bool_any q w
  obtain ⟨z, hz⟩ : ∃ z, Hid ((if q = true then (1 : Int) else 0) = z) := ⟨_, rfl⟩
  simp only [hz.out] at hQ
  clear hd ha hb
  go_enter Tryz.func83, Tryz.ntmps83
  go_wp2_with fail
  refine hC.mono ?_
  rintro r w3 ⟨rfl, hb3⟩
  clear hC
  go_wp2_with fail
  refine (hQ w3).mono ?_
  rintro r w4 ⟨rfl, hb4⟩
  have hb5 : Below w2.heap.size w2 w4 := hb3.trans (hb4.mono hb3.size)
  have hlq : w.heap.size + 2 < w2.heap.size := by omega
  have hxq := (hb5.block _ hlq).trans hx0
  obtain ⟨s0, s1, s2, s3, t0, t1, t2, t3⟩ := cells_of4 hxq
  obtain ⟨wN, hWN, hxN, hbN⟩ := resB hxq (Nat.le_add_right _ 2) (hB.trans (hb5.mono hB.size)) (.int .i64 2) (.int .i64 z) (.string ⟨#[]⟩) (.slice none 0 0)
  obtain ⟨m0, m1, m2, m3, -⟩ := cells_of4 hxN
  have hlN : w.heap.size + 2 < wN.heap.size := (Array.getElem?_eq_some_iff.1 hxN).1
  have hlw : w.heap.size + 2 < w4.heap.size := (Array.getElem?_eq_some_iff.1 hxq).1
  clear hxN hxq hx0 hQ hb3 hb4 hW0 hW1 hW2 d0 d1 d2 d3 g0 g1 g2 g3
  go_wp2_with fail
  exact bodyPost_ret (v := .tuple #[.agg #[.int .i64 2, .int .i64 z, .string ⟨#[]⟩, .slice none 0 0], .int .i64 0]) (by simp [results, Tryz.results83, go_sem, hlN, m0, m1, m2, m3]) rfl ⟨by rw [← hz.out]; rfl, hbN⟩
set_option maxRecDepth 100000 in
set_option maxHeartbeats 1000000 in
theorem bin_bad {op : Int} {a b : V} {sa sb : Value} {w : World} (q3 : (op == 3) = false) (q4 : (op == 4) = false) (hk : (a.k != b.k) = true ∨ ((a.k != b.k) = false ∧ (a.k != 1) = true ∧ (a.k != 3) = true)) : Calls Tryz.prog 83 #[.int .i64 op, .agg #[.int .i64 a.k, .int .i64 a.n, .string ⟨a.t.toArray⟩, sa], .agg #[.int .i64 b.k, .int .i64 b.n, .string ⟨b.t.toArray⟩, sb]] w fun r w' => VTwo (zV, 40) w r w' := by
  obtain ⟨w0, w1, w2, hW0, hW1, hW2, hs0, hs1, hs2, hB, hx0, d0, d1, d2, d3, g0, g1, g2, g3⟩ := boxR w a sa b sb
  have hR := Below.refl w2.heap.size w2
  rcases hk with f0 | ⟨f0, f1, f3⟩
  · go_enter Tryz.func83, Tryz.ntmps83
    have hlq : w.heap.size + 2 < w2.heap.size := by omega
    have hxq := (hR.block _ hlq).trans hx0
    obtain ⟨s0, s1, s2, s3, t0, t1, t2, t3⟩ := cells_of4 hxq
    obtain ⟨wN, hWN, hxN, hbN⟩ := resB hxq (Nat.le_add_right _ 2) (hB.trans (hR.mono hB.size)) (.int .i64 0) (.int .i64 0) (.string ⟨#[]⟩) (.slice none 0 0)
    obtain ⟨m0, m1, m2, m3, -⟩ := cells_of4 hxN
    have hlN : w.heap.size + 2 < wN.heap.size := (Array.getElem?_eq_some_iff.1 hxN).1
    have hlw : w.heap.size + 2 < w2.heap.size := (Array.getElem?_eq_some_iff.1 hxq).1
    clear hxN hxq hx0 
    go_wp2_with fail
    exact bodyPost_ret (v := .tuple #[.agg #[.int .i64 0, .int .i64 0, .string ⟨#[]⟩, .slice none 0 0], .int .i64 40]) (by simp [results, Tryz.results83, go_sem, hlN, m0, m1, m2, m3]) rfl ⟨rfl, hbN⟩
  · go_enter Tryz.func83, Tryz.ntmps83
    have hlq : w.heap.size + 2 < w2.heap.size := by omega
    have hxq := (hR.block _ hlq).trans hx0
    obtain ⟨s0, s1, s2, s3, t0, t1, t2, t3⟩ := cells_of4 hxq
    obtain ⟨wN, hWN, hxN, hbN⟩ := resB hxq (Nat.le_add_right _ 2) (hB.trans (hR.mono hB.size)) (.int .i64 0) (.int .i64 0) (.string ⟨#[]⟩) (.slice none 0 0)
    obtain ⟨m0, m1, m2, m3, -⟩ := cells_of4 hxN
    have hlN : w.heap.size + 2 < wN.heap.size := (Array.getElem?_eq_some_iff.1 hxN).1
    have hlw : w.heap.size + 2 < w2.heap.size := (Array.getElem?_eq_some_iff.1 hxq).1
    clear hxN hxq hx0 
    go_wp2_with fail
    exact bodyPost_ret (v := .tuple #[.agg #[.int .i64 0, .int .i64 0, .string ⟨#[]⟩, .slice none 0 0], .int .i64 40]) (by simp [results, Tryz.results83, go_sem, hlN, m0, m1, m2, m3]) rfl ⟨rfl, hbN⟩
set_option maxRecDepth 100000 in
set_option maxHeartbeats 1000000 in
theorem bin_ord {B : Nat → Prop} {op : Int} {a b : V} {sa sb : Value} {w : World} (ha : IsW B w a sa) (hb : IsW B w b sb) (q3 : (op == 3) = false) (q4 : (op == 4) = false) (f0 : (a.k != b.k) = false) (f1 : (a.k != 1) = false ∨ ((a.k != 1) = true ∧ (a.k != 3) = false)) (h5 : decide (5 ≤ op) = true) (h8 : decide (op ≤ 8) = true) : Calls Tryz.prog 83 #[.int .i64 op, .agg #[.int .i64 a.k, .int .i64 a.n, .string ⟨a.t.toArray⟩, sa], .agg #[.int .i64 b.k, .int .i64 b.n, .string ⟨b.t.toArray⟩, sb]] w fun r w' => VTwo (bV' (ordB op (cmpV a b)), 0) w r w' := by
  obtain ⟨w0, w1, w2, hW0, hW1, hW2, hs0, hs1, hs2, hB, hx0, d0, d1, d2, d3, g0, g1, g2, g3⟩ := boxR w a sa b sb
  have hC := compare_any (ha.below hB) (hb.below hB)
  generalize cmpV a b = c at *
  have hO := fun w => ordered_any op c w
  generalize ordB op c = q at *
  have hQ := fun w => bool_any q w
  obtain ⟨z, hz⟩ : ∃ z, Hid ((if q = true then (1 : Int) else 0) = z) := ⟨_, rfl⟩
  simp only [hz.out] at hQ
  clear ha hb
  rcases f1 with f1 | ⟨f1, f3⟩
  · go_enter Tryz.func83, Tryz.ntmps83
    go_wp2_with fail
    refine hC.mono ?_
    rintro r w3 ⟨rfl, hb3⟩
    clear hC
    go_wp2_with fail
    refine (hO w3).mono ?_
    rintro r w3' ⟨rfl, hw3⟩
    obtain rfl := hw3.symm
    clear hO
    go_wp2_with fail
    refine (hQ w3).mono ?_
    rintro r w4 ⟨rfl, hb4⟩
    have hb5 : Below w2.heap.size w2 w4 := hb3.trans (hb4.mono hb3.size)
    have hlq : w.heap.size + 2 < w2.heap.size := by omega
    have hxq := (hb5.block _ hlq).trans hx0
    obtain ⟨s0, s1, s2, s3, t0, t1, t2, t3⟩ := cells_of4 hxq
    obtain ⟨wN, hWN, hxN, hbN⟩ := resB hxq (Nat.le_add_right _ 2) (hB.trans (hb5.mono hB.size)) (.int .i64 2) (.int .i64 z) (.string ⟨#[]⟩) (.slice none 0 0)
    obtain ⟨m0, m1, m2, m3, -⟩ := cells_of4 hxN
    have hlN : w.heap.size + 2 < wN.heap.size := (Array.getElem?_eq_some_iff.1 hxN).1
    have hlw : w.heap.size + 2 < w4.heap.size := (Array.getElem?_eq_some_iff.1 hxq).1
    clear hxN hxq hx0 hQ hb3 hb4 hW0 hW1 hW2 d0 d1 d2 d3 g0 g1 g2 g3
    go_wp2_with fail
    exact bodyPost_ret (v := .tuple #[.agg #[.int .i64 2, .int .i64 z, .string ⟨#[]⟩, .slice none 0 0], .int .i64 0]) (by simp [results, Tryz.results83, go_sem, hlN, m0, m1, m2, m3]) rfl ⟨by rw [← hz.out]; rfl, hbN⟩
  · go_enter Tryz.func83, Tryz.ntmps83
    go_wp2_with fail
    refine hC.mono ?_
    rintro r w3 ⟨rfl, hb3⟩
    clear hC
    go_wp2_with fail
    refine (hO w3).mono ?_
    rintro r w3' ⟨rfl, hw3⟩
    obtain rfl := hw3.symm
    clear hO
    go_wp2_with fail
    refine (hQ w3).mono ?_
    rintro r w4 ⟨rfl, hb4⟩
    have hb5 : Below w2.heap.size w2 w4 := hb3.trans (hb4.mono hb3.size)
    have hlq : w.heap.size + 2 < w2.heap.size := by omega
    have hxq := (hb5.block _ hlq).trans hx0
    obtain ⟨s0, s1, s2, s3, t0, t1, t2, t3⟩ := cells_of4 hxq
    obtain ⟨wN, hWN, hxN, hbN⟩ := resB hxq (Nat.le_add_right _ 2) (hB.trans (hb5.mono hB.size)) (.int .i64 2) (.int .i64 z) (.string ⟨#[]⟩) (.slice none 0 0)
    obtain ⟨m0, m1, m2, m3, -⟩ := cells_of4 hxN
    have hlN : w.heap.size + 2 < wN.heap.size := (Array.getElem?_eq_some_iff.1 hxN).1
    have hlw : w.heap.size + 2 < w4.heap.size := (Array.getElem?_eq_some_iff.1 hxq).1
    clear hxN hxq hx0 hQ hb3 hb4 hW0 hW1 hW2 d0 d1 d2 d3 g0 g1 g2 g3
    go_wp2_with fail
    exact bodyPost_ret (v := .tuple #[.agg #[.int .i64 2, .int .i64 z, .string ⟨#[]⟩, .slice none 0 0], .int .i64 0]) (by simp [results, Tryz.results83, go_sem, hlN, m0, m1, m2, m3]) rfl ⟨by rw [← hz.out]; rfl, hbN⟩
set_option maxRecDepth 100000 in
set_option maxHeartbeats 1000000 in
theorem bin_num {op : Int} {a b : V} {sa sb : Value} {w : World} (ha : InR a.n) (hb : InR b.n) (q3 : (op == 3) = false) (q4 : (op == 4) = false) (f0 : (a.k != b.k) = false) (f1 : (a.k != 1) = false) (f2 : (a.k == 1) = true) (ho : decide (5 ≤ op) = false ∨ (decide (5 ≤ op) = true ∧ decide (op ≤ 8) = false)) : Calls Tryz.prog 83 #[.int .i64 op, .agg #[.int .i64 a.k, .int .i64 a.n, .string ⟨a.t.toArray⟩, sa], .agg #[.int .i64 b.k, .int .i64 b.n, .string ⟨b.t.toArray⟩, sb]] w fun r w' => VTwo (numV (arZ op a.n b.n)) w r w' := by
  obtain ⟨w0, w1, w2, hW0, hW1, hW2, hs0, hs1, hs2, hB, hx0, d0, d1, d2, d3, g0, g1, g2, g3⟩ := boxR w a sa b sb
  have hN := fun w => reckoned_any (op := op) ha hb w
  generalize arZ op a.n b.n = X at *
  have hx : ∀ w', Calls Tryz.prog 85 #[.int .i64 X.1, .int .i64 X.2] w' fun r w'' => VTwo (numV X) w' r w'' := fun w' => numb_any _ _ w'
  obtain ⟨Y, hY⟩ : ∃ Y, Hid (numV X = Y) := ⟨_, rfl⟩
  rw [hY.out]
  simp only [hY.out] at hx
  rcases ho with h5 | ⟨h5, h8⟩
  · go_enter Tryz.func83, Tryz.ntmps83
    go_wp2_with fail
    refine (hN w2).mono ?_
    rintro r w3 ⟨rfl, hw3⟩
    obtain rfl := hw3.symm
    clear hN
    go_wp2_with fail
    refine (hx w2).mono ?_
    rintro r w4 ⟨rfl, hb4⟩
    have hlq : w.heap.size + 2 < w2.heap.size := by omega
    have hxq := (hb4.block _ hlq).trans hx0
    obtain ⟨s0, s1, s2, s3, t0, t1, t2, t3⟩ := cells_of4 hxq
    obtain ⟨wN, hWN, hxN, hbN⟩ := resB hxq (Nat.le_add_right _ 2) (hB.trans (hb4.mono hB.size)) (.int .i64 Y.1.k) (.int .i64 Y.1.n) (.string ⟨Y.1.t.toArray⟩) (.slice none 0 0)
    obtain ⟨m0, m1, m2, m3, -⟩ := cells_of4 hxN
    have hlN : w.heap.size + 2 < wN.heap.size := (Array.getElem?_eq_some_iff.1 hxN).1
    have hlw : w.heap.size + 2 < w4.heap.size := (Array.getElem?_eq_some_iff.1 hxq).1
    clear hxN hxq hx0 hx hW0 hW1 hW2 d0 d1 d2 d3 g0 g1 g2 g3
    go_wp2_with fail
    exact bodyPost_ret (v := .tuple #[.agg #[.int .i64 Y.1.k, .int .i64 Y.1.n, .string ⟨Y.1.t.toArray⟩, .slice none 0 0], .int .i64 Y.2]) (by simp [results, Tryz.results83, go_sem, hlN, m0, m1, m2, m3]) rfl ⟨rfl, hbN⟩
  · go_enter Tryz.func83, Tryz.ntmps83
    go_wp2_with fail
    refine (hN w2).mono ?_
    rintro r w3 ⟨rfl, hw3⟩
    obtain rfl := hw3.symm
    clear hN
    go_wp2_with fail
    refine (hx w2).mono ?_
    rintro r w4 ⟨rfl, hb4⟩
    have hlq : w.heap.size + 2 < w2.heap.size := by omega
    have hxq := (hb4.block _ hlq).trans hx0
    obtain ⟨s0, s1, s2, s3, t0, t1, t2, t3⟩ := cells_of4 hxq
    obtain ⟨wN, hWN, hxN, hbN⟩ := resB hxq (Nat.le_add_right _ 2) (hB.trans (hb4.mono hB.size)) (.int .i64 Y.1.k) (.int .i64 Y.1.n) (.string ⟨Y.1.t.toArray⟩) (.slice none 0 0)
    obtain ⟨m0, m1, m2, m3, -⟩ := cells_of4 hxN
    have hlN : w.heap.size + 2 < wN.heap.size := (Array.getElem?_eq_some_iff.1 hxN).1
    have hlw : w.heap.size + 2 < w4.heap.size := (Array.getElem?_eq_some_iff.1 hxq).1
    clear hxN hxq hx0 hx hW0 hW1 hW2 d0 d1 d2 d3 g0 g1 g2 g3
    go_wp2_with fail
    exact bodyPost_ret (v := .tuple #[.agg #[.int .i64 Y.1.k, .int .i64 Y.1.n, .string ⟨Y.1.t.toArray⟩, .slice none 0 0], .int .i64 Y.2]) (by simp [results, Tryz.results83, go_sem, hlN, m0, m1, m2, m3]) rfl ⟨rfl, hbN⟩
set_option maxRecDepth 100000 in
set_option maxHeartbeats 1000000 in
theorem bin_txt {a b : V} {sa sb : Value} {w : World} (ha : a.t.length ≤ 281474976710656) (hb : b.t.length ≤ 281474976710656) (f0 : (a.k != b.k) = false) (f1 : (a.k != 1) = true) (f3 : (a.k != 3) = false) (f2 : (a.k == 1) = false) : Calls Tryz.prog 83 #[.int .i64 9, .agg #[.int .i64 a.k, .int .i64 a.n, .string ⟨a.t.toArray⟩, sa], .agg #[.int .i64 b.k, .int .i64 b.n, .string ⟨b.t.toArray⟩, sb]] w fun r w' => VTwo (joinV a.t b.t) w r w' := by
  obtain ⟨w0, w1, w2, hW0, hW1, hW2, hs0, hs1, hs2, hB, hx0, d0, d1, d2, d3, g0, g1, g2, g3⟩ := boxR w a sa b sb
  have hx := fun w => joined_any ha hb w
  obtain ⟨Y, hY⟩ : ∃ Y, Hid (joinV a.t b.t = Y) := ⟨_, rfl⟩
  rw [hY.out]
  simp only [hY.out] at hx
  go_enter Tryz.func83, Tryz.ntmps83
  go_wp2_with fail
  refine (hx w2).mono ?_
  rintro r w4 ⟨rfl, hb4⟩
  have hlq : w.heap.size + 2 < w2.heap.size := by omega
  have hxq := (hb4.block _ hlq).trans hx0
  obtain ⟨s0, s1, s2, s3, t0, t1, t2, t3⟩ := cells_of4 hxq
  obtain ⟨wN, hWN, hxN, hbN⟩ := resB hxq (Nat.le_add_right _ 2) (hB.trans (hb4.mono hB.size)) (.int .i64 Y.1.k) (.int .i64 Y.1.n) (.string ⟨Y.1.t.toArray⟩) (.slice none 0 0)
  obtain ⟨m0, m1, m2, m3, -⟩ := cells_of4 hxN
  have hlN : w.heap.size + 2 < wN.heap.size := (Array.getElem?_eq_some_iff.1 hxN).1
  have hlw : w.heap.size + 2 < w4.heap.size := (Array.getElem?_eq_some_iff.1 hxq).1
  clear hxN hxq hx0 hx hW0 hW1 hW2 d0 d1 d2 d3 g0 g1 g2 g3
  go_wp2_with fail
  exact bodyPost_ret (v := .tuple #[.agg #[.int .i64 Y.1.k, .int .i64 Y.1.n, .string ⟨Y.1.t.toArray⟩, .slice none 0 0], .int .i64 Y.2]) (by simp [results, Tryz.results83, go_sem, hlN, m0, m1, m2, m3]) rfl ⟨rfl, hbN⟩
set_option maxRecDepth 100000 in
set_option maxHeartbeats 1000000 in
theorem bin_not {op : Int} {a b : V} {sa sb : Value} {w : World} (q3 : (op == 3) = false) (q4 : (op == 4) = false) (q9 : (op == 9) = false) (f0 : (a.k != b.k) = false) (f1 : (a.k != 1) = true) (f3 : (a.k != 3) = false) (f2 : (a.k == 1) = false) (ho : decide (5 ≤ op) = false ∨ (decide (5 ≤ op) = true ∧ decide (op ≤ 8) = false)) : Calls Tryz.prog 83 #[.int .i64 op, .agg #[.int .i64 a.k, .int .i64 a.n, .string ⟨a.t.toArray⟩, sa], .agg #[.int .i64 b.k, .int .i64 b.n, .string ⟨b.t.toArray⟩, sb]] w fun r w' => VTwo (zV, 40) w r w' := by
  obtain ⟨w0, w1, w2, hW0, hW1, hW2, hs0, hs1, hs2, hB, hx0, d0, d1, d2, d3, g0, g1, g2, g3⟩ := boxR w a sa b sb
  have hR := Below.refl w2.heap.size w2
  rcases ho with h5 | ⟨h5, h8⟩
  · go_enter Tryz.func83, Tryz.ntmps83
    have hlq : w.heap.size + 2 < w2.heap.size := by omega
    have hxq := (hR.block _ hlq).trans hx0
    obtain ⟨s0, s1, s2, s3, t0, t1, t2, t3⟩ := cells_of4 hxq
    obtain ⟨wN, hWN, hxN, hbN⟩ := resB hxq (Nat.le_add_right _ 2) (hB.trans (hR.mono hB.size)) (.int .i64 0) (.int .i64 0) (.string ⟨#[]⟩) (.slice none 0 0)
    obtain ⟨m0, m1, m2, m3, -⟩ := cells_of4 hxN
    have hlN : w.heap.size + 2 < wN.heap.size := (Array.getElem?_eq_some_iff.1 hxN).1
    have hlw : w.heap.size + 2 < w2.heap.size := (Array.getElem?_eq_some_iff.1 hxq).1
    clear hxN hxq hx0 
    go_wp2_with fail
    exact bodyPost_ret (v := .tuple #[.agg #[.int .i64 0, .int .i64 0, .string ⟨#[]⟩, .slice none 0 0], .int .i64 40]) (by simp [results, Tryz.results83, go_sem, hlN, m0, m1, m2, m3]) rfl ⟨rfl, hbN⟩
  · go_enter Tryz.func83, Tryz.ntmps83
    have hlq : w.heap.size + 2 < w2.heap.size := by omega
    have hxq := (hR.block _ hlq).trans hx0
    obtain ⟨s0, s1, s2, s3, t0, t1, t2, t3⟩ := cells_of4 hxq
    obtain ⟨wN, hWN, hxN, hbN⟩ := resB hxq (Nat.le_add_right _ 2) (hB.trans (hR.mono hB.size)) (.int .i64 0) (.int .i64 0) (.string ⟨#[]⟩) (.slice none 0 0)
    obtain ⟨m0, m1, m2, m3, -⟩ := cells_of4 hxN
    have hlN : w.heap.size + 2 < wN.heap.size := (Array.getElem?_eq_some_iff.1 hxN).1
    have hlw : w.heap.size + 2 < w2.heap.size := (Array.getElem?_eq_some_iff.1 hxq).1
    clear hxN hxq hx0 
    go_wp2_with fail
    exact bodyPost_ret (v := .tuple #[.agg #[.int .i64 0, .int .i64 0, .string ⟨#[]⟩, .slice none 0 0], .int .i64 40]) (by simp [results, Tryz.results83, go_sem, hlN, m0, m1, m2, m3]) rfl ⟨rfl, hbN⟩
theorem binary_any {B : Nat → Prop} {a b : V} {sa sb : Value} {w : World} (op : Int) (ha : IsW B w a sa) (hb : IsW B w b sb) (hta : a.t.length ≤ 281474976710656) (htb : b.t.length ≤ 281474976710656) : Calls Tryz.prog 83 #[.int .i64 op, .agg #[.int .i64 a.k, .int .i64 a.n, .string ⟨a.t.toArray⟩, sa], .agg #[.int .i64 b.k, .int .i64 b.n, .string ⟨b.t.toArray⟩, sb]] w fun r w' => VTwo (binV op a b) w r w' := by
  unfold binV
  by_cases c3 : op = 3
  · rw [if_pos c3]; subst c3; exact bin_eq ha hb
  rw [if_neg c3]
  by_cases c4 : op = 4
  · rw [if_pos c4]; subst c4; exact bin_ne ha hb
  rw [if_neg c4]
  have q3 : (op == 3) = false := by simpa using c3
  have q4 : (op == 4) = false := by simpa using c4
  by_cases hk : a.k ≠ b.k ∨ (a.k ≠ 1 ∧ a.k ≠ 3)
  · rw [if_pos hk]
    refine bin_bad q3 q4 ?_
    by_cases h0 : a.k = b.k
    · rcases hk with h | ⟨h1, h3⟩
      · exact absurd h0 h
      · exact Or.inr ⟨by simp [h0], by simpa using h1, by simpa using h3⟩
    · exact Or.inl (by simpa using h0)
  rw [if_neg hk]
  have h0 : a.k = b.k := Classical.byContradiction fun h => hk (Or.inl h)
  have f0 : (a.k != b.k) = false := by simp [h0]
  by_cases ho : 5 ≤ op ∧ op ≤ 8
  · rw [if_pos ho]
    refine bin_ord ha hb q3 q4 f0 ?_ (by simpa using ho.1) (by simpa using ho.2)
    by_cases h1 : a.k = 1
    · exact Or.inl (by simp [h1])
    · exact Or.inr ⟨by simpa using h1, by simp; exact Classical.byContradiction fun h => hk (Or.inr ⟨h1, h⟩)⟩
  rw [if_neg ho]
  have ho' : decide (5 ≤ op) = false ∨ (decide (5 ≤ op) = true ∧ decide (op ≤ 8) = false) := by
    simp only [decide_eq_false_iff_not, decide_eq_true_eq]; omega
  by_cases h1 : a.k = 1
  · rw [if_pos h1]
    exact bin_num (op := op) ha.nr hb.nr q3 q4 f0 (by simp [h1]) (by simp [h1]) ho'
  rw [if_neg h1]
  have f1 : (a.k != 1) = true := by simpa using h1
  have f2 : (a.k == 1) = false := by simpa using h1
  have f3 : (a.k != 3) = false := by simp; exact Classical.byContradiction fun h => hk (Or.inr ⟨h1, h⟩)
  by_cases h9 : op = 9
  · rw [if_pos h9]; subst h9
    exact bin_txt hta htb f0 f1 f3 f2
  rw [if_neg h9]
  exact bin_not q3 q4 (by simpa using h9) f0 f1 f3 f2 ho'
end Go.Proofs.YtnijcolomoobnaaGreatDoor
namespace Go.Proofs.YtnijcolomoobnaaGreatDoor
open Go.RowKit
set_option linter.unusedVariables false
set_option linter.unusedSimpArgs false

theorem VTwo.out {x : V × Int} {w w' : World} {r : Ending} (h : VTwo x w r w') (hx : x.1.l = []) (hk : InR x.1.k) (hn : InR x.1.n) (ht : x.1.t.length ≤ maxLen) : OutV w x r w' := by
  obtain ⟨rfl, hb⟩ := h
  refine ⟨⟨none, 0, by rw [hx]; rfl, ?_⟩, hb⟩
  refine ⟨ht, hk, hn, ?_⟩
  rw [hx]
  exact IsVs.nil
theorem arZ_r {op a b : Int} (ha : InR a) (hb : InR b) : InR (arZ op a b).1 := by
  have h0 : InR 0 := by unfold InR; omega
  unfold arZ
  split
  · exact exR_r _
  split
  · exact exR_r _
  split
  · exact exR_r _
  split
  · split
    · exact h0
    · exact exR_r _
  split
  · split
    · exact h0
    · show InR (a.tmod b)
      unfold InR at *
      have := Int.natAbs_tmod a b
      have h2 : (a.tmod b).natAbs ≤ a.natAbs := by rw [this]; exact Nat.mod_le _ _
      by_cases hp : 0 ≤ a
      · have := Int.tmod_nonneg b hp
        omega
      · have h3 : 0 ≤ (-a).tmod b := Int.tmod_nonneg b (by omega)
        rw [Int.neg_tmod] at h3
        omega
  · exact h0
theorem binV_w {op : Int} {a b : V} (ha : InR a.n) (hb : InR b.n) (hta : a.t.length ≤ 256) (htb : b.t.length ≤ 256) : (binV op a b).1.l = [] ∧ InR (binV op a b).1.k ∧ InR (binV op a b).1.n ∧ (binV op a b).1.t.length ≤ maxLen := by
  have hr : ∀ n : Int, 0 ≤ n → n ≤ 100 → InR n := fun n h1 h2 => by unfold InR; omega
  have hbv : ∀ b : Bool, (bV' b).l = [] ∧ InR (bV' b).k ∧ InR (bV' b).n ∧ (bV' b).t.length ≤ maxLen := fun b => by
    refine ⟨rfl, hr 2 (by omega) (by omega), ?_, by unfold maxLen; simp [V.t]⟩
    cases b
    · exact hr 0 (by omega) (by omega)
    · exact hr 1 (by omega) (by omega)
  have hz : zV.l = [] ∧ InR zV.k ∧ InR zV.n ∧ zV.t.length ≤ maxLen := ⟨rfl, hr 0 (by omega) (by omega), hr 0 (by omega) (by omega), by unfold maxLen; simp [V.t]⟩
  unfold binV
  split
  · exact hbv _
  split
  · exact hbv _
  split
  · exact hz
  split
  · exact hbv _
  split
  · split
    · exact ⟨rfl, hr 1 (by omega) (by omega), arZ_r ha hb, by unfold maxLen; simp [V.t]⟩
    · exact hz
  split
  · split
    · refine ⟨rfl, hr 3 (by omega) (by omega), hr 0 (by omega) (by omega), ?_⟩
      show (a.t ++ b.t).length ≤ maxLen
      rw [List.length_append]
      unfold maxLen
      omega
    · exact hz
  · exact hz
theorem negV_w {a : V} : (negV a).1.l = [] ∧ InR (negV a).1.k ∧ InR (negV a).1.n ∧ (negV a).1.t.length ≤ maxLen := by
  have hr : ∀ n : Int, 0 ≤ n → n ≤ 100 → InR n := fun n h1 h2 => by unfold InR; omega
  have hz : zV.l = [] ∧ InR zV.k ∧ InR zV.n ∧ zV.t.length ≤ maxLen := ⟨rfl, hr 0 (by omega) (by omega), hr 0 (by omega) (by omega), by unfold maxLen; simp [V.t]⟩
  unfold negV
  split
  · split
    · exact ⟨rfl, hr 1 (by omega) (by omega), exR_r _, by unfold maxLen; simp [V.t]⟩
    · exact hz
  · exact hz
theorem Snd.tidy {v : V} (h : Snd v) : Tidy v := fun h5 => by
  obtain ⟨k, n, t, l⟩ := v
  have h2 := h.2
  rw [sd_iff] at h2
  exact ⟨(h2.2.2.2.2.2.1 h5).2.1, (h2.2.2.2.2.2.1 h5).1⟩
theorem Snd.txt {v : V} (h : Snd v) : v.t.length ≤ 256 := by
  obtain ⟨k, n, t, l⟩ := v
  have h2 := h.2
  rw [sd_iff] at h2
  show t.length ≤ 256
  by_cases h3 : k = 3
  · exact h2.2.2.2.2.2.2.2.1 h3
  · rw [h2.2.2.1 h3]; simp
end Go.Proofs.YtnijcolomoobnaaGreatDoor
