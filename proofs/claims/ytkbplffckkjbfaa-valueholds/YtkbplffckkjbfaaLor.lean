/- The order of values: the statement, walked. -/
import Derived.Test.YtkbplffckkjbfaaLwa
import Derived.Test.YtkbplffckkjbfaaLct
import Derived.Test.YtkbplffckkjbfaaRc
namespace Go.Proofs.Ytkbplffckkjbfaa
open Go.RowKit
set_option linter.unusedVariables false
set_option linter.unusedSimpArgs false
attribute [local go_sem ↓] Go.wp_at_zero Go.wp_at_succ

/-- A value's four cells. -/
def At4 (w : World) (g : Nat) (v : V) (s : Value) : Prop := w.cell? ⟨g, 0, none⟩ = some (.int .i64 v.k) ∧ w.cell? ⟨g, 1, none⟩ = some (.int .i64 v.n) ∧ w.cell? ⟨g, 2, none⟩ = some (.string ⟨v.t.toArray⟩) ∧ w.cell? ⟨g, 3, none⟩ = some s
theorem At4.below {w w' : World} {g : Nat} {v : V} {s : Value} (h : At4 w g v s) (hg : g < w.heap.size) (hb : Below w.heap.size w w') : At4 w' g v s := ⟨((bcell hb).1 _ _ hg).trans h.1, ((bcell hb).1 _ _ hg).trans h.2.1, ((bcell hb).1 _ _ hg).trans h.2.2.1, ((bcell hb).1 _ _ hg).trans h.2.2.2⟩
theorem boxed3 (w : World) (a : V) (sa : Value) (b : V) (sb : Value) (c : V) (sc : Value) : ∃ w0 w1 w2, w.alloc (.cells #[.int .i64 a.k, .int .i64 a.n, .string ⟨a.t.toArray⟩, sa] 24) = w0 ∧ w0.alloc (.cells #[.int .i64 b.k, .int .i64 b.n, .string ⟨b.t.toArray⟩, sb] 24) = w1 ∧ w1.alloc (.cells #[.int .i64 c.k, .int .i64 c.n, .string ⟨c.t.toArray⟩, sc] 24) = w2 ∧ w0.heap.size = w.heap.size + 1 ∧ w1.heap.size = w.heap.size + 2 ∧ w2.heap.size = w.heap.size + 3 ∧ Below w.heap.size w w2 ∧
    ∀ w', Below w2.heap.size w2 w' → At4 w' w.heap.size a sa ∧ At4 w' (w.heap.size + 1) b sb ∧ At4 w' (w.heap.size + 2) c sc := by
  obtain ⟨w0, w1, hW, hW1, hs0, hs1, hB, d0, d1, d2, d3, e0, e1, e2, e3⟩ := boxed2 w a sa b sb
  obtain ⟨w2, hW2, hb2, hsz2, f0, f1, f2, f3⟩ := boxed w1 c sc
  rw [hs1] at f0 f1 f2 f3
  refine ⟨w0, w1, w2, hW, hW1, hW2, hs0, hs1, by omega, hB.trans (hb2.mono hB.size), fun w' h => ?_⟩
  exact ⟨(At4.below ⟨d0, d1, d2, d3⟩ (by omega) hb2).below (by omega) h, (At4.below ⟨e0, e1, e2, e3⟩ (by omega) hb2).below (by omega) h, At4.below ⟨f0, f1, f2, f3⟩ (by omega) h⟩
set_option maxRecDepth 100000 in
set_option maxHeartbeats 4000000 in
theorem orders_walk {a b c : V} {aa ab ac : Option Addr} {ca cb cc : Nat} {w : World} (ha : IsW Any w a (.slice aa a.l.length ca)) (hb : IsW Any w b (.slice ab b.l.length cb)) (hc : IsW Any w c (.slice ac c.l.length cc)) (za : SzV a) (zb : SzV b) (zc : SzV c) :
    Calls Try.prog 4 #[.agg #[.int .i64 a.k, .int .i64 a.n, .string ⟨a.t.toArray⟩, .slice aa a.l.length ca], .agg #[.int .i64 b.k, .int .i64 b.n, .string ⟨b.t.toArray⟩, .slice ab b.l.length cb], .agg #[.int .i64 c.k, .int .i64 c.n, .string ⟨c.t.toArray⟩, .slice ac c.l.length cc]] w fun r w' => r = .returned (.bool true) ∧ Below w.heap.size w w' := by
  obtain ⟨w0, w1, W, hW, hW1, hW2, hs0, hs1, hs2, hBW, hcell⟩ := boxed3 w a (.slice aa a.l.length ca) b (.slice ab b.l.length cb) c (.slice ac c.l.length cc)
  replace ha := ha.below hBW
  replace hb := hb.below hBW
  replace hc := hc.below hBW
  have hWk := wakes_any W
  have hL : ∀ (u : V) (au : Option Addr) (cu : Nat) (w2 : World), Below W.heap.size W w2 → IsW Any W u (.slice au u.l.length cu) → SzV u → Calls Try.prog 10 #[.agg #[.int .i64 u.k, .int .i64 u.n, .string ⟨u.t.toArray⟩, .slice au u.l.length cu]] w2 fun r w' => r = .returned (.bool (decide (65536 < wt u))) ∧ Below W.heap.size W w' := fun u au cu w2 hb2 hu hz => (large_any hz (hu.below hb2)).mono fun e w' ⟨h1, h2⟩ => ⟨h1, hb2.trans (h2.mono hb2.size)⟩
  have hVC : ∀ (u z : V) (su sz : Value) (w2 : World), Below W.heap.size W w2 → IsW Any W u su → IsW Any W z sz → Calls Try.prog 24 #[.agg #[.int .i64 u.k, .int .i64 u.n, .string ⟨u.t.toArray⟩, su], .agg #[.int .i64 z.k, .int .i64 z.n, .string ⟨z.t.toArray⟩, sz]] w2 fun r w' => r = .returned (.int .i64 (cmpV u z)) ∧ Below W.heap.size W w' := fun u z su sz w2 hb2 hu hz => (compare_any (hu.below hb2) (hz.below hb2)).mono fun e w' ⟨h1, h2⟩ => ⟨h1, hb2.trans (h2.mono hb2.size)⟩
  have hRC : ∀ (u z : V) (su sz : Value) (w2 : World), Below W.heap.size W w2 → IsW Any W u su → IsW Any W z sz → Calls Try.prog 25 #[.agg #[.int .i64 u.k, .int .i64 u.n, .string ⟨u.t.toArray⟩, su], .agg #[.int .i64 z.k, .int .i64 z.n, .string ⟨z.t.toArray⟩, sz]] w2 fun r w' => r = .returned (.int .i64 (cmpV u z)) ∧ Below W.heap.size W w' := fun u z su sz w2 hb2 hu hz => (rcompare_any (hu.below hb2) (hz.below hb2)).mono fun e w' ⟨h1, h2⟩ => ⟨h1, hb2.trans (h2.mono hb2.size)⟩
  have hbX : Below W.heap.size W W := Below.refl _ _
  have hBf : ∀ w', Below W.heap.size W w' → Below w.heap.size w w' := fun w' h => hBW.trans (h.mono hBW.size)
  go_enter Try.func4, Try.ntmps4
  go_wp2_with fail
  refine hWk.mono ?_
  rintro e w3 ⟨rfl, hbX⟩
  obtain ⟨⟨p0, p1, p2, p3⟩, ⟨q0, q1, q2, q3⟩, ⟨r0, r1, r2, r3⟩⟩ := hcell w3 hbX
  clear hW hW1 hW2 hWk
  go_wp2_with fail
  refine (hL a aa ca w3 hbX ha za).mono ?_
  rintro e w4 ⟨rfl, hbX4⟩
  obtain ⟨⟨p0', p1', p2', p3'⟩, ⟨q0', q1', q2', q3'⟩, ⟨r0', r1', r2', r3'⟩⟩ := hcell w4 hbX4
  by_cases hla : 65536 < wt a
  · rw [decide_eq_true hla]
    go_wp2
    go_ret
    exact ⟨rfl, hBf _ hbX4⟩
  rw [decide_eq_false hla]
  clear p0 p1 p2 p3 q0 q1 q2 q3 r0 r1 r2 r3 hbX
  go_wp2_with fail
  refine (hL b ab cb w4 hbX4 hb zb).mono ?_
  rintro e w5 ⟨rfl, hbX5⟩
  obtain ⟨⟨p0, p1, p2, p3⟩, ⟨q0, q1, q2, q3⟩, ⟨r0, r1, r2, r3⟩⟩ := hcell w5 hbX5
  by_cases hlb : 65536 < wt b
  · rw [decide_eq_true hlb]
    go_wp2
    go_ret
    exact ⟨rfl, hBf _ hbX5⟩
  rw [decide_eq_false hlb]
  clear p0' p1' p2' p3' q0' q1' q2' q3' r0' r1' r2' r3' hbX4
  go_wp2_with fail
  refine (hL c ac cc w5 hbX5 hc zc).mono ?_
  rintro e w6 ⟨rfl, hbX6⟩
  obtain ⟨⟨p0', p1', p2', p3'⟩, ⟨q0', q1', q2', q3'⟩, ⟨r0', r1', r2', r3'⟩⟩ := hcell w6 hbX6
  by_cases hlc : 65536 < wt c
  · rw [decide_eq_true hlc]
    go_wp2
    go_ret
    exact ⟨rfl, hBf _ hbX6⟩
  rw [decide_eq_false hlc]
  clear p0 p1 p2 p3 q0 q1 q2 q3 r0 r1 r2 r3 hbX5 hL
  go_wp2_with fail
  refine (hVC a b _ _ w6 hbX6 ha hb).mono ?_
  rintro e w7 ⟨rfl, hbX⟩
  obtain ⟨⟨p0, p1, p2, p3⟩, ⟨q0, q1, q2, q3⟩, ⟨r0, r1, r2, r3⟩⟩ := hcell w7 hbX
  clear p0' p1' p2' p3' q0' q1' q2' q3' r0' r1' r2' r3' hbX6
  have hWt : ∀ (u : V) (su : Value) (w2 : World), Below W.heap.size W w2 → IsW Any W u su → wt u ≤ 65536 → Calls Try.prog 26 #[.agg #[.int .i64 u.k, .int .i64 u.n, .string ⟨u.t.toArray⟩, su]] w2 fun r w' => r = .returned (.int .i64 (wt u)) ∧ Below W.heap.size W w' := fun u su w2 hb2 hu hz => (weight_any _ u su Any w2 (Nat.lt_succ_self _) (by omega) (hu.below hb2)).mono fun e w' ⟨h1, h2⟩ => ⟨h1, hb2.trans (h2.mono hb2.size)⟩
  have hRWt : ∀ (u : V) (su : Value) (w2 : World), Below W.heap.size W w2 → IsW Any W u su → wt u ≤ 65536 → Calls Try.prog 27 #[.agg #[.int .i64 u.k, .int .i64 u.n, .string ⟨u.t.toArray⟩, su]] w2 fun r w' => r = .returned (.int .i64 (wt u)) ∧ Below W.heap.size W w' := fun u su w2 hb2 hu hz => (rweight_any _ u su Any w2 (Nat.lt_succ_self _) (by omega) (hu.below hb2)).mono fun e w' ⟨h1, h2⟩ => ⟨h1, hb2.trans (h2.mono hb2.size)⟩
  have hS : ∀ w', Below W.heap.size W w' → w'.cell? ⟨w.heap.size, 0, none⟩ = some (.int .i64 a.k) ∧ w'.cell? ⟨w.heap.size, 1, none⟩ = some (.int .i64 a.n) ∧ w'.cell? ⟨w.heap.size, 2, none⟩ = some (.string ⟨a.t.toArray⟩) ∧ w'.cell? ⟨w.heap.size, 3, none⟩ = some (.slice aa a.l.length ca) ∧ w'.cell? ⟨w.heap.size + 1, 0, none⟩ = some (.int .i64 b.k) ∧ w'.cell? ⟨w.heap.size + 1, 1, none⟩ = some (.int .i64 b.n) ∧ w'.cell? ⟨w.heap.size + 1, 2, none⟩ = some (.string ⟨b.t.toArray⟩) ∧ w'.cell? ⟨w.heap.size + 1, 3, none⟩ = some (.slice ab b.l.length cb) := fun w' h => by
    obtain ⟨⟨p0, p1, p2, p3⟩, ⟨q0, q1, q2, q3⟩, -⟩ := hcell w' h
    exact ⟨p0, p1, p2, p3, q0, q1, q2, q3⟩
  have hla' : wt a ≤ 65536 := by omega
  have hneg : (cmpV a b != -cmpV b a) = false := by rw [cmpV_neg a b]; simp
  have hsg := cmpV_sg b a
  have hb1 : -1 ≤ cmpV b a := by unfold Sg at hsg; omega
  have hb2 : cmpV b a ≤ 1 := by unfold Sg at hsg; omega
  have hself : cmpV a a = 0 := cmpV_self a
  have hrefl : (cmpV a b != cmpV a b) = false := by simp
  have hwrap : IntKind.i64.wrap (-cmpV b a) = -cmpV b a := by rw [IntKind.wrap_i64]; omega
  have HT : Hid (cmpV a b ≤ 0 → cmpV b c ≤ 0 → cmpV a c ≤ 0) := fun h1 h2 => cmpV_trans h1 h2
  clear hsg hla
  go_wp2_with fail
  go_region_held3 (fun w' => w'.cell? ⟨w.heap.size, 0, none⟩ = some (.int .i64 a.k) ∧ w'.cell? ⟨w.heap.size, 1, none⟩ = some (.int .i64 a.n) ∧ w'.cell? ⟨w.heap.size, 2, none⟩ = some (.string ⟨a.t.toArray⟩) ∧ w'.cell? ⟨w.heap.size, 3, none⟩ = some (.slice aa a.l.length ca) ∧ w'.cell? ⟨w.heap.size + 1, 0, none⟩ = some (.int .i64 b.k) ∧ w'.cell? ⟨w.heap.size + 1, 1, none⟩ = some (.int .i64 b.n) ∧ w'.cell? ⟨w.heap.size + 1, 2, none⟩ = some (.string ⟨b.t.toArray⟩) ∧ w'.cell? ⟨w.heap.size + 1, 3, none⟩ = some (.slice ab b.l.length cb)) (exact hS _ (by first | exact hbX | exact hbX.drew))
    (first
      | (go_at_call 25; refine (hRC _ _ _ _ _ (by first | exact hbX | exact hbX.drew) (by assumption) (by assumption)).mono ?_; rintro e w8 ⟨rfl, hbX⟩)
      | (go_at_call 24; refine (hVC _ _ _ _ _ (by first | exact hbX | exact hbX.drew) (by assumption) (by assumption)).mono ?_; rintro e w8 ⟨rfl, hbX⟩)
      | (go_at_call 26; refine (hWt _ _ _ (by first | exact hbX | exact hbX.drew) (by assumption) hla').mono ?_; rintro e w8 ⟨rfl, hbX⟩)
      | (go_at_call 27; refine (hRWt _ _ _ (by first | exact hbX | exact hbX.drew) (by assumption) hla').mono ?_; rintro e w8 ⟨rfl, hbX⟩))
  clear p0 p1 p2 p3 q0 q1 q2 q3 r0 r1 r2 r3
  obtain ⟨⟨p0, p1, p2, p3⟩, ⟨q0, q1, q2, q3⟩, ⟨r0, r1, r2, r3⟩⟩ := hcell w8 hbX
  by_cases hx : cmpV a b ≤ 0
  · go_wp2_with fail
    refine (hVC b c _ _ _ hbX hb hc).mono ?_
    rintro e w9 ⟨rfl, hbX9⟩
    obtain ⟨⟨p0', p1', p2', p3'⟩, -, ⟨r0', r1', r2', r3'⟩⟩ := hcell w9 hbX9
    clear p0 p1 p2 p3 q0 q1 q2 q3 r0 r1 r2 r3
    by_cases hy : cmpV b c ≤ 0
    · have hz := HT.out hx hy
      go_wp2_with fail
      refine (hVC a c _ _ _ hbX9 ha hc).mono ?_
      rintro e w10 ⟨rfl, hbX10⟩
      go_wp2
      go_ret
      exact ⟨ret_bool (by simp [hz]), hBf _ hbX10⟩
    · go_wp2
      go_ret
      exact ⟨rfl, hBf _ hbX9⟩
  · go_wp2
    go_ret
    exact ⟨rfl, hBf _ hbX⟩
end Go.Proofs.Ytkbplffckkjbfaa
