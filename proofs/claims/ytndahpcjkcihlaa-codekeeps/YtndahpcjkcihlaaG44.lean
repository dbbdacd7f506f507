/- Texts of ours, joined: Jog, Jp, Jq. -/
import Derived.Test.YtndahpcjkcihlaaG42
import Derived.Test.YtndahpcjkcihlaaG43
import Derived.Test.YtndahpcjkcihlaaG39
import Derived.Test.YtndahpcjkcihlaaG33
/- What grows: the statement's walk. -/
namespace Go.Proofs.Ytndahpcjkcihlaa
open Go.RowKit
theorem grows_done {B : Nat → Prop} {m : Md} {ac af : Option Addr} {cc cf : Nat} {w : World} (hm : IsMd B w m (.slice ac m.consts.length cc) (.slice af m.funcs.length cf)) (hz : SzM m) (states more : Int) (hst : InR states) :
    Calls Try.prog 5 #[.agg #[.slice ac m.consts.length cc, .slice af m.funcs.length cf], .int .i64 states, .int .i64 more] w fun e w' => e = .returned (.bool true) ∧ Below w.heap.size w w' := grows_walk wake_ok ver_ok hm hz states more hst
end Go.Proofs.Ytndahpcjkcihlaa
/- Constants and instructions read: the program's. -/
namespace Go.Proofs.Ytndahpcjkcihlaa
open Go.RowKit
set_option linter.unusedVariables false
set_option linter.unusedSimpArgs false
attribute [local go_sem ↓] Go.wp_at_zero Go.wp_at_succ

/-- What is answered through a box of four, two, five cells. -/
theorem resV {w wq : World} {r : Nat} {st : RSt} {y0 y1 y2 y3 : Value} {T : TypeId} (hx : wq.heap[w.heap.size]? = some (.cells #[y0, y1, y2, y3] T (0, 0))) (ho : Only r w wq) (hr : RdS wq r st) (hrl : r < w.heap.size) (x0 x1 x2 x3 : Value) : ∃ wN, (((wq.setCell ⟨w.heap.size, 0, none⟩ x0).setCell ⟨w.heap.size, 1, none⟩ x1).setCell ⟨w.heap.size, 2, none⟩ x2).setCell ⟨w.heap.size, 3, none⟩ x3 = wN ∧ wN.heap[w.heap.size]? = some (.cells #[x0, x1, x2, x3] T (0, 0)) ∧ Only r w wN ∧ RdS wN r st :=
  ⟨_, rfl, by simp [World.setCell, Array.getElem?_modify, hx], (((ho.setCell (Nat.le_refl _) 0 x0).setCell (Nat.le_refl _) 1 x1).setCell (Nat.le_refl _) 2 x2).setCell (Nat.le_refl _) 3 x3, (((hr.setCell hrl 0 x0).setCell hrl 1 x1).setCell hrl 2 x2).setCell hrl 3 x3⟩
theorem resI {w wq : World} {r : Nat} {st : RSt} {y0 y1 : Value} {T : TypeId} (hx : wq.heap[w.heap.size]? = some (.cells #[y0, y1] T (0, 0))) (ho : Only r w wq) (hr : RdS wq r st) (hrl : r < w.heap.size) (x0 x1 : Value) : ∃ wN, (wq.setCell ⟨w.heap.size, 0, none⟩ x0).setCell ⟨w.heap.size, 1, none⟩ x1 = wN ∧ wN.heap[w.heap.size]? = some (.cells #[x0, x1] T (0, 0)) ∧ Only r w wN ∧ RdS wN r st :=
  ⟨_, rfl, by simp [World.setCell, Array.getElem?_modify, hx], (ho.setCell (Nat.le_refl _) 0 x0).setCell (Nat.le_refl _) 1 x1, (hr.setCell hrl 0 x0).setCell hrl 1 x1⟩
theorem resF {w wq : World} {r : Nat} {st : RSt} {y0 y1 y2 y3 y4 : Value} {T : TypeId} (hx : wq.heap[w.heap.size]? = some (.cells #[y0, y1, y2, y3, y4] T (0, 0))) (ho : Only r w wq) (hr : RdS wq r st) (hrl : r < w.heap.size) (x0 x1 x2 x3 x4 : Value) : ∃ wN, ((((wq.setCell ⟨w.heap.size, 0, none⟩ x0).setCell ⟨w.heap.size, 1, none⟩ x1).setCell ⟨w.heap.size, 2, none⟩ x2).setCell ⟨w.heap.size, 3, none⟩ x3).setCell ⟨w.heap.size, 4, none⟩ x4 = wN ∧ wN.heap[w.heap.size]? = some (.cells #[x0, x1, x2, x3, x4] T (0, 0)) ∧ Only r w wN ∧ RdS wN r st ∧ wN.heap.size = wq.heap.size ∧ ∀ k, k ≠ w.heap.size → wN.heap[k]? = wq.heap[k]? :=
  ⟨_, rfl, by simp [World.setCell, Array.getElem?_modify, hx], ((((ho.setCell (Nat.le_refl _) 0 x0).setCell (Nat.le_refl _) 1 x1).setCell (Nat.le_refl _) 2 x2).setCell (Nat.le_refl _) 3 x3).setCell (Nat.le_refl _) 4 x4, ((((hr.setCell hrl 0 x0).setCell hrl 1 x1).setCell hrl 2 x2).setCell hrl 3 x3).setCell hrl 4 x4, by simp [World.setCell], fun k hk => by rw [Below.heap_setCell _ _ _ _ hk, Below.heap_setCell _ _ _ _ hk, Below.heap_setCell _ _ _ _ hk, Below.heap_setCell _ _ _ _ hk, Below.heap_setCell _ _ _ _ hk]⟩
theorem box4z (w : World) : ∃ w0, w.alloc (.cells #[.int .i64 0, .int .i64 0, .string ⟨#[]⟩, .slice none 0 0] 29) = w0 ∧ Below w.heap.size w w0 ∧ w.heap.size < w0.heap.size ∧ w0.heap[w.heap.size]? = some (.cells #[.int .i64 0, .int .i64 0, .string ⟨#[]⟩, .slice none 0 0] 29 (0, 0)) :=
  ⟨_, rfl, (Below.refl _ _).alloc (Nat.le_refl _) _, by simp, heap_new _ _⟩
set_option maxRecDepth 100000 in
set_option maxHeartbeats 1000000 in
theorem bad_any {w : World} {r : Nat} {st : RSt} (h : RdS w r st) : Calls Try.prog 77 #[.pointer (some ⟨r, 0, none⟩)] w fun e w' => e = .returned (.bool st.isNone) ∧ w' = w := by
  obtain ⟨sl, h1, h2⟩ := h
  obtain ⟨c0, c1, f0, f1⟩ := cells_of2 h1
  have hrl : r < w.heap.size := (Array.getElem?_eq_some_iff.1 h1).1
  clear h1 h2
  generalize st.isNone = nn at *
  go_enter Try.func77, Try.ntmps77
  go_wp2
  go_ret
  exact ⟨rfl, rfl⟩
/-- The number of a constant that is one. -/
def rdZ (st : RSt) : Int × RSt := (if (rdN st).1 = 1 then -((rdN (rdN st).2).1 : Int) - 1 else ((rdN (rdN st).2).1 : Int), (rdN (rdN st).2).2)
def CPost (w : World) (r : Nat) (x : V × RSt) (e : Ending) (w' : World) : Prop := e = .returned (.agg #[.int .i64 x.1.k, .int .i64 x.1.n, .string ⟨x.1.t.toArray⟩, .slice none 0 0]) ∧ RdS w' r x.2 ∧ Only r w w'
set_option maxRecDepth 100000 in
set_option maxHeartbeats 1000000 in
theorem lreadInt_any {w : World} {r : Nat} {st : RSt} (h : RdS w r st) : Calls Try.prog 78 #[.pointer (some ⟨r, 0, none⟩)] w fun e w' => CPost w r (.mk 1 (rdZ st).1 [] [], (rdZ st).2) e w' := by
  obtain ⟨w0, hW0, hb0, hl0, hx0⟩ := box4z w
  have hrl := h.lt
  have hN1 := number_any (h.keep hb0)
  have hle1 := rdN_le st
  have hle2 := rdN_le (rdN st).2
  obtain ⟨k, HK⟩ : ∃ k, Hid ((rdN st).1 = k) := ⟨_, rfl⟩
  obtain ⟨n, HN⟩ : ∃ n, Hid ((rdN (rdN st).2).1 = n) := ⟨_, rfl⟩
  obtain ⟨Z, HZ⟩ : ∃ Z, Hid ((V.mk 1 (rdZ st).1 [] [], (rdZ st).2) = Z) := ⟨_, rfl⟩
  rw [HZ.out]
  rw [HK.out] at hN1 hle1
  rw [HN.out] at hle2
  clear h
  go_enter Try.func78, Try.ntmps78
  go_wp2_with fail
  refine hN1.mono ?_
  rintro e w1 ⟨rfl, hr1, ho1⟩
  have hN2 := number_any hr1
  rw [HN.out] at hN2
  clear hN1 hr1
  go_wp2_with fail
  refine hN2.mono ?_
  rintro e w2 ⟨rfl, hr2, ho2⟩
  have ho12 : Only r w w2 := (Only.of_below hb0).trans (ho1.trans ho2)
  have hx2 := ho2.cells (Nat.lt_of_lt_of_le hl0 ho1.size) (by omega) (ho1.cells hl0 (by omega) hx0)
  clear hN2 ho1 ho2 hx0 hW0
  by_cases hk1 : k = 1
  · have hkb : ((k : Int) == 1) = true := by simp [hk1]
    have hw : IntKind.i64.wrap (-1 - (n : Int)) = -1 - (n : Int) := by rw [IntKind.wrap_i64]; omega
    have hI := int_any (-1 - (n : Int))
    have hZv : Hid (Z = (.mk 1 (-1 - (n : Int)) [] [], (rdN (rdN st).2).2)) := by
      show _ = _
      rw [← HZ.out]
      unfold rdZ
      rw [HK.out, if_pos hk1, HN.out]
      congr 2
      omega
    clear hk1
    go_wp2_with fail
    refine (hI w2).mono ?_
    rintro e w3 ⟨rfl, hb3⟩
    have ho3 := ho12.trans (Only.of_below hb3)
    have hx3 := (hb3.block _ (Array.getElem?_eq_some_iff.1 hx2).1).trans hx2
    obtain ⟨s0, s1, s2, s3, t0, t1, t2, t3⟩ := cells_of4 hx3
    obtain ⟨wN, hWN, hxN, hoN, hrN⟩ := resV hx3 ho3 (hr2.keep hb3) hrl (.int .i64 1) (.int .i64 (-1 - (n : Int))) (.string ⟨#[]⟩) (.slice none 0 0)
    obtain ⟨m0, m1, m2, m3, -⟩ := cells_of4 hxN
    have hlN : w.heap.size < wN.heap.size := (Array.getElem?_eq_some_iff.1 hxN).1
    have hl3 : w.heap.size < w3.heap.size := (Array.getElem?_eq_some_iff.1 hx3).1
    have hpost : CPost w r Z (.returned (.agg #[.int .i64 1, .int .i64 (-1 - (n : Int)), .string ⟨#[]⟩, .slice none 0 0])) wN := by rw [hZv.out]; exact ⟨rfl, hrN, hoN⟩
    clear hI hr2 ho12 ho3 hx2 hx3 hxN hb3 hoN hrN
    go_wp2_with fail
    exact bodyPost_ret (v := .agg #[.int .i64 1, .int .i64 (-1 - (n : Int)), .string ⟨#[]⟩, .slice none 0 0]) (by simp [results, Try.results78, go_sem, hlN, m0, m1, m2, m3]) rfl hpost
  · have hkb : ((k : Int) == 1) = false := by rw [beq_eq_false_iff_ne]; omega
    have hI := int_any (n : Int)
    have hZv : Hid (Z = (.mk 1 (n : Int) [] [], (rdN (rdN st).2).2)) := by
      show _ = _
      rw [← HZ.out]
      unfold rdZ
      rw [HK.out, if_neg hk1, HN.out]
    clear hk1
    go_wp2_with fail
    refine (hI w2).mono ?_
    rintro e w3 ⟨rfl, hb3⟩
    have ho3 := ho12.trans (Only.of_below hb3)
    have hx3 := (hb3.block _ (Array.getElem?_eq_some_iff.1 hx2).1).trans hx2
    obtain ⟨s0, s1, s2, s3, t0, t1, t2, t3⟩ := cells_of4 hx3
    obtain ⟨wN, hWN, hxN, hoN, hrN⟩ := resV hx3 ho3 (hr2.keep hb3) hrl (.int .i64 1) (.int .i64 (n : Int)) (.string ⟨#[]⟩) (.slice none 0 0)
    obtain ⟨m0, m1, m2, m3, -⟩ := cells_of4 hxN
    have hlN : w.heap.size < wN.heap.size := (Array.getElem?_eq_some_iff.1 hxN).1
    have hl3 : w.heap.size < w3.heap.size := (Array.getElem?_eq_some_iff.1 hx3).1
    have hpost : CPost w r Z (.returned (.agg #[.int .i64 1, .int .i64 (n : Int), .string ⟨#[]⟩, .slice none 0 0])) wN := by rw [hZv.out]; exact ⟨rfl, hrN, hoN⟩
    clear hI hr2 ho12 ho3 hx2 hx3 hxN hb3 hoN hrN
    go_wp2_with fail
    exact bodyPost_ret (v := .agg #[.int .i64 1, .int .i64 (n : Int), .string ⟨#[]⟩, .slice none 0 0]) (by simp [results, Try.results78, go_sem, hlN, m0, m1, m2, m3]) rfl hpost
set_option maxRecDepth 100000 in
set_option maxHeartbeats 1000000 in
theorem readInstr_any {w : World} {r : Nat} {st : RSt} (h : RdS w r st) : Calls Try.prog 82 #[.pointer (some ⟨r, 0, none⟩)] w fun e w' => e = .returned (.agg #[.int .i64 (rdX st).1.op, .int .i64 (rdX st).1.a]) ∧ RdS w' r (rdX st).2 ∧ Only r w w' := by
  obtain ⟨w0, hW0, hb0, hl0, hx0⟩ := box2 w (.int .i64 0) (.int .i64 0) 46
  have hrl := h.lt
  have hlt0 : w.heap.size < w0.heap.size := by omega
  have hN1 := number_any (h.keep hb0)
  have hle1 := rdN_le st
  have hle2 := rdN_le (rdN st).2
  unfold rdX
  obtain ⟨k, HK⟩ : ∃ k, Hid ((rdN st).1 = k) := ⟨_, rfl⟩
  obtain ⟨n, HN⟩ : ∃ n, Hid ((rdN (rdN st).2).1 = n) := ⟨_, rfl⟩
  rw [HK.out, HN.out]
  rw [HK.out] at hN1 hle1
  rw [HN.out] at hle2
  clear h hl0
  go_enter Try.func82, Try.ntmps82
  go_wp2_with fail
  refine hN1.mono ?_
  rintro e w1 ⟨rfl, hr1, ho1⟩
  have hN2 := number_any hr1
  rw [HN.out] at hN2
  clear hN1 hr1
  go_wp2_with fail
  refine hN2.mono ?_
  rintro e w2 ⟨rfl, hr2, ho2⟩
  have ho12 : Only r w w2 := (Only.of_below hb0).trans (ho1.trans ho2)
  have hx2 := ho2.cells (Nat.lt_of_lt_of_le hlt0 ho1.size) (by omega) (ho1.cells hlt0 (by omega) hx0)
  obtain ⟨s0, s1, t0, t1, hl2⟩ := cells_k2 hx2
  obtain ⟨wN, hWN, hxN, hoN, hrN⟩ := resI hx2 ho12 hr2 hrl (.int .i64 (k : Int)) (.int .i64 (n : Int))
  obtain ⟨m0, m1, -, -, hlN⟩ := cells_k2 hxN
  clear hN2 ho1 ho2 hx0 hW0 ho12 hx2 hr2 hxN
  go_wp2_with fail
  exact bodyPost_ret (v := .agg #[.int .i64 (k : Int), .int .i64 (n : Int)]) (by simp [results, Try.results82, go_sem, hlN, m0, m1]) rfl ⟨rfl, hrN, hoN⟩
end Go.Proofs.Ytndahpcjkcihlaa
/- A constant read: the program's. -/
namespace Go.Proofs.Ytndahpcjkcihlaa
open Go.RowKit
set_option linter.unusedVariables false
set_option linter.unusedSimpArgs false
attribute [local go_sem ↓] Go.wp_at_zero Go.wp_at_succ

theorem rdC_one {st : RSt} (h : (rdN st).1 = 1) : rdC st = (.mk 1 (rdZ (rdN st).2).1 [] [], (rdZ (rdN st).2).2) := by
  rw [rdC_eq, if_pos h]; rfl
theorem rdC_three {st : RSt} (h : (rdN st).1 = 3) : rdC st = (.mk 3 0 (rdB (rdN (rdN st).2).1 (rdN (rdN st).2).2).1 [], (rdB (rdN (rdN st).2).1 (rdN (rdN st).2).2).2) := by
  rw [rdC_eq, if_neg (by omega), if_pos h]
theorem rdC_else {st : RSt} (h1 : (rdN st).1 ≠ 1) (h3 : (rdN st).1 ≠ 3) : rdC st = (.mk (rdN st).1 (rdN (rdN st).2).1 [] [], (rdN (rdN st).2).2) := by
  rw [rdC_eq, if_neg h1, if_neg h3]
set_option maxRecDepth 100000 in
set_option maxHeartbeats 2000000 in
theorem readConst_any {w : World} {r : Nat} {st : RSt} (h : RdS w r st) (hlf : lft st ≤ 1000000) : Calls Try.prog 50 #[.pointer (some ⟨r, 0, none⟩)] w fun e w' => CPost w r (rdC st) e w' := by
  obtain ⟨w0, hW0, hb0, hl0, hx0⟩ := box4z w
  have hrl := h.lt
  have hN1 := number_any (h.keep hb0)
  have hle1 := rdN_le st
  have hlf1 : lft (rdN st).2 ≤ 1000000 := Nat.le_trans (rdN_lft _) hlf
  have hlf2 : lft (rdN (rdN st).2).2 ≤ 1000000 := Nat.le_trans (rdN_lft _) hlf1
  have hle2 := rdN_le (rdN st).2
  obtain ⟨X, HX⟩ : ∃ X, Hid (rdC st = X) := ⟨_, rfl⟩
  rw [HX.out]
  have h1 : Hid ((rdN st).1 = 1 → X = (.mk 1 (rdZ (rdN st).2).1 [] [], (rdZ (rdN st).2).2)) := fun h => by rw [← HX.out]; exact rdC_one h
  have h3 : Hid ((rdN st).1 = 3 → X = (.mk 3 0 (rdB (rdN (rdN st).2).1 (rdN (rdN st).2).2).1 [], (rdB (rdN (rdN st).2).1 (rdN (rdN st).2).2).2)) := fun h => by rw [← HX.out]; exact rdC_three h
  have h5 : Hid ((rdN st).1 ≠ 1 → (rdN st).1 ≠ 3 → X = (.mk (rdN st).1 (rdN (rdN st).2).1 [] [], (rdN (rdN st).2).2)) := fun h h' => by rw [← HX.out]; exact rdC_else h h'
  clear HX hlf h hlf1
  generalize rdN st = q1 at *
  obtain ⟨k, st1⟩ := q1
  simp only at *
  have hZ : ∀ w', RdS w' r st1 → Calls Try.prog 78 #[.pointer (some ⟨r, 0, none⟩)] w' fun e w'' => e = .returned (.agg #[.int .i64 1, .int .i64 (rdZ st1).1, .string ⟨#[]⟩, .slice none 0 0]) ∧ RdS w'' r (rdZ st1).2 ∧ Only r w' w'' := fun w' h => (lreadInt_any h).mono fun e w'' hp => ⟨hp.1, hp.2.1, hp.2.2⟩
  go_enter Try.func50, Try.ntmps50
  go_wp2_with fail
  refine hN1.mono ?_
  rintro e w1 ⟨rfl, hr1, ho1⟩
  have ho01 : Only r w w1 := (Only.of_below hb0).trans ho1
  have hx1 := ho1.cells hl0 (by omega) hx0
  have hl1 : w.heap.size < w1.heap.size := (Array.getElem?_eq_some_iff.1 hx1).1
  clear hN1 hW0 hx0 ho1
  by_cases hk1 : k = 1
  · have hv := h1.out hk1
    subst hk1
    have hR := hZ w1 hr1
    clear h1 h3 h5 hZ hr1
    generalize rdZ st1 = Z at *
    go_wp2_with fail
    refine hR.mono ?_
    rintro e w2 ⟨rfl, hr2, ho2⟩
    have hx2 := ho2.cells hl1 (by omega) hx1
    have ho02 := ho01.trans ho2
    obtain ⟨s0, s1, s2, s3, t0, t1, t2, t3⟩ := cells_of4 hx2
    obtain ⟨wN, hWN, hxN, hoN, hrN⟩ := resV hx2 ho02 hr2 hrl (.int .i64 1) (.int .i64 Z.1) (.string ⟨#[]⟩) (.slice none 0 0)
    obtain ⟨m0, m1, m2, m3, -⟩ := cells_of4 hxN
    have hlN : w.heap.size < wN.heap.size := (Array.getElem?_eq_some_iff.1 hxN).1
    have hl2 : w.heap.size < w2.heap.size := (Array.getElem?_eq_some_iff.1 hx2).1
    have hpost : CPost w r X (.returned (.agg #[.int .i64 1, .int .i64 Z.1, .string ⟨#[]⟩, .slice none 0 0])) wN := by rw [hv]; exact ⟨rfl, hrN, hoN⟩
    clear hR hr2 ho2 ho02 hx1 hx2 hxN hoN hrN hv
    go_wp2_with fail
    exact bodyPost_ret (v := .agg #[.int .i64 1, .int .i64 Z.1, .string ⟨#[]⟩, .slice none 0 0]) (by simp [results, Try.results50, go_sem, hlN, m0, m1, m2, m3]) rfl hpost
  have hkb1 : ((k : Int) == 1) = false := by rw [beq_eq_false_iff_ne]; omega
  have hN2 := number_any hr1
  by_cases hk3 : k = 3
  · have hv : Hid (X = _) := h3.out hk3
    have hkb3 : ((k : Int) == 3) = true := by rw [hk3]; rfl
    clear h1 h3 h5 hZ hr1 hk1 hk3
    generalize rdN st1 = q2 at *
    obtain ⟨n, st2⟩ := q2
    simp only at *
    go_wp2_with fail
    refine hN2.mono ?_
    rintro e w2 ⟨rfl, hr2, ho2⟩
    have hx2 := ho2.cells hl1 (by omega) hx1
    have ho02 := ho01.trans ho2
    have hl2 : w.heap.size < w2.heap.size := (Array.getElem?_eq_some_iff.1 hx2).1
    have hBy := bytesR_any hr2 n hlf2
    have hbl := rdB_len n st2
    have hbll : (rdB n st2).1.length ≤ 1000000 := by
      rcases st2 with _ | bs
      · simp [rdB]
      · have h9 : (rdB n (some bs)).1.length ≤ bs.length := by
          unfold rdB
          split
          · simp
          · rename_i e
            cases e
            split
            · simp
            · simp; omega
        have : bs.length ≤ 1000000 := hlf2
        omega
    generalize rdB n st2 = q3 at *
    clear hN2 hr2 ho2 hx1 ho01
    go_wp2_with fail
    refine hBy.mono ?_
    rintro e w3 ⟨⟨sl3, rfl, hsl3⟩, hr3, ho3⟩
    have hx3 := ho3.cells hl2 (by omega) hx2
    have ho03 := ho02.trans ho3
    have hcv := str_b hsl3
    have hT := text_any q3.1 (by omega) w3
    obtain ⟨a3, c3, rfl, -, -⟩ := hsl3.slice
    clear hBy hsl3 ho3 hx2 ho02
    go_wp2_with fail
    refine hT.mono ?_
    rintro e w4 ⟨rfl, hb4⟩
    have hx4 := (hb4.block _ (Array.getElem?_eq_some_iff.1 hx3).1).trans hx3
    have ho04 := ho03.trans (Only.of_below hb4)
    obtain ⟨s0, s1, s2, s3, t0, t1, t2, t3⟩ := cells_of4 hx4
    obtain ⟨wN, hWN, hxN, hoN, hrN⟩ := resV hx4 ho04 (hr3.keep hb4) hrl (.int .i64 3) (.int .i64 0) (.string ⟨q3.1.toArray⟩) (.slice none 0 0)
    obtain ⟨m0, m1, m2, m3, -⟩ := cells_of4 hxN
    have hlN : w.heap.size < wN.heap.size := (Array.getElem?_eq_some_iff.1 hxN).1
    have hl4 : w.heap.size < w4.heap.size := (Array.getElem?_eq_some_iff.1 hx4).1
    have hpost : CPost w r X (.returned (.agg #[.int .i64 3, .int .i64 0, .string ⟨q3.1.toArray⟩, .slice none 0 0])) wN := by rw [hv.out]; exact ⟨rfl, hrN, hoN⟩
    clear hT hr3 ho03 ho04 hx3 hx4 hxN hoN hrN hv hcv hb4
    go_wp2_with fail
    exact bodyPost_ret (v := .agg #[.int .i64 3, .int .i64 0, .string ⟨q3.1.toArray⟩, .slice none 0 0]) (by simp [results, Try.results50, go_sem, hlN, m0, m1, m2, m3]) rfl hpost
  · have hv : Hid (X = _) := h5.out hk1 hk3
    have hkb3 : ((k : Int) == 3) = false := by rw [beq_eq_false_iff_ne]; omega
    clear h1 h3 h5 hZ hr1 hk1 hk3
    generalize rdN st1 = q2 at *
    obtain ⟨n, st2⟩ := q2
    simp only at *
    go_wp2_with fail
    refine hN2.mono ?_
    rintro e w2 ⟨rfl, hr2, ho2⟩
    have hx2 := ho2.cells hl1 (by omega) hx1
    have ho02 := ho01.trans ho2
    have hl2 : w.heap.size < w2.heap.size := (Array.getElem?_eq_some_iff.1 hx2).1
    obtain ⟨s0, s1, s2, s3, t0, t1, t2, t3⟩ := cells_of4 hx2
    obtain ⟨wN, hWN, hxN, hoN, hrN⟩ := resV hx2 ho02 hr2 hrl (.int .i64 k) (.int .i64 n) (.string ⟨#[]⟩) (.slice none 0 0)
    obtain ⟨m0, m1, m2, m3, -⟩ := cells_of4 hxN
    have hlN : w.heap.size < wN.heap.size := (Array.getElem?_eq_some_iff.1 hxN).1
    have hpost : CPost w r X (.returned (.agg #[.int .i64 k, .int .i64 n, .string ⟨#[]⟩, .slice none 0 0])) wN := by rw [hv.out]; exact ⟨rfl, hrN, hoN⟩
    clear hN2 hr2 ho2 ho02 hx1 hx2 hxN hoN hrN hv
    go_wp2_with fail
    exact bodyPost_ret (v := .agg #[.int .i64 k, .int .i64 n, .string ⟨#[]⟩, .slice none 0 0]) (by simp [results, Try.results50, go_sem, hlN, m0, m1, m2, m3]) rfl hpost
end Go.Proofs.Ytndahpcjkcihlaa
