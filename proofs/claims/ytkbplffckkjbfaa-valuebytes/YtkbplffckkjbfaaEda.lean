/- Values read: the document's, those with nothing within. -/
import Derived.Test.YtkbplffckkjbfaaEa
import Derived.Test.YtkbplffckkjbfaaRk
import Derived.Test.YtkbplffckkjbfaaDvba
import Derived.Test.YtkbplffckkjbfaaDva
import Derived.Test.YtkbplffckkjbfaaRo3
namespace Go.Proofs.Ytkbplffckkjbfaa
open Go.RowKit
set_option linter.unusedVariables false
set_option linter.unusedSimpArgs false

/-- It answers the value that is read, in new memory, if none was bad; of what there was only the reader is turned. -/
def RdPost (T : Ty) (w : World) (r : Nat) (st : RSt) (e : Ending) (w' : World) : Prop := (∃ (v : V) (ao : Option Addr) (cap : Nat), e = .returned (.agg #[.int .i64 v.k, .int .i64 v.n, .string ⟨v.t.toArray⟩, .slice ao v.l.length cap]) ∧ IsW (From w.heap.size) w' v (.slice ao v.l.length cap) ∧ ((rdV T st).2 ≠ none → v = (rdV T st).1)) ∧ RdD w' r (rdV T st).2 ∧ Only r w w'
def RdOk (T : Ty) : Prop := ∀ (w : World) (r : Nat) (st : RSt), RdD w r st → lft st ≤ 1000000 → Calls Try.prog 71 #[.pointer (some ⟨r, 0, none⟩), .string ⟨(tyT T).toArray⟩] w fun e w' => RdPost T w r st e w'
theorem rdU_gt {lim : Nat} {st : RSt} (h : lim < (rdN st).1) : rdU lim st = (0, none) := by unfold rdU; rw [if_pos h]
theorem rdU_ok {lim : Nat} {st : RSt} (h : ¬ lim < (rdN st).1) : rdU lim st = rdN st := by unfold rdU; rw [if_neg h]
theorem rdN_none : rdN none = (0, none) := rfl
set_option maxRecDepth 100000 in
set_option maxHeartbeats 2000000 in
theorem rread_int : RdOk .int := by
  intro w r st h hlft
  have hZ := rzero_any (tyT .int) (by decide)
  have hkd : kdOf (tyT .int) = 1 := by unfold kdOf; rw [tyOf_ty (by decide)]; rfl
  rw [hkd] at hZ
  clear hkd
  have hrl := h.lt
  obtain ⟨w0, hW, hb0, hs0, hr⟩ := rbox w
  generalize hty : tyT .int = ty at *
  clear hty hr
  go_enter Try.func71, Try.ntmps71
  go_wp2_with fail
  refine (hZ _).mono ?_
  rintro e w1 ⟨rfl, hb1⟩
  clear hZ
  obtain ⟨wz, w4, hWz, hW4, hb14, hs4, hsz, hblk4, ⟨y0, y1, y2, y3⟩, ⟨z0, z1, z2, z3⟩⟩ := rdbox w1 (.int .i64 1) (.int .i64 0) (.string ⟨#[]⟩) (.slice none 0 0)
  have hs1 := hb1.size
  have hb4 : Below w.heap.size w w4 := hb0.trans ((hb1.mono (by omega)).trans (hb14.mono (by omega)))
  have hbR4 : w4.heap[w.heap.size]? = some (.cells #[.int .i64 0, .int .i64 0, .string ⟨#[]⟩, .slice none 0 0] 24 (0, 0)) := rbox_blk hW (hb1.trans (hb14.mono hs1))
  have hR := numD_any (h.keep hb4) hlft
  have hle1 := rdN_le st
  have hlf1 : lft (rdN st).2 ≤ 1000000 := Nat.le_trans (rdN_lft st) hlft
  obtain ⟨q0, q1, q2, q3, -⟩ := cells_of4 hblk4
  have hws : w.heap.size < w1.heap.size := by omega
  have hO4 : Only r w w4 := Only.of_below hb4
  clear h hlft
  go_wp2_with fail
  refine hR.mono ?_
  rintro e w5 ⟨rfl, hr5, ho5⟩
  clear hR q0 q1 q2 q3 y0 y1 y2 y3 z0 z1 z2 z3 hWz hW4 hW
  have hs5 := ho5.size
  have hblk5 := ho5.cells (by omega) (by omega) hblk4
  have hbR5 := ho5.cells (by omega) (by omega) hbR4
  have hO5 : Only r w w5 := hO4.trans ⟨ho5.os, ho5.tape, ho5.output, ho5.size, ho5.block⟩
  clear hblk4 hbR4 hO4 hb14 hb1 hb0 hb4 ho5
  have hR := numD_any hr5 hlf1
  have hle2 := rdN_le (rdN st).2
  go_wp2_with fail
  refine hR.mono ?_
  rintro e w6 ⟨rfl, hr6, ho6⟩
  clear hR hr5
  have hs6 := ho6.size
  have hblk6 := ho6.cells (by omega) (by omega) hblk5
  have hbR6 := ho6.cells (by omega) (by omega) hbR5
  have hO6 : Only r w w6 := hO5.trans ho6
  clear hblk5 hbR5 hO5 ho6
  have hV : Hid ((rdV .int st) = (.mk 1 (rdI st).1 [] [], (rdI st).2)) := rfl
  have hI : Hid (rdI st = (if (rdU 1 st).1 = 1 then -((rdN (rdU 1 st).2).1 : Int) - 1 else (rdN (rdU 1 st).2).1, (rdN (rdU 1 st).2).2)) := rfl
  by_cases h1 : 1 < (rdN st).1
  · have hst : Hid ((rdV .int st).2 = none) := by show _ = _; rw [hV.out, hI.out, rdU_gt h1]; rfl
    have h1I : (1 : Int) < ((rdN st).1 : Int) := by omega
    have h1b : (((rdN st).1 : Int) == 1) = false := by simp; omega
    generalize (rdN st).1 = a at *
    generalize rdN (rdN st).2 = p at *
    clear hV hI
    -- bad
    obtain ⟨ra, rn, rc, g0, g1, g2, g3, g4, -, -⟩ := hr6.cells
    obtain ⟨hrB, hoB⟩ := hr6.bad
    obtain ⟨wB, hWB⟩ : ∃ wB, w6.setCell ⟨r, 1, none⟩ (.bool true) = wB := ⟨_, rfl⟩
    rw [hWB] at hrB hoB
    have hsB := hoB.size
    have hblkB : wB.heap[w1.heap.size]? = _ := (hoB.block _ (by omega) (by omega)).trans hblk6
    have hbRB : wB.heap[w.heap.size]? = _ := (hoB.block _ (by omega) (by omega)).trans hbR6
    obtain ⟨v0, v1, v2, v3, u0, u1, u2, u3⟩ := cells_of4 hblkB
    obtain ⟨w7, hW7⟩ : ∃ w7, wB.setCell ⟨w1.heap.size, 1, none⟩ (.int .i64 (p.1 : Nat)) = w7 := ⟨_, rfl⟩
    have hblkF : w7.heap[w1.heap.size]? = some (.cells #[.int .i64 1, .int .i64 (p.1 : Nat), .string ⟨#[]⟩, .slice none 0 0] 24 (0, 0)) := by rw [← hW7]; exact set_1 hblkB _
    have hbRF : w7.heap[w.heap.size]? = some (.cells #[.int .i64 0, .int .i64 0, .string ⟨#[]⟩, .slice none 0 0] 24 (0, 0)) := by rw [← hW7, Below.heap_setCell _ _ _ _ (by show w.heap.size ≠ w1.heap.size; omega)]; exact hbRB
    have hrF : RdD w7 r none := by rw [← hW7]; exact hrB.setCell (by omega) _ _
    have hOF : Only r w w7 := by rw [← hW7]; exact (hO6.trans hoB).setCell (by omega) _ _
    have hb1 : w1.heap.size < wB.heap.size := (Array.getElem?_eq_some_iff.1 hblkB).1
    obtain ⟨m0, m1, m2, m3, -⟩ := cells_of4 hblkF
    obtain ⟨s0, s1, s2, s3, t0, t1, t2, t3⟩ := cells_of4 hbRF
    have hz : w.heap.size < w7.heap.size := (Array.getElem?_eq_some_iff.1 hbRF).1
    have hfin : RdPost .int w r st (.returned (.agg #[.int .i64 1, .int .i64 (p.1 : Nat), .string ⟨#[]⟩, .slice none 0 0])) (set4 w7 w.heap.size (.int .i64 1) (.int .i64 (p.1 : Nat)) (.string ⟨#[]⟩) (.slice none 0 0)) := by
      unfold RdPost
      rw [hst.out]
      exact ⟨⟨.mk 1 (p.1 : Nat) [] [], none, 0, rfl, ⟨Nat.zero_le _, by show InR 1; constructor <;> decide, (by show InR ((p.1 : Nat) : Int); unfold InR; omega), IsVs.nil⟩, fun h => absurd rfl h⟩, hrF.set4 hrl _ _ _ _, hOF.set4 (Nat.le_refl _) _ _ _ _⟩
    clear hst hrF hOF hr6 hO6 hrB hoB
    go_wp2_with fail
    exact bodyPost_ret (v := .agg #[.int .i64 1, .int .i64 (p.1 : Nat), .string ⟨#[]⟩, .slice none 0 0]) (by simp [results, Try.results71, go_sem, hz, s0, s1, s2, s3]) rfl hfin
  by_cases h1e : (rdN st).1 = 1
  · have hu := rdU_ok h1
    have h1I : ¬ (1 : Int) < ((rdN st).1 : Int) := by omega
    have h1b : (((rdN st).1 : Int) == 1) = true := by simp [h1e]
    have hst : Hid ((rdV .int st) = (.mk 1 (-((rdN (rdN st).2).1 : Int) - 1) [] [], (rdN (rdN st).2).2)) := by show _ = _; rw [hV.out, hI.out, hu, if_pos h1e]
    clear h1e h1 hu
    generalize (rdN st).1 = a at *
    generalize rdN (rdN st).2 = p at *
    clear hV hI
    have hw1 : IntKind.i64.wrap (-(p.1 : Int)) = -(p.1 : Int) := by rw [IntKind.wrap_i64]; omega
    have hw2 : IntKind.i64.wrap (-(p.1 : Int) - 1) = -(p.1 : Int) - 1 := by rw [IntKind.wrap_i64]; omega
    obtain ⟨v0, v1, v2, v3, u0, u1, u2, u3⟩ := cells_of4 hblk6
    obtain ⟨w7, hW7⟩ : ∃ w7, w6.setCell ⟨w1.heap.size, 1, none⟩ (.int .i64 (-(p.1 : Int) - 1)) = w7 := ⟨_, rfl⟩
    have hblkF : w7.heap[w1.heap.size]? = some (.cells #[.int .i64 1, .int .i64 (-(p.1 : Int) - 1), .string ⟨#[]⟩, .slice none 0 0] 24 (0, 0)) := by rw [← hW7]; exact set_1 hblk6 _
    have hbRF : w7.heap[w.heap.size]? = some (.cells #[.int .i64 0, .int .i64 0, .string ⟨#[]⟩, .slice none 0 0] 24 (0, 0)) := by rw [← hW7, Below.heap_setCell _ _ _ _ (by show w.heap.size ≠ w1.heap.size; omega)]; exact hbR6
    have hrF : RdD w7 r p.2 := by rw [← hW7]; exact hr6.setCell (by omega) _ _
    have hOF : Only r w w7 := by rw [← hW7]; exact hO6.setCell (by omega) _ _
    have hb1 : w1.heap.size < w6.heap.size := (Array.getElem?_eq_some_iff.1 hblk6).1
    obtain ⟨m0, m1, m2, m3, -⟩ := cells_of4 hblkF
    obtain ⟨s0, s1, s2, s3, t0, t1, t2, t3⟩ := cells_of4 hbRF
    have hz : w.heap.size < w7.heap.size := (Array.getElem?_eq_some_iff.1 hbRF).1
    have hfin : RdPost .int w r st (.returned (.agg #[.int .i64 1, .int .i64 (-(p.1 : Int) - 1), .string ⟨#[]⟩, .slice none 0 0])) (set4 w7 w.heap.size (.int .i64 1) (.int .i64 (-(p.1 : Int) - 1)) (.string ⟨#[]⟩) (.slice none 0 0)) := by
      unfold RdPost
      rw [hst.out]
      exact ⟨⟨.mk 1 (-(p.1 : Int) - 1) [] [], none, 0, rfl, ⟨Nat.zero_le _, by show InR 1; constructor <;> decide, (by show InR ((-(p.1 : Int) - 1) : Int); unfold InR; omega), IsVs.nil⟩, fun _ => rfl⟩, hrF.set4 hrl _ _ _ _, hOF.set4 (Nat.le_refl _) _ _ _ _⟩
    clear hst hrF hOF hr6 hO6
    go_wp2_with fail
    exact bodyPost_ret (v := .agg #[.int .i64 1, .int .i64 (-(p.1 : Int) - 1), .string ⟨#[]⟩, .slice none 0 0]) (by simp [results, Try.results71, go_sem, hz, s0, s1, s2, s3]) rfl hfin
  · have hu := rdU_ok h1
    have h1I : ¬ (1 : Int) < ((rdN st).1 : Int) := by omega
    have h1b : (((rdN st).1 : Int) == 1) = false := by simp; omega
    have hst : Hid ((rdV .int st) = (.mk 1 ((rdN (rdN st).2).1 : Nat) [] [], (rdN (rdN st).2).2)) := by show _ = _; rw [hV.out, hI.out, hu, if_neg h1e]
    clear h1e h1 hu
    generalize (rdN st).1 = a at *
    generalize rdN (rdN st).2 = p at *
    clear hV hI
    have hw1 : IntKind.i64.wrap (-(p.1 : Int)) = -(p.1 : Int) := by rw [IntKind.wrap_i64]; omega
    have hw2 : IntKind.i64.wrap (-(p.1 : Int) - 1) = -(p.1 : Int) - 1 := by rw [IntKind.wrap_i64]; omega
    obtain ⟨v0, v1, v2, v3, u0, u1, u2, u3⟩ := cells_of4 hblk6
    obtain ⟨w7, hW7⟩ : ∃ w7, w6.setCell ⟨w1.heap.size, 1, none⟩ (.int .i64 (p.1 : Nat)) = w7 := ⟨_, rfl⟩
    have hblkF : w7.heap[w1.heap.size]? = some (.cells #[.int .i64 1, .int .i64 (p.1 : Nat), .string ⟨#[]⟩, .slice none 0 0] 24 (0, 0)) := by rw [← hW7]; exact set_1 hblk6 _
    have hbRF : w7.heap[w.heap.size]? = some (.cells #[.int .i64 0, .int .i64 0, .string ⟨#[]⟩, .slice none 0 0] 24 (0, 0)) := by rw [← hW7, Below.heap_setCell _ _ _ _ (by show w.heap.size ≠ w1.heap.size; omega)]; exact hbR6
    have hrF : RdD w7 r p.2 := by rw [← hW7]; exact hr6.setCell (by omega) _ _
    have hOF : Only r w w7 := by rw [← hW7]; exact hO6.setCell (by omega) _ _
    have hb1 : w1.heap.size < w6.heap.size := (Array.getElem?_eq_some_iff.1 hblk6).1
    obtain ⟨m0, m1, m2, m3, -⟩ := cells_of4 hblkF
    obtain ⟨s0, s1, s2, s3, t0, t1, t2, t3⟩ := cells_of4 hbRF
    have hz : w.heap.size < w7.heap.size := (Array.getElem?_eq_some_iff.1 hbRF).1
    have hfin : RdPost .int w r st (.returned (.agg #[.int .i64 1, .int .i64 (p.1 : Nat), .string ⟨#[]⟩, .slice none 0 0])) (set4 w7 w.heap.size (.int .i64 1) (.int .i64 (p.1 : Nat)) (.string ⟨#[]⟩) (.slice none 0 0)) := by
      unfold RdPost
      rw [hst.out]
      exact ⟨⟨.mk 1 (p.1 : Nat) [] [], none, 0, rfl, ⟨Nat.zero_le _, by show InR 1; constructor <;> decide, (by show InR ((p.1 : Nat) : Int); unfold InR; omega), IsVs.nil⟩, fun _ => rfl⟩, hrF.set4 hrl _ _ _ _, hOF.set4 (Nat.le_refl _) _ _ _ _⟩
    clear hst hrF hOF hr6 hO6
    go_wp2_with fail
    exact bodyPost_ret (v := .agg #[.int .i64 1, .int .i64 (p.1 : Nat), .string ⟨#[]⟩, .slice none 0 0]) (by simp [results, Try.results71, go_sem, hz, s0, s1, s2, s3]) rfl hfin
set_option maxRecDepth 100000 in
set_option maxHeartbeats 2000000 in
theorem rread_bool : RdOk .bool := by
  intro w r st h hlft
  have hZ := rzero_any (tyT .bool) (by decide)
  have hkd : kdOf (tyT .bool) = 2 := by unfold kdOf; rw [tyOf_ty (by decide)]; rfl
  rw [hkd] at hZ
  clear hkd
  have hrl := h.lt
  obtain ⟨w0, hW, hb0, hs0, hr⟩ := rbox w
  generalize hty : tyT .bool = ty at *
  clear hty hr
  go_enter Try.func71, Try.ntmps71
  go_wp2_with fail
  refine (hZ _).mono ?_
  rintro e w1 ⟨rfl, hb1⟩
  clear hZ
  obtain ⟨wz, w4, hWz, hW4, hb14, hs4, hsz, hblk4, ⟨y0, y1, y2, y3⟩, ⟨z0, z1, z2, z3⟩⟩ := rdbox w1 (.int .i64 2) (.int .i64 0) (.string ⟨#[]⟩) (.slice none 0 0)
  have hs1 := hb1.size
  have hb4 : Below w.heap.size w w4 := hb0.trans ((hb1.mono (by omega)).trans (hb14.mono (by omega)))
  have hbR4 : w4.heap[w.heap.size]? = some (.cells #[.int .i64 0, .int .i64 0, .string ⟨#[]⟩, .slice none 0 0] 24 (0, 0)) := rbox_blk hW (hb1.trans (hb14.mono hs1))
  have hR := numD_any (h.keep hb4) hlft
  have hle1 := rdN_le st
  have hlf1 : lft (rdN st).2 ≤ 1000000 := Nat.le_trans (rdN_lft st) hlft
  obtain ⟨q0, q1, q2, q3, -⟩ := cells_of4 hblk4
  have hws : w.heap.size < w1.heap.size := by omega
  have hO4 : Only r w w4 := Only.of_below hb4
  clear h hlft
  go_wp2_with fail
  refine hR.mono ?_
  rintro e w5 ⟨rfl, hr5, ho5⟩
  clear hR q0 q1 q2 q3 y0 y1 y2 y3 z0 z1 z2 z3 hWz hW4 hW
  have hs5 := ho5.size
  have hblk5 := ho5.cells (by omega) (by omega) hblk4
  have hbR5 := ho5.cells (by omega) (by omega) hbR4
  have hO5 : Only r w w5 := hO4.trans ⟨ho5.os, ho5.tape, ho5.output, ho5.size, ho5.block⟩
  clear hblk4 hbR4 hO4 hb14 hb1 hb0 hb4 ho5
  have hV : Hid ((rdV .bool st) = (.mk 2 (rdU 1 st).1 [] [], (rdU 1 st).2)) := rfl
  have hS : Hid (¬ 1 < (rdN st).1 → rdV .bool st = (.mk 2 ((rdN st).1 : Nat) [] [], (rdN st).2)) := fun h => by rw [hV.out, rdU_ok h]
  have hN : Hid (1 < (rdN st).1 → (rdV .bool st).2 = none) := fun h => by rw [hV.out, rdU_gt h]
  generalize rdN st = p at *
  obtain ⟨v0, v1, v2, v3, u0, u1, u2, u3⟩ := cells_of4 hblk5
  obtain ⟨w6, hW6⟩ : ∃ w6, w5.setCell ⟨w1.heap.size, 1, none⟩ (.int .i64 (p.1 : Nat)) = w6 := ⟨_, rfl⟩
  have hblk6 : w6.heap[w1.heap.size]? = some (.cells #[.int .i64 2, .int .i64 (p.1 : Nat), .string ⟨#[]⟩, .slice none 0 0] 24 (0, 0)) := by rw [← hW6]; exact set_1 hblk5 _
  have hbR6 : w6.heap[w.heap.size]? = some (.cells #[.int .i64 0, .int .i64 0, .string ⟨#[]⟩, .slice none 0 0] 24 (0, 0)) := by rw [← hW6, Below.heap_setCell _ _ _ _ (by show w.heap.size ≠ w1.heap.size; omega)]; exact hbR5
  have hr6 : RdD w6 r p.2 := by rw [← hW6]; exact hr5.setCell (by omega) _ _
  have hO6 : Only r w w6 := by rw [← hW6]; exact hO5.setCell (by omega) _ _
  have hs6 : w1.heap.size < w6.heap.size := (Array.getElem?_eq_some_iff.1 hblk6).1
  have hs5' : w1.heap.size < w5.heap.size := (Array.getElem?_eq_some_iff.1 hblk5).1
  obtain ⟨n0, n1, n2, n3, -⟩ := cells_of4 hblk6
  clear hV hr5 hO5 hblk5 hbR5
  by_cases h1 : 1 < p.1
  · have h1I : (1 : Int) < (p.1 : Int) := by omega
    have hst : Hid ((rdV .bool st).2 = none) := hN.out h1
    -- bad
    obtain ⟨ra, rn, rc, g0, g1, g2, g3, g4, -, -⟩ := hr6.cells
    obtain ⟨hrB, hoB⟩ := hr6.bad
    obtain ⟨wB, hWB⟩ : ∃ wB, w6.setCell ⟨r, 1, none⟩ (.bool true) = wB := ⟨_, rfl⟩
    rw [hWB] at hrB hoB
    have hsB := hoB.size
    have hblkF : wB.heap[w1.heap.size]? = some (.cells #[.int .i64 2, .int .i64 (p.1 : Nat), .string ⟨#[]⟩, .slice none 0 0] 24 (0, 0)) := (hoB.block _ (by omega) (by omega)).trans hblk6
    have hbRF : wB.heap[w.heap.size]? = some (.cells #[.int .i64 0, .int .i64 0, .string ⟨#[]⟩, .slice none 0 0] 24 (0, 0)) := (hoB.block _ (by omega) (by omega)).trans hbR6
    have hrF : RdD wB r none := hrB
    have hOF : Only r w wB := hO6.trans hoB
    obtain ⟨m0, m1, m2, m3, -⟩ := cells_of4 hblkF
    obtain ⟨s0, s1, s2, s3, t0, t1, t2, t3⟩ := cells_of4 hbRF
    have hz : w.heap.size < wB.heap.size := (Array.getElem?_eq_some_iff.1 hbRF).1
    have hfin : RdPost .bool w r st (.returned (.agg #[.int .i64 2, .int .i64 (p.1 : Nat), .string ⟨#[]⟩, .slice none 0 0])) (set4 wB w.heap.size (.int .i64 2) (.int .i64 (p.1 : Nat)) (.string ⟨#[]⟩) (.slice none 0 0)) := by
      unfold RdPost
      rw [hst.out]
      exact ⟨⟨.mk 2 (p.1 : Nat) [] [], none, 0, rfl, ⟨Nat.zero_le _, by show InR 2; constructor <;> decide, (by show InR ((p.1 : Nat) : Int); unfold InR; omega), IsVs.nil⟩, fun h => absurd rfl h⟩, hrF.set4 hrl _ _ _ _, hOF.set4 (Nat.le_refl _) _ _ _ _⟩
    clear hst hrF hOF hr6 hO6 hrB hoB hS hN
    go_wp2_with fail
    exact bodyPost_ret (v := .agg #[.int .i64 2, .int .i64 (p.1 : Nat), .string ⟨#[]⟩, .slice none 0 0]) (by simp [results, Try.results71, go_sem, hz, s0, s1, s2, s3]) rfl hfin
  · have h1I : ¬ (1 : Int) < (p.1 : Int) := by omega
    have hst : Hid (rdV .bool st = (.mk 2 (p.1 : Nat) [] [], p.2)) := hS.out h1
    have hblkF := hblk6
    have hbRF := hbR6
    have hrF := hr6
    have hOF := hO6
    obtain ⟨m0, m1, m2, m3, -⟩ := cells_of4 hblkF
    obtain ⟨s0, s1, s2, s3, t0, t1, t2, t3⟩ := cells_of4 hbRF
    have hz : w.heap.size < w6.heap.size := (Array.getElem?_eq_some_iff.1 hbRF).1
    have hfin : RdPost .bool w r st (.returned (.agg #[.int .i64 2, .int .i64 (p.1 : Nat), .string ⟨#[]⟩, .slice none 0 0])) (set4 w6 w.heap.size (.int .i64 2) (.int .i64 (p.1 : Nat)) (.string ⟨#[]⟩) (.slice none 0 0)) := by
      unfold RdPost
      rw [hst.out]
      exact ⟨⟨.mk 2 (p.1 : Nat) [] [], none, 0, rfl, ⟨Nat.zero_le _, by show InR 2; constructor <;> decide, (by show InR ((p.1 : Nat) : Int); unfold InR; omega), IsVs.nil⟩, fun _ => rfl⟩, hrF.set4 hrl _ _ _ _, hOF.set4 (Nat.le_refl _) _ _ _ _⟩
    clear hst hrF hOF hr6 hO6 hS hN
    go_wp2_with fail
    exact bodyPost_ret (v := .agg #[.int .i64 2, .int .i64 (p.1 : Nat), .string ⟨#[]⟩, .slice none 0 0]) (by simp [results, Try.results71, go_sem, hz, s0, s1, s2, s3]) rfl hfin
set_option maxRecDepth 100000 in
set_option maxHeartbeats 2000000 in
theorem rread_text : RdOk .text := by
  intro w r st h hlft
  have hZ := rzero_any (tyT .text) (by decide)
  have hkd : kdOf (tyT .text) = 3 := by unfold kdOf; rw [tyOf_ty (by decide)]; rfl
  rw [hkd] at hZ
  clear hkd
  have hrl := h.lt
  obtain ⟨w0, hW, hb0, hs0, hr⟩ := rbox w
  generalize hty : tyT .text = ty at *
  clear hty hr
  go_enter Try.func71, Try.ntmps71
  go_wp2_with fail
  refine (hZ _).mono ?_
  rintro e w1 ⟨rfl, hb1⟩
  clear hZ
  obtain ⟨wz, w4, hWz, hW4, hb14, hs4, hsz, hblk4, ⟨y0, y1, y2, y3⟩, ⟨z0, z1, z2, z3⟩⟩ := rdbox w1 (.int .i64 3) (.int .i64 0) (.string ⟨#[]⟩) (.slice none 0 0)
  have hs1 := hb1.size
  have hb4 : Below w.heap.size w w4 := hb0.trans ((hb1.mono (by omega)).trans (hb14.mono (by omega)))
  have hbR4 : w4.heap[w.heap.size]? = some (.cells #[.int .i64 0, .int .i64 0, .string ⟨#[]⟩, .slice none 0 0] 24 (0, 0)) := rbox_blk hW (hb1.trans (hb14.mono hs1))
  have hR := numD_any (h.keep hb4) hlft
  have hle1 := rdN_le st
  have hlf1 : lft (rdN st).2 ≤ 1000000 := Nat.le_trans (rdN_lft st) hlft
  obtain ⟨q0, q1, q2, q3, -⟩ := cells_of4 hblk4
  have hws : w.heap.size < w1.heap.size := by omega
  have hO4 : Only r w w4 := Only.of_below hb4
  clear h hlft
  go_wp2_with fail
  refine hR.mono ?_
  rintro e w5 ⟨rfl, hr5, ho5⟩
  clear hR q0 q1 q2 q3 y0 y1 y2 y3 z0 z1 z2 z3 hWz hW4 hW
  have hs5 := ho5.size
  have hblk5 := ho5.cells (by omega) (by omega) hblk4
  have hbR5 := ho5.cells (by omega) (by omega) hbR4
  have hO5 : Only r w w5 := hO4.trans ⟨ho5.os, ho5.tape, ho5.output, ho5.size, ho5.block⟩
  clear hblk4 hbR4 hO4 hb14 hb1 hb0 hb4 ho5
  have hV : Hid ((rdV .text st) = (.mk 3 0 (rdB (rdU 256 st).1 (rdU 256 st).2).1 [], (rdB (rdU 256 st).1 (rdU 256 st).2).2)) := rfl
  have hS : Hid (¬ 256 < (rdN st).1 → rdV .text st = (.mk 3 0 (rdB (rdN st).1 (rdN st).2).1 [], (rdB (rdN st).1 (rdN st).2).2)) := fun h => by rw [hV.out, rdU_ok h]
  have hN : Hid (256 < (rdN st).1 → (rdV .text st).2 = none) := fun h => by rw [hV.out, rdU_gt h]; rfl
  generalize rdN st = p at *
  clear hV
  by_cases h1 : 256 < p.1
  · have h1I : (256 : Int) < (p.1 : Int) := by omega
    have hst : Hid ((rdV .text st).2 = none) := hN.out h1
    -- bad
    obtain ⟨ra, rn, rc, g0, g1, g2, g3, g4, -, -⟩ := hr5.cells
    obtain ⟨hrB, hoB⟩ := hr5.bad
    obtain ⟨wB, hWB⟩ : ∃ wB, w5.setCell ⟨r, 1, none⟩ (.bool true) = wB := ⟨_, rfl⟩
    rw [hWB] at hrB hoB
    have hsB := hoB.size
    have hblkB : wB.heap[w1.heap.size]? = some (.cells #[.int .i64 3, .int .i64 0, .string ⟨#[]⟩, .slice none 0 0] 24 (0, 0)) := (hoB.block _ (by omega) (by omega)).trans hblk5
    have hbRB : wB.heap[w.heap.size]? = some (.cells #[.int .i64 0, .int .i64 0, .string ⟨#[]⟩, .slice none 0 0] 24 (0, 0)) := (hoB.block _ (by omega) (by omega)).trans hbR5
    have hOB : Only r w wB := hO5.trans hoB
    have hBy := bytD_any hrB (n := p.1) hle1 (by simp [lft])
    have hB0 : rdB (p.1 : Nat) none = ([], none) := rfl
    rw [hB0] at hBy
    clear hr5 hO5 hoB hrB hblk5 hbR5 hS hN hB0
    go_wp2_with fail
    refine hBy.mono ?_
    rintro e w6 ⟨⟨sl6, rfl, hsl6⟩, hr6, ho6⟩
    obtain ⟨a6, c6, rfl, -, -⟩ := hsl6.slice
    have hcv : (convert 52 9 (.slice a6 0 c6)).run Try.prog w6 = .ok (.string ⟨#[]⟩) w6 := str_b hsl6
    have hs6 := ho6.size
    have hblk6 := ho6.cells (by omega) (by omega) hblkB
    have hbR6 := ho6.cells (by omega) (by omega) hbRB
    obtain ⟨v0, v1, v2, v3, u0, u1, u2, u3⟩ := cells_of4 hblk6
    obtain ⟨w7, hW7⟩ : ∃ w7, w6.setCell ⟨w1.heap.size, 2, none⟩ (.string ⟨#[]⟩) = w7 := ⟨_, rfl⟩
    have hblkF : w7.heap[w1.heap.size]? = some (.cells #[.int .i64 3, .int .i64 0, .string ⟨#[]⟩, .slice none 0 0] 24 (0, 0)) := by rw [← hW7]; exact set_2 hblk6 _
    have hbRF : w7.heap[w.heap.size]? = some (.cells #[.int .i64 0, .int .i64 0, .string ⟨#[]⟩, .slice none 0 0] 24 (0, 0)) := by rw [← hW7, Below.heap_setCell _ _ _ _ (by show w.heap.size ≠ w1.heap.size; omega)]; exact hbR6
    have hrF : RdD w7 r none := by rw [← hW7]; exact hr6.setCell (by omega) _ _
    have hOF : Only r w w7 := by rw [← hW7]; exact (hOB.trans ho6).setCell (by omega) _ _
    have hb1 : w1.heap.size < w6.heap.size := (Array.getElem?_eq_some_iff.1 hblk6).1
    clear hBy hsl6
    obtain ⟨m0, m1, m2, m3, -⟩ := cells_of4 hblkF
    obtain ⟨s0, s1, s2, s3, t0, t1, t2, t3⟩ := cells_of4 hbRF
    have hz : w.heap.size < w7.heap.size := (Array.getElem?_eq_some_iff.1 hbRF).1
    have hfin : RdPost .text w r st (.returned (.agg #[.int .i64 3, .int .i64 0, .string ⟨#[]⟩, .slice none 0 0])) (set4 w7 w.heap.size (.int .i64 3) (.int .i64 0) (.string ⟨#[]⟩) (.slice none 0 0)) := by
      unfold RdPost
      rw [hst.out]
      exact ⟨⟨.mk 3 0 ([] : List UInt8) [], none, 0, rfl, ⟨Nat.zero_le _, by show InR 3; constructor <;> decide, (by show InR 0; constructor <;> decide), IsVs.nil⟩, fun h => absurd rfl h⟩, hrF.set4 hrl _ _ _ _, hOF.set4 (Nat.le_refl _) _ _ _ _⟩
    clear hst hrF hOF hr6 hOB ho6
    go_wp2_with fail
    exact bodyPost_ret (v := .agg #[.int .i64 3, .int .i64 0, .string ⟨#[]⟩, .slice none 0 0]) (by simp [results, Try.results71, go_sem, hz, s0, s1, s2, s3]) rfl hfin
  · have h1I : ¬ (256 : Int) < (p.1 : Int) := by omega
    have hst : Hid (rdV .text st = (.mk 3 0 (rdB p.1 p.2).1 [], (rdB p.1 p.2).2)) := hS.out h1
    have hblkB := hblk5
    have hbRB := hbR5
    have hOB := hO5
    have hBy := bytD_any hr5 (n := p.1) hle1 hlf1
    have hbl : Hid ((rdB p.1 p.2).1.length ≤ maxLen) := by have h2 := rdB_len p.1 p.2; show _ ≤ _; unfold maxLen; omega
    generalize rdB (p.1 : Nat) p.2 = b at *
    clear hr5 hO5 hblk5 hbR5 hS hN
    go_wp2_with fail
    refine hBy.mono ?_
    rintro e w6 ⟨⟨sl6, rfl, hsl6⟩, hr6, ho6⟩
    obtain ⟨a6, c6, rfl, -, -⟩ := hsl6.slice
    have hcv : (convert 52 9 (.slice a6 b.1.length c6)).run Try.prog w6 = .ok (.string ⟨b.1.toArray⟩) w6 := str_b hsl6
    have hs6 := ho6.size
    have hblk6 := ho6.cells (by omega) (by omega) hblkB
    have hbR6 := ho6.cells (by omega) (by omega) hbRB
    obtain ⟨v0, v1, v2, v3, u0, u1, u2, u3⟩ := cells_of4 hblk6
    obtain ⟨w7, hW7⟩ : ∃ w7, w6.setCell ⟨w1.heap.size, 2, none⟩ (.string ⟨b.1.toArray⟩) = w7 := ⟨_, rfl⟩
    have hblkF : w7.heap[w1.heap.size]? = some (.cells #[.int .i64 3, .int .i64 0, .string ⟨b.1.toArray⟩, .slice none 0 0] 24 (0, 0)) := by rw [← hW7]; exact set_2 hblk6 _
    have hbRF : w7.heap[w.heap.size]? = some (.cells #[.int .i64 0, .int .i64 0, .string ⟨#[]⟩, .slice none 0 0] 24 (0, 0)) := by rw [← hW7, Below.heap_setCell _ _ _ _ (by show w.heap.size ≠ w1.heap.size; omega)]; exact hbR6
    have hrF : RdD w7 r b.2 := by rw [← hW7]; exact hr6.setCell (by omega) _ _
    have hOF : Only r w w7 := by rw [← hW7]; exact (hOB.trans ho6).setCell (by omega) _ _
    have hb1 : w1.heap.size < w6.heap.size := (Array.getElem?_eq_some_iff.1 hblk6).1
    clear hBy hsl6
    obtain ⟨m0, m1, m2, m3, -⟩ := cells_of4 hblkF
    obtain ⟨s0, s1, s2, s3, t0, t1, t2, t3⟩ := cells_of4 hbRF
    have hz : w.heap.size < w7.heap.size := (Array.getElem?_eq_some_iff.1 hbRF).1
    have hfin : RdPost .text w r st (.returned (.agg #[.int .i64 3, .int .i64 0, .string ⟨b.1.toArray⟩, .slice none 0 0])) (set4 w7 w.heap.size (.int .i64 3) (.int .i64 0) (.string ⟨b.1.toArray⟩) (.slice none 0 0)) := by
      unfold RdPost
      rw [hst.out]
      exact ⟨⟨.mk 3 0 b.1 [], none, 0, rfl, ⟨hbl.out, by show InR 3; constructor <;> decide, (by show InR 0; constructor <;> decide), IsVs.nil⟩, fun _ => rfl⟩, hrF.set4 hrl _ _ _ _, hOF.set4 (Nat.le_refl _) _ _ _ _⟩
    clear hst hrF hOF hr6 hOB ho6
    go_wp2_with fail
    exact bodyPost_ret (v := .agg #[.int .i64 3, .int .i64 0, .string ⟨b.1.toArray⟩, .slice none 0 0]) (by simp [results, Try.results71, go_sem, hz, s0, s1, s2, s3]) rfl hfin
end Go.Proofs.Ytkbplffckkjbfaa
namespace Go.Proofs.Ytkbplffckkjbfaa
open Go.RowKit
set_option linter.unusedVariables false
set_option linter.unusedSimpArgs false
attribute [local go_sem ↓] Go.wp_at_zero Go.wp_at_succ

theorem rdV_none (T : Ty) : (rdV T none).2 = none := by
  rcases h : (rdV T none).2 with _ | r
  · rfl
  · have := rdV_back T none r h
    cases this
theorem rdLs_none {f : RSt → V × RSt} (hf : (f none).2 = none) : ∀ (n : Nat), (rdLs f n none).2 = none
  | 0 => rfl
  | n + 1 => by rw [rdLs]; show (rdLs f n (f none).2).2 = none; rw [hf]; exact rdLs_none hf n
theorem rdLs_add (f : RSt → V × RSt) : ∀ (a b : Nat) (st : RSt), (rdLs f (a + b) st).2 = (rdLs f b (rdLs f a st).2).2
  | 0, b, st => by rw [Nat.zero_add]; rfl
  | a + 1, b, st => by rw [show a + 1 + b = (a + b) + 1 by omega, rdLs, rdLs]; exact rdLs_add f a b (f st).2
theorem rdLs_bad {f : RSt → V × RSt} (hf : (f none).2 = none) {q n : Nat} {st : RSt} (h : (rdLs f q st).2 = none) (hq : q ≤ n) : (rdLs f n st).2 = none := by
  obtain ⟨d, rfl⟩ : ∃ d, n = q + d := ⟨n - q, by omega⟩
  rw [rdLs_add, h]; exact rdLs_none hf d
theorem rdMs_none {f g : RSt → V × RSt} (hf : (f none).2 = none) (hg : (g none).2 = none) : ∀ (n : Nat), (rdMs f g n none).2 = none
  | 0 => rfl
  | n + 1 => by rw [rdMs]; show (rdMs f g n (g (f none).2).2).2 = none; rw [hf, hg]; exact rdMs_none hf hg n
theorem rdMs_add (f g : RSt → V × RSt) : ∀ (a b : Nat) (st : RSt), (rdMs f g (a + b) st).2 = (rdMs f g b (rdMs f g a st).2).2
  | 0, b, st => by rw [Nat.zero_add]; rfl
  | a + 1, b, st => by rw [show a + 1 + b = (a + b) + 1 by omega, rdMs, rdMs]; exact rdMs_add f g a b (g (f st).2).2
theorem rdMs_bad {f g : RSt → V × RSt} (hf : (f none).2 = none) (hg : (g none).2 = none) {q n : Nat} {st : RSt} (h : (rdMs f g q st).2 = none) (hq : q ≤ n) : (rdMs f g n st).2 = none := by
  obtain ⟨d, rfl⟩ : ∃ d, n = q + d := ⟨n - q, by omega⟩
  rw [rdMs_add, h]; exact rdMs_none hf hg d
set_option maxRecDepth 100000 in
set_option maxHeartbeats 4000000 in
theorem rread_list {E : Ty} (hT : (Ty.list E).dp ≤ 4) (hE : RdOk E) : RdOk (.list E) := by
  have HE : Hid (RdOk E) := hE
  clear hE
  intro w r st h hlft
  have hlenT := (tyT_len (.list E)).2
  have hZ := rzero_any (tyT (.list E)) (by omega)
  have hL := rlist_any (tyT (.list E)) (by omega)
  have hel : elT (tyT (.list E)) = (tyT E, true) := by unfold elT; rw [tyOf_ty hT]
  rw [hel] at hL
  clear hel
  have hkd : kdOf (tyT (.list E)) = 4 := by unfold kdOf; rw [tyOf_ty hT]; rfl
  rw [hkd] at hZ
  clear hkd
  have hrl := h.lt
  obtain ⟨w0, hW, hb0, hs0, hr⟩ := rbox w
  generalize hty : tyT (.list E) = ty at *
  clear hty hlenT hr
  go_enter Try.func71, Try.ntmps71
  go_wp2_with fail
  refine (hZ _).mono ?_
  rintro e w1 ⟨rfl, hb1⟩
  clear hZ
  obtain ⟨wz, w4, hWz, hW4, hb14, hs4, hsz, hblk4, ⟨y0, y1, y2, y3⟩, ⟨z0, z1, z2, z3⟩⟩ := rdbox w1 (.int .i64 4) (.int .i64 0) (.string ⟨#[]⟩) (.slice none 0 0)
  have hs1 := hb1.size
  have hb4 : Below w.heap.size w w4 := hb0.trans ((hb1.mono (by omega)).trans (hb14.mono (by omega)))
  have hbR4 : w4.heap[w.heap.size]? = some (.cells #[.int .i64 0, .int .i64 0, .string ⟨#[]⟩, .slice none 0 0] 24 (0, 0)) := rbox_blk hW (hb1.trans (hb14.mono hs1))
  have hws : w.heap.size < w1.heap.size := by omega
  have hO4 : Only r w w4 := Only.of_below hb4
  obtain ⟨q0, q1, q2, q3, -⟩ := cells_of4 hblk4
  have h45 := h.keep hb4
  have hblk45 := hblk4
  have hbR45 := hbR4
  have hO45 := hO4
  have hs45 : w4.heap.size ≤ w4.heap.size := Nat.le_refl _
  have hN := numD_any h45 hlft
  have hle1 := rdN_le st
  have hlf1 : lft (rdN st).2 ≤ 1000000 := Nat.le_trans (rdN_lft st) hlft
  clear h hlft h45
  go_wp2_with fail
  refine hN.mono ?_
  rintro e w5 ⟨rfl, hr5, ho5⟩
  clear hN q0 q1 q2 q3 y0 y1 y2 y3 z0 z1 z2 z3 hWz hW4 hW
  have hs5 := ho5.size
  have hblk5 := ho5.cells (by omega) (by omega) hblk45
  have hbR5 := ho5.cells (by omega) (by omega) hbR45
  have hO5 : Only r w w5 := hO45.trans ⟨ho5.os, ho5.tape, ho5.output, ho5.size, ho5.block⟩
  clear hblk4 hbR4 hO4 hb14 hb1 hb0 hb4 ho5 hblk45 hbR45 hO45
  have hV : Hid (rdV (.list E) st = (.mk 4 0 [] (rdLs (rdV E) (rdU 64 st).1 (rdU 64 st).2).1, (rdLs (rdV E) (rdU 64 st).1 (rdU 64 st).2).2)) := rfl
  have hS : Hid (¬ 64 < (rdN st).1 → rdV (.list E) st = (.mk 4 0 [] (rdLs (rdV E) (rdN st).1 (rdN st).2).1, (rdLs (rdV E) (rdN st).1 (rdN st).2).2)) := fun h => by rw [hV.out, rdU_ok h]
  have hNo : Hid (64 < (rdN st).1 → (rdV (.list E) st).2 = none) := fun h => by rw [hV.out, rdU_gt h]; rfl
  clear hV
  obtain ⟨u, HU⟩ : ∃ u, Hid (rdN st = u) := ⟨_, rfl⟩
  rw [HU.out] at hr5 hlf1 hle1 hS hNo
  simp only [HU.out]
  clear HU
  by_cases h1 : 64 < u.1
  · have h1I : (64 : Int) < (u.1 : Int) := by omega
    have hst : Hid ((rdV (.list E) st).2 = none) := hNo.out h1
    have hval : Hid ((rdV (.list E) st).2 ≠ none → V.mk 4 0 [] [] = (rdV (.list E) st).1) := fun h => absurd hst.out h
    obtain ⟨ra, rn, rc, g0, g1, g2, g3, g4, -, -⟩ := hr5.cells
    obtain ⟨hD, hoB⟩ := hr5.bad
    obtain ⟨wB, hWB⟩ : ∃ wB, w5.setCell ⟨r, 1, none⟩ (.bool true) = wB := ⟨_, rfl⟩
    rw [hWB] at hD hoB
    have hsB := hoB.size
    have hb : wB.heap[w1.heap.size]? = some (.cells #[.int .i64 4, .int .i64 0, .string ⟨#[]⟩, .slice none 0 0] 24 (0, 0)) := (hoB.block _ (by omega) (by omega)).trans hblk5
    have hR : wB.heap[w.heap.size]? = some (.cells #[.int .i64 0, .int .i64 0, .string ⟨#[]⟩, .slice none 0 0] 24 (0, 0)) := (hoB.block _ (by omega) (by omega)).trans hbR5
    have hO : Only r w wB := hO5.trans hoB
    have hG : Gv (From w4.heap.size) wB (.slice none 0 0) [] := Gv.nil _ _
    have hn0 : ([] : List V).length = 0 := rfl
    clear hS hNo hr5 hO5 hoB hblk5 hbR5 h1
    go_wp2_with fail
    go_loopg [10] 0 (fun g i wr => g = 0 ∧ i = .int .i64 0 ∧ wr = wB)
    case atStart => exact ⟨rfl, rfl, rfl⟩
    case round =>
      obtain ⟨rfl, rfl, rfl⟩ := hrel
      have hltI : (0 : Int) < (u.1 : Int) := by omega
      obtain ⟨ba, bn, bc, j0, j1, j2, j3, j4, -, -⟩ := hD.cells
      simp only [Option.isNone_none] at j1
      clear g0 g1 g2 g3 g4 hWB
      obtain ⟨r0, r1, r2, r3, s0, s1, s2, s3⟩ := cells_of4 hR
      obtain ⟨t0, t1, t2, t3, -⟩ := cells_of4 hb
      have hz : w.heap.size < wr.heap.size := (Array.getElem?_eq_some_iff.1 hR).1
      have hz1 : w1.heap.size < wr.heap.size := (Array.getElem?_eq_some_iff.1 hb).1
      have hfin : RdPost (.list E) w r st (.returned (.agg #[.int .i64 4, .int .i64 0, .string ⟨#[]⟩, .slice none 0 0])) (set4 wr w.heap.size (.int .i64 4) (.int .i64 0) (.string ⟨#[]⟩) (.slice none 0 0)) := by
        unfold RdPost
        refine ⟨⟨.mk 4 0 [] ([] : List V), none, 0, congrArg (fun n => Ending.returned (.agg #[.int .i64 4, .int .i64 0, .string ⟨#[]⟩, .slice none n 0])) hn0.symm, ⟨Nat.zero_le _, by show InR 4; constructor <;> decide, by show InR 0; constructor <;> decide, ?_⟩, hval.out⟩, by rw [hst.out]; exact hD.set4 hrl _ _ _ _, hO.set4 (Nat.le_refl _) _ _ _ _⟩
        have h1 := (hG.vs.since (since_set4 (g := w.heap.size) (by show ¬ (w4.heap.size ≤ w.heap.size); omega) (.int .i64 4) (.int .i64 0) (.string ⟨#[]⟩) (.slice none 0 0))).base (B' := From w.heap.size) (fun k hk _ => by show w.heap.size ≤ k; have : w4.heap.size ≤ k := hk; omega)
        show IsVs _ _ ([] : List V) (.slice _ ([] : List V).length _)
        rw [hn0]; exact h1
      clear hG hst hval hD hO 
      go_wp2_with fail
      exact bodyPost_ret (v := .agg #[.int .i64 4, .int .i64 0, .string ⟨#[]⟩, .slice none 0 0]) (by simp [results, Try.results71, go_sem, hz, r0, r1, r2, r3]) rfl hfin
  · have h1I : ¬ (64 : Int) < (u.1 : Int) := by omega
    have hS' := hS.out h1
    have hval0 : Hid ((rdV (.list E) st).1 = V.mk 4 0 [] (rdLs (rdV E) u.1 u.2).1) := by show _ = _; rw [hS']
    have hst0 : Hid ((rdV (.list E) st).2 = (rdLs (rdV E) u.1 u.2).2) := by show _ = _; rw [hS']
    clear hS hNo hS'
    go_wp2_with fail
    go_loopg [10] u.1 (fun g i wr => ∃ (q N : Nat) (sa : Option Addr) (sc : Nat) (vs : List V), q ≤ u.1 ∧ g = u.1 - q ∧ i = .int .i64 q ∧ Hid (N = q ∧ vs.length = N ∧ Only r w wr ∧ w4.heap.size ≤ wr.heap.size ∧ RdD wr r (rdLs (rdV E) q u.2).2 ∧ wr.heap[w1.heap.size]? = some (.cells #[.int .i64 4, .int .i64 0, .string ⟨#[]⟩, .slice sa N sc] 24 (0, 0)) ∧ wr.heap[w.heap.size]? = some (.cells #[.int .i64 0, .int .i64 0, .string ⟨#[]⟩, .slice none 0 0] 24 (0, 0)) ∧ Gv (From w4.heap.size) wr (.slice sa N sc) vs ∧ ((rdLs (rdV E) q u.2).2 ≠ none → vs = (rdLs (rdV E) q u.2).1)))
    case atStart => exact ⟨0, 0, none, 0, [], Nat.zero_le _, rfl, rfl, rfl, rfl, hO5, by omega, hr5, hblk5, hbR5, Gv.nil _ _, fun _ => rfl⟩
    case round =>
      obtain ⟨q, N, sa, sc, vs, hq, rfl, rfl, HR⟩ := hrel
      obtain ⟨hNq', hlN, hO, hS, hD, hb, hR, hG, hvs'⟩ := HR.out
      have hNq : Hid (N = q) := hNq'
      have hvs : Hid ((rdLs (rdV E) q u.2).2 ≠ none → vs = (rdLs (rdV E) q u.2).1) := hvs'
      have hN2 : N ≤ 200 := by omega
      clear HR hO5 hr5 hblk5 hbR5 hNq' hvs'
      have hf : lft (rdLs (rdV E) q u.2).2 ≤ 1000000 := Nat.le_trans (rdLs_lft (rdV_lft E) q u.2) hlf1
      have hnx : Hid (rdLs (rdV E) (q + 1) u.2 = _) := rdLs_snoc (rdV E) q u.2
      have hbd : Hid ((rdLs (rdV E) q u.2).2 = none → (rdLs (rdV E) u.1 u.2).2 = none) := fun h => rdLs_bad (rdV_none E) h hq
      obtain ⟨ba, bn, bc, j0, j1, j2, j3, j4, -, -⟩ := hD.cells
      rcases hsq : (rdLs (rdV E) q u.2).2 with _ | b
      · -- bad: it ends here
        have hst : Hid ((rdV (.list E) st).2 = none) := by show _ = _; rw [hst0.out]; exact hbd.out hsq
        have hval : Hid ((rdV (.list E) st).2 ≠ none → V.mk 4 0 [] vs = (rdV (.list E) st).1) := fun h => absurd hst.out h
        rw [hsq] at hD j1
        simp only [Option.isNone_none] at j1
        clear hvs hnx hbd hst0 hval0 hsq hf hNq
        by_cases hlt : q < u.1
        · have hltI : (q : Int) < (u.1 : Int) := by omega
          obtain ⟨r0, r1, r2, r3, s0, s1, s2, s3⟩ := cells_of4 hR
          obtain ⟨t0, t1, t2, t3, -⟩ := cells_of4 hb
          have hz : w.heap.size < wr.heap.size := (Array.getElem?_eq_some_iff.1 hR).1
          have hz1 : w1.heap.size < wr.heap.size := (Array.getElem?_eq_some_iff.1 hb).1
          have hfin : RdPost (.list E) w r st (.returned (.agg #[.int .i64 4, .int .i64 0, .string ⟨#[]⟩, .slice sa N sc])) (set4 wr w.heap.size (.int .i64 4) (.int .i64 0) (.string ⟨#[]⟩) (.slice sa N sc)) := by
            unfold RdPost
            refine ⟨⟨.mk 4 0 [] vs, sa, sc, congrArg (fun n => Ending.returned (.agg #[.int .i64 4, .int .i64 0, .string ⟨#[]⟩, .slice sa n sc])) hlN.symm, ⟨Nat.zero_le _, by show InR 4; constructor <;> decide, by show InR 0; constructor <;> decide, ?_⟩, hval.out⟩, by rw [hst.out]; exact hD.set4 hrl _ _ _ _, hO.set4 (Nat.le_refl _) _ _ _ _⟩
            have h1 := (hG.vs.since (since_set4 (g := w.heap.size) (by show ¬ (w4.heap.size ≤ w.heap.size); omega) (.int .i64 4) (.int .i64 0) (.string ⟨#[]⟩) (.slice sa N sc))).base (B' := From w.heap.size) (fun k hk _ => by show w.heap.size ≤ k; have : w4.heap.size ≤ k := hk; omega)
            show IsVs _ _ vs (.slice _ vs.length _)
            rw [hlN]; exact h1
          clear hG hst hval hD hO 
          go_wp2_with fail
          exact bodyPost_ret (v := .agg #[.int .i64 4, .int .i64 0, .string ⟨#[]⟩, .slice sa N sc]) (by simp [results, Try.results71, go_sem, hz, r0, r1, r2, r3]) rfl hfin
        · have hltI : ¬ (q : Int) < (u.1 : Int) := by omega
          obtain ⟨r0, r1, r2, r3, s0, s1, s2, s3⟩ := cells_of4 hR
          obtain ⟨t0, t1, t2, t3, -⟩ := cells_of4 hb
          have hz : w.heap.size < wr.heap.size := (Array.getElem?_eq_some_iff.1 hR).1
          have hz1 : w1.heap.size < wr.heap.size := (Array.getElem?_eq_some_iff.1 hb).1
          have hfin : RdPost (.list E) w r st (.returned (.agg #[.int .i64 4, .int .i64 0, .string ⟨#[]⟩, .slice sa N sc])) (set4 wr w.heap.size (.int .i64 4) (.int .i64 0) (.string ⟨#[]⟩) (.slice sa N sc)) := by
            unfold RdPost
            refine ⟨⟨.mk 4 0 [] vs, sa, sc, congrArg (fun n => Ending.returned (.agg #[.int .i64 4, .int .i64 0, .string ⟨#[]⟩, .slice sa n sc])) hlN.symm, ⟨Nat.zero_le _, by show InR 4; constructor <;> decide, by show InR 0; constructor <;> decide, ?_⟩, hval.out⟩, by rw [hst.out]; exact hD.set4 hrl _ _ _ _, hO.set4 (Nat.le_refl _) _ _ _ _⟩
            have h1 := (hG.vs.since (since_set4 (g := w.heap.size) (by show ¬ (w4.heap.size ≤ w.heap.size); omega) (.int .i64 4) (.int .i64 0) (.string ⟨#[]⟩) (.slice sa N sc))).base (B' := From w.heap.size) (fun k hk _ => by show w.heap.size ≤ k; have : w4.heap.size ≤ k := hk; omega)
            show IsVs _ _ vs (.slice _ vs.length _)
            rw [hlN]; exact h1
          clear hG hst hval hD hO 
          go_wp2_with fail
          exact bodyPost_ret (v := .agg #[.int .i64 4, .int .i64 0, .string ⟨#[]⟩, .slice sa N sc]) (by simp [results, Try.results71, go_sem, hz, r0, r1, r2, r3]) rfl hfin
      · rw [hsq] at hD j1 hf
        simp only [Option.isNone_some] at j1
        by_cases hlt : q < u.1
        · have hltI : (q : Int) < (u.1 : Int) := by omega
          have hvq := hvs.out (by rw [hsq]; simp)
          obtain ⟨s, Hs⟩ : ∃ s, Hid (rdLs (rdV E) q u.2 = s) := ⟨_, rfl⟩
          rw [Hs.out] at hsq hvq hnx
          have hsv : Hid (s.1 = vs ∧ s.2 = some b) := ⟨hvq.symm, hsq⟩
          clear hvq hsq hvs hbd hst0 hval0 Hs
          have hl : Hid (vs.length = N) := hlN
          obtain ⟨stA, HA⟩ : ∃ s : RSt, Hid (some b = s) := ⟨_, rfl⟩
          rw [HA.out] at hD hf
          clear hlN
          have hDA := hD
          have hfA := hf
          have hbA := hb
          have hRA := hR
          have hOA := hO
          have hSA := hS
          have hGA := hG
          have hlA := hl
          clear hD hf hb hR hO hS hG hl
          obtain ⟨wA, hwA⟩ : ∃ wA, wA = wr := ⟨_, rfl⟩
          subst hwA
          obtain ⟨saA, hsaA⟩ : ∃ saA, saA = sa := ⟨_, rfl⟩
          subst hsaA
          obtain ⟨scA, hscA⟩ : ∃ scA, scA = sc := ⟨_, rfl⟩
          subst hscA
          obtain ⟨NA, hNA⟩ : ∃ NA, NA = N := ⟨_, rfl⟩
          subst hNA
          obtain ⟨vsA, hvsA⟩ : ∃ vsA, vsA = vs := ⟨_, rfl⟩
          subst hvsA
          obtain ⟨tA0, tA1, tA2, tA3, -⟩ := cells_of4 hbA
          have hcall : Calls Try.prog 71 #[.pointer (some ⟨r, 0, none⟩), .string ⟨(tyT E).toArray⟩] wA.drew fun e w' => RdPost E wA.drew r stA e w' := HE.out wA.drew r stA (hDA.keep (Below.refl _ _).drew) hfA
          unfold RdPost at hcall
          obtain ⟨pB, HpB⟩ : ∃ p, Hid (rdV E stA = p) := ⟨_, rfl⟩
          rw [HpB.out] at hcall
          have hgrA : w1.heap.size < wA.heap.size := by omega
          clear tA0 tA1 tA2
          go_wp2_with fail
          refine wpE_begin (S := fun w' => w'.cell? ⟨w1.heap.size, 3, none⟩ = some (.slice saA NA scA) ∧ True) (N := fun j => decide (j < 7)) (by kernel_rfl) ?_
          have hS0 : wA.drew.cell? ⟨w1.heap.size, 3, none⟩ = some (.slice saA NA scA) ∧ True := ⟨tA3, trivial⟩
          refine wpE_takeX (some 83) (fun j => [1, 7, 8, 9].contains j) (i := 0) (v := .pointer (some ⟨w1.heap.size, 3, none⟩)) rfl rfl (by kernel_rfl) (by kernel_rfl) (by kernel_rfl) (by kernel_rfl) (fun j hj => by simp at hj; show j < 10; omega) (fun _ _ _ h => h) rfl (fun w' hS => by obtain ⟨g0, -⟩ := hS; go_simp) hS0 ?_
          try simp only [Act.put, List.setIfInBounds_toArray, List.set_cons_zero, List.set_cons_succ]
          refine wpE_takeX (some 84) (fun j => [7, 8, 9].contains j) (i := 1) (v := .slice saA NA scA) rfl rfl (by kernel_rfl) (by kernel_rfl) (by kernel_rfl) (by kernel_rfl) (fun j hj => by simp at hj; show j < 10; omega) (fun _ _ _ h => h) rfl (fun w' hS => by obtain ⟨g0, -⟩ := hS; go_simp) hS0 ?_
          try simp only [Act.put, List.setIfInBounds_toArray, List.set_cons_zero, List.set_cons_succ]
          refine wpE_takeX (some 85) (fun j => [5, 6, 7, 8, 9].contains j) (i := 2) (v := .pointer (some ⟨r, 0, none⟩)) rfl rfl (by kernel_rfl) (by kernel_rfl) (by kernel_rfl) (by kernel_rfl) (fun j hj => by simp at hj; show j < 10; omega) (fun _ _ _ h => h) rfl (fun w' hS => by obtain ⟨g0, -⟩ := hS; go_simp) hS0 ?_
          try simp only [Act.put, List.setIfInBounds_toArray, List.set_cons_zero, List.set_cons_succ]
          refine wpE_takeX (some 86) (fun j => [4, 5, 6, 7, 8, 9].contains j) (i := 3) (v := .string ⟨ty.toArray⟩) rfl rfl (by kernel_rfl) (by kernel_rfl) (by kernel_rfl) (by kernel_rfl) (fun j hj => by simp at hj; show j < 10; omega) (fun _ _ _ h => h) rfl (fun w' hS => by obtain ⟨g0, -⟩ := hS; go_simp) hS0 ?_
          try simp only [Act.put, List.setIfInBounds_toArray, List.set_cons_zero, List.set_cons_succ]
          refine wpE_one (i := 4) (by kernel_rfl) rfl rfl (fun K hK => ?_)
          go_simp
          refine (hL _).mono ?_
          rintro e wq ⟨rfl, hwq⟩
          obtain rfl := hwq.symm
          refine hK _ _ (fun _ => hS0) ?_
          clear hK K
          try simp only [Act.put, List.setIfInBounds_toArray, List.set_cons_zero, List.set_cons_succ]
          refine wpE_one (i := 5) (by kernel_rfl) rfl rfl (fun K hK => ?_)
          go_simp
          refine hcall.mono ?_
          rintro e wcB ⟨⟨xB, axB, cxB, rfl, hxcB, hxB'⟩, hrcB, hoc'⟩
          have hxB : Hid (pB.2 ≠ none → xB = pB.1) := hxB'
          have hocB : Only r wA wcB := (Only.of_below (Below.refl _ _).drew).trans hoc'
          clear hoc' hcall hxB'
          have hscB := hocB.size
          have k0 : wcB.cell? ⟨w1.heap.size, 3, none⟩ = some (.slice saA NA scA) := (World.cell?_of_block (hocB.block _ hgrA (by show w1.heap.size ≠ r; omega))).trans tA3
          refine hK _ _ (fun _ => ⟨k0, trivial⟩) ?_
          clear hK K
          try simp only [Act.put, List.setIfInBounds_toArray, List.set_cons_zero, List.set_cons_succ]
          obtain ⟨waB, hWa⟩ : ∃ wa, wcB.alloc (.cells #[.int .i64 xB.k, .int .i64 xB.n, .string ⟨xB.t.toArray⟩, .slice axB xB.l.length cxB] 24) = wa := ⟨_, rfl⟩
          have hbaB : Below wcB.heap.size wcB waB := by rw [← hWa]; exact (Below.refl _ _).alloc (Nat.le_refl _) _
          have hblka : waB.heap[wcB.heap.size]? = some (.cells #[.int .i64 xB.k, .int .i64 xB.n, .string ⟨xB.t.toArray⟩, .slice axB xB.l.length cxB] 24) := by rw [← hWa]; exact heap_new _ _
          have hsaB : waB.heap.size = wcB.heap.size + 1 := by rw [← hWa]; simp
          refine wpE_one (i := 6) (by kernel_rfl) rfl rfl (fun K hK => ?_)
          go_simp
          refine hK _ _ (fun _ => ⟨((bcell hbaB).1 _ _ (by omega)).trans k0, trivial⟩) ?_
          clear hK K
          try simp only [Act.put, List.setIfInBounds_toArray, List.set_cons_zero, List.set_cons_succ]
          have hGc : Gv (From w4.heap.size) wcB (.slice saA NA scA) vsA := hGA.since (hocB.since (by show ¬ (w4.heap.size ≤ r); omega))
          have hGa : Gv (From w4.heap.size) waB (.slice saA NA scA) vsA := hGc.below hbaB
          obtain ⟨gB, scB, w7B, hr7, hG7, hb7B, -, -⟩ := hGa.push (l2 := [xB]) (ad := ⟨wcB.heap.size, 0, none⟩) (by simp) (by simp) (World.news_of_block hblka) (AllV.one (isV_iff.2 ⟨_, rfl, (hxcB.below hbaB).base (B' := fun k => From w4.heap.size k ∧ (Value.slice saA NA scA).ownBlock ≠ some k) (fun k h1 _ => by have h2 : wA.heap.size ≤ k := h1; exact ⟨by show w4.heap.size ≤ k; omega, hGA.apart h2⟩)⟩)) (by rw [hlA.out]; simp; omega) (fun k hk => by show w4.heap.size ≤ k; omega) 1 22
          replace hb7B : Below w4.heap.size waB w7B := hb7B _ (by omega) (fun k hk => hk)
          rw [hlA.out] at hr7 hG7
          refine wpE_one (i := 7) (by kernel_rfl) rfl rfl (fun K hK => ?_)
          refine wp_append_run _ _ 22 rfl _ _ rfl rfl _ _ hr7 ?_
          refine hK _ _ (fun h => by cases h) ?_
          clear hK K
          try simp only [Act.put, List.setIfInBounds_toArray, List.set_cons_zero, List.set_cons_succ]
          have hbr7 : w7B.heap[w1.heap.size]? = some (.cells #[.int .i64 4, .int .i64 0, .string ⟨#[]⟩, .slice saA NA scA] 24 (0, 0)) := by
            rw [hb7B.block _ (by omega), hbaB.block _ (by omega), hocB.block _ (by omega) (by omega)]; exact hbA
          have hbR7 : w7B.heap[w.heap.size]? = some (.cells #[.int .i64 0, .int .i64 0, .string ⟨#[]⟩, .slice none 0 0] 24 (0, 0)) := by
            rw [hb7B.block _ (by omega), hbaB.block _ (by omega), hocB.block _ (by omega) (by omega)]; exact hRA
          obtain ⟨m0, m1, m2, m3, n0, n1, n2, n3⟩ := cells_of4 hbr7
          refine wpE_one (i := 8) (by kernel_rfl) rfl rfl (fun K hK => ?_)
          go_simp
          refine hK _ _ (fun h => by cases h) ?_
          clear hK K
          try simp only [Act.put, List.setIfInBounds_toArray, List.set_cons_zero, List.set_cons_succ]
          refine wpE_one (i := 9) (by kernel_rfl) rfl rfl (fun K hK => ?_)
          go_simp
          refine hK _ _ (fun h => by cases h) ?_
          clear hK K
          try simp only [Act.put, List.setIfInBounds_toArray, List.set_cons_zero, List.set_cons_succ]
          refine wpE_done (by kernel_rfl) ?_
          obtain ⟨wB, hW8⟩ : ∃ w8, w7B.setCell ⟨w1.heap.size, 3, none⟩ (.slice (some ⟨gB, 0, none⟩) (NA + 1) scB) = w8 := ⟨_, rfl⟩
          have hs7 := hb7B.size
          have hnew : Only r w wB ∧ w4.heap.size ≤ wB.heap.size ∧ RdD wB r pB.2 ∧ wB.heap[w1.heap.size]? = some (.cells #[.int .i64 4, .int .i64 0, .string ⟨#[]⟩, .slice (some ⟨gB, 0, none⟩) (NA + 1) scB] 24 (0, 0)) ∧ wB.heap[w.heap.size]? = some (.cells #[.int .i64 0, .int .i64 0, .string ⟨#[]⟩, .slice none 0 0] 24 (0, 0)) ∧ Gv (From w4.heap.size) wB (.slice (some ⟨gB, 0, none⟩) (NA + 1) scB) (vsA ++ [xB]) := by
            rw [← hW8]
            refine ⟨?_, ?_, ?_, set_3 hbr7 _, ?_, ?_⟩
            · exact (((hOA.trans ⟨hocB.os, hocB.tape, hocB.output, hocB.size, hocB.block⟩).low hbaB (by omega)).low hb7B (by omega)).setCell (by omega) _ _
            · have : (w7B.setCell ⟨w1.heap.size, 3, none⟩ (.slice (some ⟨gB, 0, none⟩) (NA + 1) scB)).heap.size = w7B.heap.size := by simp [World.setCell]
              omega
            · exact ((hrcB.low hbaB (by omega)).low hb7B (by omega)).setCell (by omega) _ _
            · rw [Below.heap_setCell _ _ _ _ (by show w.heap.size ≠ w1.heap.size; omega)]; exact hbR7
            · refine Gv.since hG7 ⟨by simp [World.setCell], fun k h1 _ => Below.heap_setCell _ _ _ _ ?_⟩
              show k ≠ w1.heap.size
              have : w4.heap.size ≤ k := h1
              omega
          obtain ⟨hOB, hSB, hDB, hbB, hRB, hGB⟩ := hnew
          have hlB : Hid ((vsA ++ [xB]).length = NA + 1) := by show _ = _; rw [List.length_append, hlA.out]; rfl
          rw [hW8]
          clear hG7 hGa hGc hGA hxcB hb7B hbaB hr7 k0 m0 m1 m2 m3 n0 n1 n2 n3 hW8 hrcB hocB hbr7 hbR7 hblka tA3 hbA hRA hDA hOA hWa hS0 hscB hsaB hs7
          simp only [Exit.inBlock, Exit.then]
          refine ‹∀ (a : Act) (w : World), _ → _› _ _ ?_
          clear j0 j1 j2 j3 j4
          have hnew : Hid (NA + 1 = q + 1 ∧ (vsA ++ [xB]).length = NA + 1 ∧ Only r w wB ∧ w4.heap.size ≤ wB.heap.size ∧ RdD wB r (rdLs (rdV E) (q + 1) u.2).2 ∧ wB.heap[w1.heap.size]? = some (.cells #[.int .i64 4, .int .i64 0, .string ⟨#[]⟩, .slice (some ⟨gB, 0, none⟩) (NA + 1) scB] 24 (0, 0)) ∧ wB.heap[w.heap.size]? = some (.cells #[.int .i64 0, .int .i64 0, .string ⟨#[]⟩, .slice none 0 0] 24 (0, 0)) ∧ Gv (From w4.heap.size) wB (.slice (some ⟨gB, 0, none⟩) (NA + 1) scB) (vsA ++ [xB]) ∧ ((rdLs (rdV E) (q + 1) u.2).2 ≠ none → vsA ++ [xB] = (rdLs (rdV E) (q + 1) u.2).1)) := by
            have hn2 : rdLs (rdV E) (q + 1) u.2 = (vsA ++ [pB.1], pB.2) := by rw [hnx.out, hsv.out.1, hsv.out.2, HA.out, HpB.out]
            rw [hn2]
            exact ⟨by rw [hNq.out], hlB.out, hOB, hSB, hDB, hbB, hRB, hGB, fun h => by rw [hxB.out h]⟩
          clear hnx hsv HA HpB hxB hlA hlB hGB hDB hOB hbB hRB hNq
          go_wp2_with fail
          go_roundg (u.1 - (q + 1))
          case measure => omega
          case rel => exact ⟨q + 1, NA + 1, _, scB, vsA ++ [xB], by omega, rfl, by go_num, hnew⟩
        · have hltI : ¬ (q : Int) < (u.1 : Int) := by omega
          obtain rfl : q = u.1 := by omega
          have hvq := hvs.out (by rw [hsq]; simp)
          have hst : Hid ((rdV (.list E) st).2 = some b) := by show _ = _; rw [hst0.out]; exact hsq
          have hval : Hid ((rdV (.list E) st).2 ≠ none → V.mk 4 0 [] vs = (rdV (.list E) st).1) := fun _ => by rw [hval0.out, ← hvq]
          clear hvs hnx hbd hst0 hval0 hsq hf hNq hvq
          obtain ⟨r0, r1, r2, r3, s0, s1, s2, s3⟩ := cells_of4 hR
          obtain ⟨t0, t1, t2, t3, -⟩ := cells_of4 hb
          have hz : w.heap.size < wr.heap.size := (Array.getElem?_eq_some_iff.1 hR).1
          have hz1 : w1.heap.size < wr.heap.size := (Array.getElem?_eq_some_iff.1 hb).1
          have hfin : RdPost (.list E) w r st (.returned (.agg #[.int .i64 4, .int .i64 0, .string ⟨#[]⟩, .slice sa N sc])) (set4 wr w.heap.size (.int .i64 4) (.int .i64 0) (.string ⟨#[]⟩) (.slice sa N sc)) := by
            unfold RdPost
            refine ⟨⟨.mk 4 0 [] vs, sa, sc, congrArg (fun n => Ending.returned (.agg #[.int .i64 4, .int .i64 0, .string ⟨#[]⟩, .slice sa n sc])) hlN.symm, ⟨Nat.zero_le _, by show InR 4; constructor <;> decide, by show InR 0; constructor <;> decide, ?_⟩, hval.out⟩, by rw [hst.out]; exact hD.set4 hrl _ _ _ _, hO.set4 (Nat.le_refl _) _ _ _ _⟩
            have h1 := (hG.vs.since (since_set4 (g := w.heap.size) (by show ¬ (w4.heap.size ≤ w.heap.size); omega) (.int .i64 4) (.int .i64 0) (.string ⟨#[]⟩) (.slice sa N sc))).base (B' := From w.heap.size) (fun k hk _ => by show w.heap.size ≤ k; have : w4.heap.size ≤ k := hk; omega)
            show IsVs _ _ vs (.slice _ vs.length _)
            rw [hlN]; exact h1
          clear hG hst hval hD hO 
          go_wp2_with fail
          exact bodyPost_ret (v := .agg #[.int .i64 4, .int .i64 0, .string ⟨#[]⟩, .slice sa N sc]) (by simp [results, Try.results71, go_sem, hz, r0, r1, r2, r3]) rfl hfin
end Go.Proofs.Ytkbplffckkjbfaa
namespace Go.Proofs.Ytkbplffckkjbfaa
open Go.RowKit
set_option linter.unusedVariables false
set_option linter.unusedSimpArgs false
attribute [local go_sem ↓] Go.wp_at_zero Go.wp_at_succ

set_option maxRecDepth 100000 in
set_option maxHeartbeats 4000000 in
theorem rread_map {kb : Bool} {E : Ty} (hT : (Ty.map kb E).dp ≤ 4) (hK : RdOk (keyTy kb)) (hE : RdOk E) : RdOk (.map kb E) := by
  have HE : Hid (RdOk E) := hE
  clear hE
  obtain ⟨K, HKe⟩ : ∃ K, Hid (keyTy kb = K) := ⟨_, rfl⟩
  have HK : Hid (RdOk K) := by rw [← HKe.out]; exact hK
  have HKr : Hid (rdK kb = rdV K) := by show _ = _; rw [← rdV_key, HKe.out]
  clear hK
  intro w r st h hlft
  have hlenT := (tyT_len (.map kb E)).2
  have hZ := rzero_any (tyT (.map kb E)) (by omega)
  have hL := rmap_any (tyT (.map kb E)) (by omega)
  have hel : mpT (tyT (.map kb E)) = (tyT K, tyT E, true) := by unfold mpT; rw [tyOf_ty hT, ← HKe.out, keyTy_T]
  rw [hel] at hL
  clear hel
  have hkd : kdOf (tyT (.map kb E)) = 5 := by unfold kdOf; rw [tyOf_ty hT]; rfl
  rw [hkd] at hZ
  clear hkd
  have hrl := h.lt
  obtain ⟨w0, hW, hb0, hs0, hr⟩ := rbox w
  generalize hty : tyT (.map kb E) = ty at *
  clear hty hlenT hr
  go_enter Try.func71, Try.ntmps71
  go_wp2_with fail
  refine (hZ _).mono ?_
  rintro e w1 ⟨rfl, hb1⟩
  clear hZ
  obtain ⟨wz, w4, hWz, hW4, hb14, hs4, hsz, hblk4, ⟨y0, y1, y2, y3⟩, ⟨z0, z1, z2, z3⟩⟩ := rdbox w1 (.int .i64 5) (.int .i64 0) (.string ⟨#[]⟩) (.slice none 0 0)
  have hs1 := hb1.size
  have hb4 : Below w.heap.size w w4 := hb0.trans ((hb1.mono (by omega)).trans (hb14.mono (by omega)))
  have hbR4 : w4.heap[w.heap.size]? = some (.cells #[.int .i64 0, .int .i64 0, .string ⟨#[]⟩, .slice none 0 0] 24 (0, 0)) := rbox_blk hW (hb1.trans (hb14.mono hs1))
  have hws : w.heap.size < w1.heap.size := by omega
  have hO4 : Only r w w4 := Only.of_below hb4
  obtain ⟨q0, q1, q2, q3, -⟩ := cells_of4 hblk4
  go_wp2_with fail
  refine (hL _).mono ?_
  rintro e w45 ⟨rfl, hb45⟩
  clear hL
  have hs45 := hb45.size
  have h45 := (h.keep hb4).keep hb45
  have hblk45 : w45.heap[w1.heap.size]? = _ := (hb45.block _ (by omega)).trans hblk4
  have hbR45 : w45.heap[w.heap.size]? = _ := (hb45.block _ (by omega)).trans hbR4
  have hO45 : Only r w w45 := hO4.low hb45 (by omega)
  have hN := numD_any h45 hlft
  have hle1 := rdN_le st
  have hlf1 : lft (rdN st).2 ≤ 1000000 := Nat.le_trans (rdN_lft st) hlft
  clear h hlft h45
  go_wp2_with fail
  refine hN.mono ?_
  rintro e w5 ⟨rfl, hr5, ho5⟩
  clear hN q0 q1 q2 q3 y0 y1 y2 y3 z0 z1 z2 z3 hWz hW4 hW
  have hs5 := ho5.size
  have hblk5 := ho5.cells (by omega) (by omega) hblk45
  have hbR5 := ho5.cells (by omega) (by omega) hbR45
  have hO5 : Only r w w5 := hO45.trans ⟨ho5.os, ho5.tape, ho5.output, ho5.size, ho5.block⟩
  clear hblk4 hbR4 hO4 hb14 hb1 hb0 hb4 ho5 hblk45 hbR45 hO45
  have hV : Hid (rdV (.map kb E) st = (.mk 5 0 [] (rdMs (rdV K) (rdV E) (rdU 64 st).1 (rdU 64 st).2).1, (rdMs (rdV K) (rdV E) (rdU 64 st).1 (rdU 64 st).2).2)) := by rw [← HKr.out]; rfl
  have hS : Hid (¬ 64 < (rdN st).1 → rdV (.map kb E) st = (.mk 5 0 [] (rdMs (rdV K) (rdV E) (rdN st).1 (rdN st).2).1, (rdMs (rdV K) (rdV E) (rdN st).1 (rdN st).2).2)) := fun h => by rw [hV.out, rdU_ok h]
  have hNo : Hid (64 < (rdN st).1 → (rdV (.map kb E) st).2 = none) := fun h => by rw [hV.out, rdU_gt h]; rfl
  clear HKr
  clear hV
  obtain ⟨u, HU⟩ : ∃ u, Hid (rdN st = u) := ⟨_, rfl⟩
  rw [HU.out] at hr5 hlf1 hle1 hS hNo
  simp only [HU.out]
  clear HU
  by_cases h1 : 64 < u.1
  · have h1I : (64 : Int) < (u.1 : Int) := by omega
    have hst : Hid ((rdV (.map kb E) st).2 = none) := hNo.out h1
    have hval : Hid ((rdV (.map kb E) st).2 ≠ none → V.mk 5 0 [] [] = (rdV (.map kb E) st).1) := fun h => absurd hst.out h
    obtain ⟨ra, rn, rc, g0, g1, g2, g3, g4, -, -⟩ := hr5.cells
    obtain ⟨hD, hoB⟩ := hr5.bad
    obtain ⟨wB, hWB⟩ : ∃ wB, w5.setCell ⟨r, 1, none⟩ (.bool true) = wB := ⟨_, rfl⟩
    rw [hWB] at hD hoB
    have hsB := hoB.size
    have hb : wB.heap[w1.heap.size]? = some (.cells #[.int .i64 5, .int .i64 0, .string ⟨#[]⟩, .slice none 0 0] 24 (0, 0)) := (hoB.block _ (by omega) (by omega)).trans hblk5
    have hR : wB.heap[w.heap.size]? = some (.cells #[.int .i64 0, .int .i64 0, .string ⟨#[]⟩, .slice none 0 0] 24 (0, 0)) := (hoB.block _ (by omega) (by omega)).trans hbR5
    have hO : Only r w wB := hO5.trans hoB
    have hG : Gv (From w4.heap.size) wB (.slice none 0 0) [] := Gv.nil _ _
    have hn0 : ([] : List V).length = 0 := rfl
    clear hS hNo hr5 hO5 hoB hblk5 hbR5 h1
    go_wp2_with fail
    go_loopg [14] 0 (fun g i wr => g = 0 ∧ i = .int .i64 0 ∧ wr = wB)
    case atStart => exact ⟨rfl, rfl, rfl⟩
    case round =>
      obtain ⟨rfl, rfl, rfl⟩ := hrel
      have hltI : (0 : Int) < (u.1 : Int) := by omega
      obtain ⟨ba, bn, bc, j0, j1, j2, j3, j4, -, -⟩ := hD.cells
      simp only [Option.isNone_none] at j1
      clear g0 g1 g2 g3 g4 hWB
      obtain ⟨r0, r1, r2, r3, s0, s1, s2, s3⟩ := cells_of4 hR
      obtain ⟨t0, t1, t2, t3, -⟩ := cells_of4 hb
      have hz : w.heap.size < wr.heap.size := (Array.getElem?_eq_some_iff.1 hR).1
      have hz1 : w1.heap.size < wr.heap.size := (Array.getElem?_eq_some_iff.1 hb).1
      have hfin : RdPost (.map kb E) w r st (.returned (.agg #[.int .i64 5, .int .i64 0, .string ⟨#[]⟩, .slice none 0 0])) (set4 wr w.heap.size (.int .i64 5) (.int .i64 0) (.string ⟨#[]⟩) (.slice none 0 0)) := by
        unfold RdPost
        refine ⟨⟨.mk 5 0 [] ([] : List V), none, 0, congrArg (fun n => Ending.returned (.agg #[.int .i64 5, .int .i64 0, .string ⟨#[]⟩, .slice none n 0])) hn0.symm, ⟨Nat.zero_le _, by show InR 5; constructor <;> decide, by show InR 0; constructor <;> decide, ?_⟩, hval.out⟩, by rw [hst.out]; exact hD.set4 hrl _ _ _ _, hO.set4 (Nat.le_refl _) _ _ _ _⟩
        have h1 := (hG.vs.since (since_set4 (g := w.heap.size) (by show ¬ (w4.heap.size ≤ w.heap.size); omega) (.int .i64 5) (.int .i64 0) (.string ⟨#[]⟩) (.slice none 0 0))).base (B' := From w.heap.size) (fun k hk _ => by show w.heap.size ≤ k; have : w4.heap.size ≤ k := hk; omega)
        show IsVs _ _ ([] : List V) (.slice _ ([] : List V).length _)
        rw [hn0]; exact h1
      clear hG hst hval hD hO 
      go_wp2_with fail
      exact bodyPost_ret (v := .agg #[.int .i64 5, .int .i64 0, .string ⟨#[]⟩, .slice none 0 0]) (by simp [results, Try.results71, go_sem, hz, r0, r1, r2, r3]) rfl hfin
  · have h1I : ¬ (64 : Int) < (u.1 : Int) := by omega
    have hS' := hS.out h1
    have hval0 : Hid ((rdV (.map kb E) st).1 = V.mk 5 0 [] (rdMs (rdV K) (rdV E) u.1 u.2).1) := by show _ = _; rw [hS']
    have hst0 : Hid ((rdV (.map kb E) st).2 = (rdMs (rdV K) (rdV E) u.1 u.2).2) := by show _ = _; rw [hS']
    clear hS hNo hS'
    go_wp2_with fail
    go_loopg [14] u.1 (fun g i wr => ∃ (q N : Nat) (sa : Option Addr) (sc : Nat) (vs : List V), q ≤ u.1 ∧ g = u.1 - q ∧ i = .int .i64 q ∧ Hid (N = 2 * q ∧ vs.length = N ∧ Only r w wr ∧ w4.heap.size ≤ wr.heap.size ∧ RdD wr r (rdMs (rdV K) (rdV E) q u.2).2 ∧ wr.heap[w1.heap.size]? = some (.cells #[.int .i64 5, .int .i64 0, .string ⟨#[]⟩, .slice sa N sc] 24 (0, 0)) ∧ wr.heap[w.heap.size]? = some (.cells #[.int .i64 0, .int .i64 0, .string ⟨#[]⟩, .slice none 0 0] 24 (0, 0)) ∧ Gv (From w4.heap.size) wr (.slice sa N sc) vs ∧ ((rdMs (rdV K) (rdV E) q u.2).2 ≠ none → vs = (rdMs (rdV K) (rdV E) q u.2).1)))
    case atStart => exact ⟨0, 0, none, 0, [], Nat.zero_le _, rfl, rfl, rfl, rfl, hO5, by omega, hr5, hblk5, hbR5, Gv.nil _ _, fun _ => rfl⟩
    case round =>
      obtain ⟨q, N, sa, sc, vs, hq, rfl, rfl, HR⟩ := hrel
      obtain ⟨hNq', hlN, hO, hS, hD, hb, hR, hG, hvs'⟩ := HR.out
      have hNq : Hid (N = 2 * q) := hNq'
      have hvs : Hid ((rdMs (rdV K) (rdV E) q u.2).2 ≠ none → vs = (rdMs (rdV K) (rdV E) q u.2).1) := hvs'
      have hN2 : N ≤ 200 := by omega
      clear HR hO5 hr5 hblk5 hbR5 hNq' hvs'
      have hf : lft (rdMs (rdV K) (rdV E) q u.2).2 ≤ 1000000 := Nat.le_trans (rdMs_lft (rdV_lft K) (rdV_lft E) q u.2) hlf1
      have hnx : Hid (rdMs (rdV K) (rdV E) (q + 1) u.2 = _) := rdMs_snoc (rdV K) (rdV E) q u.2
      have hbd : Hid ((rdMs (rdV K) (rdV E) q u.2).2 = none → (rdMs (rdV K) (rdV E) u.1 u.2).2 = none) := fun h => rdMs_bad (rdV_none K) (rdV_none E) h hq
      obtain ⟨ba, bn, bc, j0, j1, j2, j3, j4, -, -⟩ := hD.cells
      rcases hsq : (rdMs (rdV K) (rdV E) q u.2).2 with _ | b
      · -- bad: it ends here
        have hst : Hid ((rdV (.map kb E) st).2 = none) := by show _ = _; rw [hst0.out]; exact hbd.out hsq
        have hval : Hid ((rdV (.map kb E) st).2 ≠ none → V.mk 5 0 [] vs = (rdV (.map kb E) st).1) := fun h => absurd hst.out h
        rw [hsq] at hD j1
        simp only [Option.isNone_none] at j1
        clear hvs hnx hbd hst0 hval0 hsq hf hNq
        by_cases hlt : q < u.1
        · have hltI : (q : Int) < (u.1 : Int) := by omega
          obtain ⟨r0, r1, r2, r3, s0, s1, s2, s3⟩ := cells_of4 hR
          obtain ⟨t0, t1, t2, t3, -⟩ := cells_of4 hb
          have hz : w.heap.size < wr.heap.size := (Array.getElem?_eq_some_iff.1 hR).1
          have hz1 : w1.heap.size < wr.heap.size := (Array.getElem?_eq_some_iff.1 hb).1
          have hfin : RdPost (.map kb E) w r st (.returned (.agg #[.int .i64 5, .int .i64 0, .string ⟨#[]⟩, .slice sa N sc])) (set4 wr w.heap.size (.int .i64 5) (.int .i64 0) (.string ⟨#[]⟩) (.slice sa N sc)) := by
            unfold RdPost
            refine ⟨⟨.mk 5 0 [] vs, sa, sc, congrArg (fun n => Ending.returned (.agg #[.int .i64 5, .int .i64 0, .string ⟨#[]⟩, .slice sa n sc])) hlN.symm, ⟨Nat.zero_le _, by show InR 5; constructor <;> decide, by show InR 0; constructor <;> decide, ?_⟩, hval.out⟩, by rw [hst.out]; exact hD.set4 hrl _ _ _ _, hO.set4 (Nat.le_refl _) _ _ _ _⟩
            have h1 := (hG.vs.since (since_set4 (g := w.heap.size) (by show ¬ (w4.heap.size ≤ w.heap.size); omega) (.int .i64 5) (.int .i64 0) (.string ⟨#[]⟩) (.slice sa N sc))).base (B' := From w.heap.size) (fun k hk _ => by show w.heap.size ≤ k; have : w4.heap.size ≤ k := hk; omega)
            show IsVs _ _ vs (.slice _ vs.length _)
            rw [hlN]; exact h1
          clear hG hst hval hD hO 
          go_wp2_with fail
          exact bodyPost_ret (v := .agg #[.int .i64 5, .int .i64 0, .string ⟨#[]⟩, .slice sa N sc]) (by simp [results, Try.results71, go_sem, hz, r0, r1, r2, r3]) rfl hfin
        · have hltI : ¬ (q : Int) < (u.1 : Int) := by omega
          obtain ⟨r0, r1, r2, r3, s0, s1, s2, s3⟩ := cells_of4 hR
          obtain ⟨t0, t1, t2, t3, -⟩ := cells_of4 hb
          have hz : w.heap.size < wr.heap.size := (Array.getElem?_eq_some_iff.1 hR).1
          have hz1 : w1.heap.size < wr.heap.size := (Array.getElem?_eq_some_iff.1 hb).1
          have hfin : RdPost (.map kb E) w r st (.returned (.agg #[.int .i64 5, .int .i64 0, .string ⟨#[]⟩, .slice sa N sc])) (set4 wr w.heap.size (.int .i64 5) (.int .i64 0) (.string ⟨#[]⟩) (.slice sa N sc)) := by
            unfold RdPost
            refine ⟨⟨.mk 5 0 [] vs, sa, sc, congrArg (fun n => Ending.returned (.agg #[.int .i64 5, .int .i64 0, .string ⟨#[]⟩, .slice sa n sc])) hlN.symm, ⟨Nat.zero_le _, by show InR 5; constructor <;> decide, by show InR 0; constructor <;> decide, ?_⟩, hval.out⟩, by rw [hst.out]; exact hD.set4 hrl _ _ _ _, hO.set4 (Nat.le_refl _) _ _ _ _⟩
            have h1 := (hG.vs.since (since_set4 (g := w.heap.size) (by show ¬ (w4.heap.size ≤ w.heap.size); omega) (.int .i64 5) (.int .i64 0) (.string ⟨#[]⟩) (.slice sa N sc))).base (B' := From w.heap.size) (fun k hk _ => by show w.heap.size ≤ k; have : w4.heap.size ≤ k := hk; omega)
            show IsVs _ _ vs (.slice _ vs.length _)
            rw [hlN]; exact h1
          clear hG hst hval hD hO 
          go_wp2_with fail
          exact bodyPost_ret (v := .agg #[.int .i64 5, .int .i64 0, .string ⟨#[]⟩, .slice sa N sc]) (by simp [results, Try.results71, go_sem, hz, r0, r1, r2, r3]) rfl hfin
      · rw [hsq] at hD j1 hf
        simp only [Option.isNone_some] at j1
        by_cases hlt : q < u.1
        · have hltI : (q : Int) < (u.1 : Int) := by omega
          have hvq := hvs.out (by rw [hsq]; simp)
          obtain ⟨s, Hs⟩ : ∃ s, Hid (rdMs (rdV K) (rdV E) q u.2 = s) := ⟨_, rfl⟩
          rw [Hs.out] at hsq hvq hnx
          have hsv : Hid (s.1 = vs ∧ s.2 = some b) := ⟨hvq.symm, hsq⟩
          clear hvq hsq hvs hbd hst0 hval0 Hs
          have hl : Hid (vs.length = N) := hlN
          obtain ⟨stA, HA⟩ : ∃ s : RSt, Hid (some b = s) := ⟨_, rfl⟩
          rw [HA.out] at hD hf
          clear hlN
          have hDA := hD
          have hfA := hf
          have hbA := hb
          have hRA := hR
          have hOA := hO
          have hSA := hS
          have hGA := hG
          have hlA := hl
          clear hD hf hb hR hO hS hG hl
          obtain ⟨wA, hwA⟩ : ∃ wA, wA = wr := ⟨_, rfl⟩
          subst hwA
          obtain ⟨saA, hsaA⟩ : ∃ saA, saA = sa := ⟨_, rfl⟩
          subst hsaA
          obtain ⟨scA, hscA⟩ : ∃ scA, scA = sc := ⟨_, rfl⟩
          subst hscA
          obtain ⟨NA, hNA⟩ : ∃ NA, NA = N := ⟨_, rfl⟩
          subst hNA
          obtain ⟨vsA, hvsA⟩ : ∃ vsA, vsA = vs := ⟨_, rfl⟩
          subst hvsA
          obtain ⟨tA0, tA1, tA2, tA3, -⟩ := cells_of4 hbA
          have hcall : Calls Try.prog 71 #[.pointer (some ⟨r, 0, none⟩), .string ⟨(tyT K).toArray⟩] wA.drew fun e w' => RdPost K wA.drew r stA e w' := HK.out wA.drew r stA (hDA.keep (Below.refl _ _).drew) hfA
          unfold RdPost at hcall
          obtain ⟨pB, HpB⟩ : ∃ p, Hid (rdV K stA = p) := ⟨_, rfl⟩
          rw [HpB.out] at hcall
          have hgrA : w1.heap.size < wA.heap.size := by omega
          clear tA0 tA1 tA2
          go_wp2_with fail
          refine wpE_begin (S := fun w' => w'.cell? ⟨w1.heap.size, 3, none⟩ = some (.slice saA NA scA) ∧ True) (N := fun j => decide (j < 6)) (by kernel_rfl) ?_
          have hS0 : wA.drew.cell? ⟨w1.heap.size, 3, none⟩ = some (.slice saA NA scA) ∧ True := ⟨tA3, trivial⟩
          refine wpE_takeX (some 118) (fun j => [1, 6, 7, 8].contains j) (i := 0) (v := .pointer (some ⟨w1.heap.size, 3, none⟩)) rfl rfl (by kernel_rfl) (by kernel_rfl) (by kernel_rfl) (by kernel_rfl) (fun j hj => by simp at hj; show j < 9; omega) (fun _ _ _ h => h) rfl (fun w' hS => by obtain ⟨g0, -⟩ := hS; go_simp) hS0 ?_
          try simp only [Act.put, List.setIfInBounds_toArray, List.set_cons_zero, List.set_cons_succ]
          refine wpE_takeX (some 119) (fun j => [6, 7, 8].contains j) (i := 1) (v := .slice saA NA scA) rfl rfl (by kernel_rfl) (by kernel_rfl) (by kernel_rfl) (by kernel_rfl) (fun j hj => by simp at hj; show j < 9; omega) (fun _ _ _ h => h) rfl (fun w' hS => by obtain ⟨g0, -⟩ := hS; go_simp) hS0 ?_
          try simp only [Act.put, List.setIfInBounds_toArray, List.set_cons_zero, List.set_cons_succ]
          refine wpE_takeX (some 120) (fun j => [4, 5, 6, 7, 8].contains j) (i := 2) (v := .pointer (some ⟨r, 0, none⟩)) rfl rfl (by kernel_rfl) (by kernel_rfl) (by kernel_rfl) (by kernel_rfl) (fun j hj => by simp at hj; show j < 9; omega) (fun _ _ _ h => h) rfl (fun w' hS => by obtain ⟨g0, -⟩ := hS; go_simp) hS0 ?_
          try simp only [Act.put, List.setIfInBounds_toArray, List.set_cons_zero, List.set_cons_succ]
          refine wpE_takeX (some 121) (fun j => [4, 5, 6, 7, 8].contains j) (i := 3) (v := .string ⟨(tyT K).toArray⟩) rfl rfl (by kernel_rfl) (by kernel_rfl) (by kernel_rfl) (by kernel_rfl) (fun j hj => by simp at hj; show j < 9; omega) (fun _ _ _ h => h) rfl (fun w' hS => by obtain ⟨g0, -⟩ := hS; go_simp) hS0 ?_
          try simp only [Act.put, List.setIfInBounds_toArray, List.set_cons_zero, List.set_cons_succ]
          refine wpE_one (i := 4) (by kernel_rfl) rfl rfl (fun K hK => ?_)
          go_simp
          refine hcall.mono ?_
          rintro e wcB ⟨⟨xB, axB, cxB, rfl, hxcB, hxB'⟩, hrcB, hoc'⟩
          have hxB : Hid (pB.2 ≠ none → xB = pB.1) := hxB'
          have hocB : Only r wA wcB := (Only.of_below (Below.refl _ _).drew).trans hoc'
          clear hoc' hcall hxB'
          have hscB := hocB.size
          have k0 : wcB.cell? ⟨w1.heap.size, 3, none⟩ = some (.slice saA NA scA) := (World.cell?_of_block (hocB.block _ hgrA (by show w1.heap.size ≠ r; omega))).trans tA3
          refine hK _ _ (fun _ => ⟨k0, trivial⟩) ?_
          clear hK K
          try simp only [Act.put, List.setIfInBounds_toArray, List.set_cons_zero, List.set_cons_succ]
          obtain ⟨waB, hWa⟩ : ∃ wa, wcB.alloc (.cells #[.int .i64 xB.k, .int .i64 xB.n, .string ⟨xB.t.toArray⟩, .slice axB xB.l.length cxB] 24) = wa := ⟨_, rfl⟩
          have hbaB : Below wcB.heap.size wcB waB := by rw [← hWa]; exact (Below.refl _ _).alloc (Nat.le_refl _) _
          have hblka : waB.heap[wcB.heap.size]? = some (.cells #[.int .i64 xB.k, .int .i64 xB.n, .string ⟨xB.t.toArray⟩, .slice axB xB.l.length cxB] 24) := by rw [← hWa]; exact heap_new _ _
          have hsaB : waB.heap.size = wcB.heap.size + 1 := by rw [← hWa]; simp
          refine wpE_one (i := 5) (by kernel_rfl) rfl rfl (fun K hK => ?_)
          go_simp
          refine hK _ _ (fun _ => ⟨((bcell hbaB).1 _ _ (by omega)).trans k0, trivial⟩) ?_
          clear hK K
          try simp only [Act.put, List.setIfInBounds_toArray, List.set_cons_zero, List.set_cons_succ]
          have hGc : Gv (From w4.heap.size) wcB (.slice saA NA scA) vsA := hGA.since (hocB.since (by show ¬ (w4.heap.size ≤ r); omega))
          have hGa : Gv (From w4.heap.size) waB (.slice saA NA scA) vsA := hGc.below hbaB
          obtain ⟨gB, scB, w7B, hr7, hG7, hb7B, -, -⟩ := hGa.push (l2 := [xB]) (ad := ⟨wcB.heap.size, 0, none⟩) (by simp) (by simp) (World.news_of_block hblka) (AllV.one (isV_iff.2 ⟨_, rfl, (hxcB.below hbaB).base (B' := fun k => From w4.heap.size k ∧ (Value.slice saA NA scA).ownBlock ≠ some k) (fun k h1 _ => by have h2 : wA.heap.size ≤ k := h1; exact ⟨by show w4.heap.size ≤ k; omega, hGA.apart h2⟩)⟩)) (by rw [hlA.out]; simp; omega) (fun k hk => by show w4.heap.size ≤ k; omega) 1 22
          replace hb7B : Below w4.heap.size waB w7B := hb7B _ (by omega) (fun k hk => hk)
          rw [hlA.out] at hr7 hG7
          refine wpE_one (i := 6) (by kernel_rfl) rfl rfl (fun K hK => ?_)
          refine wp_append_run _ _ 22 rfl _ _ rfl rfl _ _ hr7 ?_
          refine hK _ _ (fun h => by cases h) ?_
          clear hK K
          try simp only [Act.put, List.setIfInBounds_toArray, List.set_cons_zero, List.set_cons_succ]
          have hbr7 : w7B.heap[w1.heap.size]? = some (.cells #[.int .i64 5, .int .i64 0, .string ⟨#[]⟩, .slice saA NA scA] 24 (0, 0)) := by
            rw [hb7B.block _ (by omega), hbaB.block _ (by omega), hocB.block _ (by omega) (by omega)]; exact hbA
          have hbR7 : w7B.heap[w.heap.size]? = some (.cells #[.int .i64 0, .int .i64 0, .string ⟨#[]⟩, .slice none 0 0] 24 (0, 0)) := by
            rw [hb7B.block _ (by omega), hbaB.block _ (by omega), hocB.block _ (by omega) (by omega)]; exact hRA
          obtain ⟨m0, m1, m2, m3, n0, n1, n2, n3⟩ := cells_of4 hbr7
          refine wpE_one (i := 7) (by kernel_rfl) rfl rfl (fun K hK => ?_)
          go_simp
          refine hK _ _ (fun h => by cases h) ?_
          clear hK K
          try simp only [Act.put, List.setIfInBounds_toArray, List.set_cons_zero, List.set_cons_succ]
          refine wpE_one (i := 8) (by kernel_rfl) rfl rfl (fun K hK => ?_)
          go_simp
          refine hK _ _ (fun h => by cases h) ?_
          clear hK K
          try simp only [Act.put, List.setIfInBounds_toArray, List.set_cons_zero, List.set_cons_succ]
          refine wpE_done (by kernel_rfl) ?_
          obtain ⟨wB, hW8⟩ : ∃ w8, w7B.setCell ⟨w1.heap.size, 3, none⟩ (.slice (some ⟨gB, 0, none⟩) (NA + 1) scB) = w8 := ⟨_, rfl⟩
          have hs7 := hb7B.size
          have hnew : Only r w wB ∧ w4.heap.size ≤ wB.heap.size ∧ RdD wB r pB.2 ∧ wB.heap[w1.heap.size]? = some (.cells #[.int .i64 5, .int .i64 0, .string ⟨#[]⟩, .slice (some ⟨gB, 0, none⟩) (NA + 1) scB] 24 (0, 0)) ∧ wB.heap[w.heap.size]? = some (.cells #[.int .i64 0, .int .i64 0, .string ⟨#[]⟩, .slice none 0 0] 24 (0, 0)) ∧ Gv (From w4.heap.size) wB (.slice (some ⟨gB, 0, none⟩) (NA + 1) scB) (vsA ++ [xB]) := by
            rw [← hW8]
            refine ⟨?_, ?_, ?_, set_3 hbr7 _, ?_, ?_⟩
            · exact (((hOA.trans ⟨hocB.os, hocB.tape, hocB.output, hocB.size, hocB.block⟩).low hbaB (by omega)).low hb7B (by omega)).setCell (by omega) _ _
            · have : (w7B.setCell ⟨w1.heap.size, 3, none⟩ (.slice (some ⟨gB, 0, none⟩) (NA + 1) scB)).heap.size = w7B.heap.size := by simp [World.setCell]
              omega
            · exact ((hrcB.low hbaB (by omega)).low hb7B (by omega)).setCell (by omega) _ _
            · rw [Below.heap_setCell _ _ _ _ (by show w.heap.size ≠ w1.heap.size; omega)]; exact hbR7
            · refine Gv.since hG7 ⟨by simp [World.setCell], fun k h1 _ => Below.heap_setCell _ _ _ _ ?_⟩
              show k ≠ w1.heap.size
              have : w4.heap.size ≤ k := h1
              omega
          obtain ⟨hOB, hSB, hDB, hbB, hRB, hGB⟩ := hnew
          have hlB : Hid ((vsA ++ [xB]).length = NA + 1) := by show _ = _; rw [List.length_append, hlA.out]; rfl
          rw [hW8]
          clear hG7 hGa hGc hGA hxcB hb7B hbaB hr7 k0 m0 m1 m2 m3 n0 n1 n2 n3 hW8 hrcB hocB hbr7 hbR7 hblka tA3 hbA hRA hDA hOA hWa hS0 hscB hsaB hs7
          simp only [Exit.inBlock, Exit.then]
          refine ‹∀ (a : Act) (w : World), _ → _› _ _ ?_
          obtain ⟨vsB, HvB⟩ : ∃ l, Hid (vsA ++ [xB] = l) := ⟨_, rfl⟩
          obtain ⟨NB, HNB⟩ : ∃ n, Hid (NA + 1 = n) := ⟨_, rfl⟩
          rw [HvB.out] at hGB hlB
          rw [HNB.out] at hGB hlB hbB
          have hNB2 : NB ≤ 300 := by have := HNB.out; omega
          obtain ⟨saB, HsB⟩ : ∃ a, Hid (some (⟨gB, 0, none⟩ : Addr) = a) := ⟨_, rfl⟩
          rw [HsB.out] at hGB hbB
          obtain ⟨stB, HstB⟩ : ∃ s, Hid (pB.2 = s) := ⟨_, rfl⟩
          have hfB : lft stB ≤ 1000000 := by rw [← HstB.out, ← HpB.out]; exact Nat.le_trans (rdV_lft K stA) hfA
          rw [HstB.out] at hDB
          clear j0 j1 j2 j3 j4 HsB
          obtain ⟨tB0, tB1, tB2, tB3, -⟩ := cells_of4 hbB
          have hcall : Calls Try.prog 71 #[.pointer (some ⟨r, 0, none⟩), .string ⟨(tyT E).toArray⟩] wB.drew fun e w' => RdPost E wB.drew r stB e w' := HE.out wB.drew r stB (hDB.keep (Below.refl _ _).drew) hfB
          unfold RdPost at hcall
          obtain ⟨pC, HpC⟩ : ∃ p, Hid (rdV E stB = p) := ⟨_, rfl⟩
          rw [HpC.out] at hcall
          have hgrB : w1.heap.size < wB.heap.size := by omega
          clear tB0 tB1 tB2
          go_wp2_with fail
          refine wpE_begin (S := fun w' => w'.cell? ⟨w1.heap.size, 3, none⟩ = some (.slice saB NB scB) ∧ True) (N := fun j => decide (j < 6)) (by kernel_rfl) ?_
          have hS0 : wB.drew.cell? ⟨w1.heap.size, 3, none⟩ = some (.slice saB NB scB) ∧ True := ⟨tB3, trivial⟩
          refine wpE_takeX (some 126) (fun j => [1, 6, 7, 8].contains j) (i := 0) (v := .pointer (some ⟨w1.heap.size, 3, none⟩)) rfl rfl (by kernel_rfl) (by kernel_rfl) (by kernel_rfl) (by kernel_rfl) (fun j hj => by simp at hj; show j < 9; omega) (fun _ _ _ h => h) rfl (fun w' hS => by obtain ⟨g0, -⟩ := hS; go_simp) hS0 ?_
          try simp only [Act.put, List.setIfInBounds_toArray, List.set_cons_zero, List.set_cons_succ]
          refine wpE_takeX (some 127) (fun j => [6, 7, 8].contains j) (i := 1) (v := .slice saB NB scB) rfl rfl (by kernel_rfl) (by kernel_rfl) (by kernel_rfl) (by kernel_rfl) (fun j hj => by simp at hj; show j < 9; omega) (fun _ _ _ h => h) rfl (fun w' hS => by obtain ⟨g0, -⟩ := hS; go_simp) hS0 ?_
          try simp only [Act.put, List.setIfInBounds_toArray, List.set_cons_zero, List.set_cons_succ]
          refine wpE_takeX (some 128) (fun j => [4, 5, 6, 7, 8].contains j) (i := 2) (v := .pointer (some ⟨r, 0, none⟩)) rfl rfl (by kernel_rfl) (by kernel_rfl) (by kernel_rfl) (by kernel_rfl) (fun j hj => by simp at hj; show j < 9; omega) (fun _ _ _ h => h) rfl (fun w' hS => by obtain ⟨g0, -⟩ := hS; go_simp) hS0 ?_
          try simp only [Act.put, List.setIfInBounds_toArray, List.set_cons_zero, List.set_cons_succ]
          refine wpE_takeX (some 129) (fun j => [4, 5, 6, 7, 8].contains j) (i := 3) (v := .string ⟨(tyT E).toArray⟩) rfl rfl (by kernel_rfl) (by kernel_rfl) (by kernel_rfl) (by kernel_rfl) (fun j hj => by simp at hj; show j < 9; omega) (fun _ _ _ h => h) rfl (fun w' hS => by obtain ⟨g0, -⟩ := hS; go_simp) hS0 ?_
          try simp only [Act.put, List.setIfInBounds_toArray, List.set_cons_zero, List.set_cons_succ]
          refine wpE_one (i := 4) (by kernel_rfl) rfl rfl (fun K hK => ?_)
          go_simp
          refine hcall.mono ?_
          rintro e wcC ⟨⟨xC, axC, cxC, rfl, hxcC, hxC'⟩, hrcC, hoc'⟩
          have hxC : Hid (pC.2 ≠ none → xC = pC.1) := hxC'
          have hocC : Only r wB wcC := (Only.of_below (Below.refl _ _).drew).trans hoc'
          clear hoc' hcall hxC'
          have hscC := hocC.size
          have k0 : wcC.cell? ⟨w1.heap.size, 3, none⟩ = some (.slice saB NB scB) := (World.cell?_of_block (hocC.block _ hgrB (by show w1.heap.size ≠ r; omega))).trans tB3
          refine hK _ _ (fun _ => ⟨k0, trivial⟩) ?_
          clear hK K
          try simp only [Act.put, List.setIfInBounds_toArray, List.set_cons_zero, List.set_cons_succ]
          obtain ⟨waC, hWa⟩ : ∃ wa, wcC.alloc (.cells #[.int .i64 xC.k, .int .i64 xC.n, .string ⟨xC.t.toArray⟩, .slice axC xC.l.length cxC] 24) = wa := ⟨_, rfl⟩
          have hbaC : Below wcC.heap.size wcC waC := by rw [← hWa]; exact (Below.refl _ _).alloc (Nat.le_refl _) _
          have hblka : waC.heap[wcC.heap.size]? = some (.cells #[.int .i64 xC.k, .int .i64 xC.n, .string ⟨xC.t.toArray⟩, .slice axC xC.l.length cxC] 24) := by rw [← hWa]; exact heap_new _ _
          have hsaC : waC.heap.size = wcC.heap.size + 1 := by rw [← hWa]; simp
          refine wpE_one (i := 5) (by kernel_rfl) rfl rfl (fun K hK => ?_)
          go_simp
          refine hK _ _ (fun _ => ⟨((bcell hbaC).1 _ _ (by omega)).trans k0, trivial⟩) ?_
          clear hK K
          try simp only [Act.put, List.setIfInBounds_toArray, List.set_cons_zero, List.set_cons_succ]
          have hGc : Gv (From w4.heap.size) wcC (.slice saB NB scB) vsB := hGB.since (hocC.since (by show ¬ (w4.heap.size ≤ r); omega))
          have hGa : Gv (From w4.heap.size) waC (.slice saB NB scB) vsB := hGc.below hbaC
          obtain ⟨gC, scC, w7C, hr7, hG7, hb7C, -, -⟩ := hGa.push (l2 := [xC]) (ad := ⟨wcC.heap.size, 0, none⟩) (by simp) (by simp) (World.news_of_block hblka) (AllV.one (isV_iff.2 ⟨_, rfl, (hxcC.below hbaC).base (B' := fun k => From w4.heap.size k ∧ (Value.slice saB NB scB).ownBlock ≠ some k) (fun k h1 _ => by have h2 : wB.heap.size ≤ k := h1; exact ⟨by show w4.heap.size ≤ k; omega, hGB.apart h2⟩)⟩)) (by rw [hlB.out]; simp; omega) (fun k hk => by show w4.heap.size ≤ k; omega) 1 22
          replace hb7C : Below w4.heap.size waC w7C := hb7C _ (by omega) (fun k hk => hk)
          rw [hlB.out] at hr7 hG7
          refine wpE_one (i := 6) (by kernel_rfl) rfl rfl (fun K hK => ?_)
          refine wp_append_run _ _ 22 rfl _ _ rfl rfl _ _ hr7 ?_
          refine hK _ _ (fun h => by cases h) ?_
          clear hK K
          try simp only [Act.put, List.setIfInBounds_toArray, List.set_cons_zero, List.set_cons_succ]
          have hbr7 : w7C.heap[w1.heap.size]? = some (.cells #[.int .i64 5, .int .i64 0, .string ⟨#[]⟩, .slice saB NB scB] 24 (0, 0)) := by
            rw [hb7C.block _ (by omega), hbaC.block _ (by omega), hocC.block _ (by omega) (by omega)]; exact hbB
          have hbR7 : w7C.heap[w.heap.size]? = some (.cells #[.int .i64 0, .int .i64 0, .string ⟨#[]⟩, .slice none 0 0] 24 (0, 0)) := by
            rw [hb7C.block _ (by omega), hbaC.block _ (by omega), hocC.block _ (by omega) (by omega)]; exact hRB
          obtain ⟨m0, m1, m2, m3, n0, n1, n2, n3⟩ := cells_of4 hbr7
          refine wpE_one (i := 7) (by kernel_rfl) rfl rfl (fun K hK => ?_)
          go_simp
          refine hK _ _ (fun h => by cases h) ?_
          clear hK K
          try simp only [Act.put, List.setIfInBounds_toArray, List.set_cons_zero, List.set_cons_succ]
          refine wpE_one (i := 8) (by kernel_rfl) rfl rfl (fun K hK => ?_)
          go_simp
          refine hK _ _ (fun h => by cases h) ?_
          clear hK K
          try simp only [Act.put, List.setIfInBounds_toArray, List.set_cons_zero, List.set_cons_succ]
          refine wpE_done (by kernel_rfl) ?_
          obtain ⟨wC, hW8⟩ : ∃ w8, w7C.setCell ⟨w1.heap.size, 3, none⟩ (.slice (some ⟨gC, 0, none⟩) (NB + 1) scC) = w8 := ⟨_, rfl⟩
          have hs7 := hb7C.size
          have hnew : Only r w wC ∧ w4.heap.size ≤ wC.heap.size ∧ RdD wC r pC.2 ∧ wC.heap[w1.heap.size]? = some (.cells #[.int .i64 5, .int .i64 0, .string ⟨#[]⟩, .slice (some ⟨gC, 0, none⟩) (NB + 1) scC] 24 (0, 0)) ∧ wC.heap[w.heap.size]? = some (.cells #[.int .i64 0, .int .i64 0, .string ⟨#[]⟩, .slice none 0 0] 24 (0, 0)) ∧ Gv (From w4.heap.size) wC (.slice (some ⟨gC, 0, none⟩) (NB + 1) scC) (vsB ++ [xC]) := by
            rw [← hW8]
            refine ⟨?_, ?_, ?_, set_3 hbr7 _, ?_, ?_⟩
            · exact (((hOB.trans ⟨hocC.os, hocC.tape, hocC.output, hocC.size, hocC.block⟩).low hbaC (by omega)).low hb7C (by omega)).setCell (by omega) _ _
            · have : (w7C.setCell ⟨w1.heap.size, 3, none⟩ (.slice (some ⟨gC, 0, none⟩) (NB + 1) scC)).heap.size = w7C.heap.size := by simp [World.setCell]
              omega
            · exact ((hrcC.low hbaC (by omega)).low hb7C (by omega)).setCell (by omega) _ _
            · rw [Below.heap_setCell _ _ _ _ (by show w.heap.size ≠ w1.heap.size; omega)]; exact hbR7
            · refine Gv.since hG7 ⟨by simp [World.setCell], fun k h1 _ => Below.heap_setCell _ _ _ _ ?_⟩
              show k ≠ w1.heap.size
              have : w4.heap.size ≤ k := h1
              omega
          obtain ⟨hOC, hSC, hDC, hbC, hRC, hGC⟩ := hnew
          have hlC : Hid ((vsB ++ [xC]).length = NB + 1) := by show _ = _; rw [List.length_append, hlB.out]; rfl
          rw [hW8]
          clear hG7 hGa hGc hGB hxcC hb7C hbaC hr7 k0 m0 m1 m2 m3 n0 n1 n2 n3 hW8 hrcC hocC hbr7 hbR7 hblka tB3 hbB hRB hDB hOB hWa hS0 hscC hsaC hs7
          simp only [Exit.inBlock, Exit.then]
          refine ‹∀ (a : Act) (w : World), _ → _› _ _ ?_
          have hnew : Hid (NB + 1 = 2 * (q + 1) ∧ (vsB ++ [xC]).length = NB + 1 ∧ Only r w wC ∧ w4.heap.size ≤ wC.heap.size ∧ RdD wC r (rdMs (rdV K) (rdV E) (q + 1) u.2).2 ∧ wC.heap[w1.heap.size]? = some (.cells #[.int .i64 5, .int .i64 0, .string ⟨#[]⟩, .slice (some ⟨gC, 0, none⟩) (NB + 1) scC] 24 (0, 0)) ∧ wC.heap[w.heap.size]? = some (.cells #[.int .i64 0, .int .i64 0, .string ⟨#[]⟩, .slice none 0 0] 24 (0, 0)) ∧ Gv (From w4.heap.size) wC (.slice (some ⟨gC, 0, none⟩) (NB + 1) scC) (vsB ++ [xC]) ∧ ((rdMs (rdV K) (rdV E) (q + 1) u.2).2 ≠ none → vsB ++ [xC] = (rdMs (rdV K) (rdV E) (q + 1) u.2).1)) := by
            have hn2 : rdMs (rdV K) (rdV E) (q + 1) u.2 = (vsA ++ [pB.1, pC.1], pC.2) := by rw [hnx.out, hsv.out.1, hsv.out.2, HA.out, HpB.out, HstB.out, HpC.out]
            rw [hn2]
            refine ⟨by have := hNq.out; have := HNB.out; omega, hlC.out, hOC, hSC, hDC, hbC, hRC, hGC, fun h => ?_⟩
            have hB : pB.2 ≠ none := by
              intro e
              apply h
              rw [← HpC.out, ← HstB.out, e]
              exact rdV_none E
            rw [← HvB.out, hxC.out h, hxB.out hB]
            simp
          clear hnx hsv HA HpB hxB hlA hlB HstB HpC hxC HvB HNB hlC hGC hDC hOC hbC hRC hNq
          go_wp2_with fail
          go_roundg (u.1 - (q + 1))
          case measure => omega
          case rel => exact ⟨q + 1, NB + 1, _, scC, vsB ++ [xC], by omega, rfl, by go_num, hnew⟩
        · have hltI : ¬ (q : Int) < (u.1 : Int) := by omega
          obtain rfl : q = u.1 := by omega
          have hvq := hvs.out (by rw [hsq]; simp)
          have hst : Hid ((rdV (.map kb E) st).2 = some b) := by show _ = _; rw [hst0.out]; exact hsq
          have hval : Hid ((rdV (.map kb E) st).2 ≠ none → V.mk 5 0 [] vs = (rdV (.map kb E) st).1) := fun _ => by rw [hval0.out, ← hvq]
          clear hvs hnx hbd hst0 hval0 hsq hf hNq hvq
          obtain ⟨r0, r1, r2, r3, s0, s1, s2, s3⟩ := cells_of4 hR
          obtain ⟨t0, t1, t2, t3, -⟩ := cells_of4 hb
          have hz : w.heap.size < wr.heap.size := (Array.getElem?_eq_some_iff.1 hR).1
          have hz1 : w1.heap.size < wr.heap.size := (Array.getElem?_eq_some_iff.1 hb).1
          have hfin : RdPost (.map kb E) w r st (.returned (.agg #[.int .i64 5, .int .i64 0, .string ⟨#[]⟩, .slice sa N sc])) (set4 wr w.heap.size (.int .i64 5) (.int .i64 0) (.string ⟨#[]⟩) (.slice sa N sc)) := by
            unfold RdPost
            refine ⟨⟨.mk 5 0 [] vs, sa, sc, congrArg (fun n => Ending.returned (.agg #[.int .i64 5, .int .i64 0, .string ⟨#[]⟩, .slice sa n sc])) hlN.symm, ⟨Nat.zero_le _, by show InR 5; constructor <;> decide, by show InR 0; constructor <;> decide, ?_⟩, hval.out⟩, by rw [hst.out]; exact hD.set4 hrl _ _ _ _, hO.set4 (Nat.le_refl _) _ _ _ _⟩
            have h1 := (hG.vs.since (since_set4 (g := w.heap.size) (by show ¬ (w4.heap.size ≤ w.heap.size); omega) (.int .i64 5) (.int .i64 0) (.string ⟨#[]⟩) (.slice sa N sc))).base (B' := From w.heap.size) (fun k hk _ => by show w.heap.size ≤ k; have : w4.heap.size ≤ k := hk; omega)
            show IsVs _ _ vs (.slice _ vs.length _)
            rw [hlN]; exact h1
          clear hG hst hval hD hO 
          go_wp2_with fail
          exact bodyPost_ret (v := .agg #[.int .i64 5, .int .i64 0, .string ⟨#[]⟩, .slice sa N sc]) (by simp [results, Try.results71, go_sem, hz, r0, r1, r2, r3]) rfl hfin
theorem rread_any : ∀ (T : Ty), T.dp ≤ 4 → RdOk T
  | .int, _ => rread_int
  | .bool, _ => rread_bool
  | .text, _ => rread_text
  | .list E, h => rread_list h (rread_any E (by simp only [Ty.dp] at h; omega))
  | .map kb E, h => rread_map h (by cases kb; exact rread_text; exact rread_int) (rread_any E (by simp only [Ty.dp] at h; omega))
end Go.Proofs.Ytkbplffckkjbfaa
namespace Go.Proofs.Ytkbplffckkjbfaa
open Go.RowKit
set_option linter.unusedVariables false
set_option linter.unusedSimpArgs false

set_option maxRecDepth 100000 in
set_option maxHeartbeats 1000000 in
theorem rdecode_none {B : Nat → Prop} {y : List UInt8} (hy : y.length ≤ 9223372036854775807) {w : World} {sl : Value} {bs : List UInt8} (hb : IsB B w sl bs) (hT : tyOf y = none) :
    Calls Try.prog 43 #[sl, .string ⟨y.toArray⟩] w fun r w' => OutV w (dcV y bs) r w' := by
  have hS := rtype_l y hy
  have hg : gType y = false := by unfold gType; rw [hT]; rfl
  rw [hg] at hS
  have hd : dcV y bs = (V.zero, 1) := by unfold dcV; rw [hT]
  rw [hd]
  obtain ⟨ao, cap, rfl, hc1, hc2⟩ := hb.slice
  obtain ⟨w0, hW, hb0, hs0, hr⟩ := rbox w
  obtain ⟨c0, c1, c2, c3, f0, f1, f2, f3, hz⟩ := hr w0 (Below.refl _ _)
  have hres := outV_zero (e := 1) (below_set4 hb0 (Nat.le_refl _) (.int .i64 0) (.int .i64 0) (.string ⟨#[]⟩) (.slice none 0 0))
  clear hr hb hd
  go_enter Try.func43, Try.ntmps43
  go_wp2_with fail
  refine (hS _).mono ?_
  rintro e w1 ⟨rfl, rfl⟩
  clear hS
  go_wp2_with fail
  exact bodyPost_ret (v := .tuple #[.agg #[.int .i64 0, .int .i64 0, .string ⟨#[]⟩, .slice none 0 0], .int .i64 1]) (by simp [results, Try.results43, go_sem, hz, c0, c1, c2, c3]) rfl hres
set_option maxRecDepth 100000 in
set_option maxHeartbeats 1000000 in
theorem rdecode_some {B : Nat → Prop} {T : Ty} (hT : T.dp ≤ 4) {w : World} {sl : Value} {bs : List UInt8} (hb : IsB B w sl bs) (hl : bs.length ≤ 1000000) :
    Calls Try.prog 43 #[sl, .string ⟨(tyT T).toArray⟩] w fun r w' => OutV w (dcV (tyT T) bs) r w' := by
  have hlen := (tyT_len T).2
  have hS := rtype_l (tyT T) (by omega)
  have hg : gType (tyT T) = true := by unfold gType; rw [tyOf_ty hT]; rfl
  rw [hg] at hS
  have hd : Hid (dcV (tyT T) bs = if (rdV T (some bs)).2 = some [] then (if fitS (tyT T) (rdV T (some bs)).1 = true then ((rdV T (some bs)).1, 0) else (V.zero, 11)) else (V.zero, 11)) := by show _ = _; unfold dcV; rw [tyOf_ty hT]
  have hwt : wt (rdV T (some bs)).1 ≤ 4611686018427387904 := by
    have h1 := rdV_wt T (some bs)
    have h2 : 300 ^ T.dp ≤ 300 ^ 4 := Nat.pow_le_pow_right (by omega) hT
    omega
  have hRd : Hid (RdOk T) := rread_any T hT
  have hyl : (tyT T).length ≤ 9223372036854775807 := by omega
  have HF : Hid (∀ {B : Nat → Prop} {v : V} {sl : Value} {w : World}, IsW B w v sl → wt v ≤ 4611686018427387904 → Calls Try.prog 23 #[.agg #[.int .i64 v.k, .int .i64 v.n, .string ⟨v.t.toArray⟩, sl], .string ⟨(tyT T).toArray⟩] w fun r w' => r = .returned (.bool (fitS (tyT T) v)) ∧ Below w.heap.size w w') := fun hv hw => rfits_any hyl hv hw
  obtain ⟨w0, hW, hb0, hs0, hr⟩ := rbox w
  obtain ⟨ao, cap, rfl, hc1, hc2⟩ := hb.slice
  obtain ⟨wa, a1, c1, w1, hWa, hr1, ho1, hb1⟩ := fresh8 (hb.since (Since.of_below hb0)) hl
  have hsl1 := owns_b ho1
  obtain ⟨w2, hW2⟩ : ∃ w2, w1.alloc (.cells #[.slice a1 bs.length c1, .bool false] 79) = w2 := ⟨_, rfl⟩
  have hb2 : Below w1.heap.size w1 w2 := by rw [← hW2]; exact (Below.refl _ _).alloc (Nat.le_refl _) _
  have hs2 : w2.heap.size = w1.heap.size + 1 := by rw [← hW2]; simp
  have hrd2 : RdD w2 w1.heap.size (some bs) := by
    rw [← hW2]
    exact ⟨_, bs, heap_new _ _, (hsl1.base (B' := fun j => j < w1.heap.size) (fun j _ h2 => h2)).since (Since.of_below ((Below.refl _ _).alloc (Nat.le_refl _) _)), fun b hb => Option.some.inj hb⟩
  have hR := hRd.out w2 w1.heap.size (some bs) hrd2 hl
  unfold RdPost at hR
  have hs1 := hb1.size
  have hB2 : Below w0.heap.size w0 w2 := hb1.trans (hb2.mono hs1)
  obtain ⟨p, Hp⟩ : ∃ p, Hid (rdV T (some bs) = p) := ⟨_, rfl⟩
  rw [Hp.out] at hR hd hwt
  rw [hs0] at hr1
  clear hb hlen hyl hg hT ho1 hsl1 hRd hrd2
  go_enter Try.func43, Try.ntmps43
  go_wp2_with fail
  refine (hS _).mono ?_
  rintro e w9 ⟨rfl, hw⟩
  obtain rfl := hw.symm
  clear hS
  go_wp2_with (at_builtin; refine Lib.wpList_append_run _ rfl _ _ 52 52 rfl _ _ rfl rfl _ _ hr1 ?_)
  refine hR.mono ?_
  rintro e w3 ⟨⟨x, ax, cx, rfl, hx3, hxp⟩, hrd3, ho3⟩
  clear hR hr1 hWa hW2
  have hs3 := ho3.size
  have hb3 : Below w0.heap.size w0 w3 := hB2.trans (ho3.below (by omega) hs1)
  obtain ⟨wz, w4, hWz, hW4, hb4, hs4, hsz, hblk4, ⟨y0, y1, y2, y3⟩, ⟨z0, z1, z2, z3⟩⟩ := rdbox w3 (.int .i64 x.k) (.int .i64 x.n) (.string ⟨x.t.toArray⟩) (.slice ax x.l.length cx)
  have hrd4 := hrd3.keep hb4
  have hx4 := hx3.below hb4
  have hB4 : Below w0.heap.size w0 w4 := hb3.trans (hb4.mono (by omega))
  obtain ⟨r0, r1, r2, r3, s0, s1, s2, s3, hz⟩ := hr w4 hB4
  obtain ⟨t0, t1, t2, t3, -⟩ := cells_of4 hblk4
  obtain ⟨ra, rn, rc, g0, g1, g2, g3, g4, g5, g6⟩ := hrd4.cells
  have h11 : ∀ w', Below w0.heap.size w0 w' → OutV w (V.zero, 11) (.returned (.tuple #[.agg #[.int .i64 0, .int .i64 0, .string ⟨#[]⟩, .slice none 0 0], .int .i64 11])) (set4 w' w.heap.size (.int .i64 0) (.int .i64 0) (.string ⟨#[]⟩) (.slice none 0 0)) := fun w' hb' => outV_zero (e := 11) (below_set4 (hb0.trans (hb'.mono (by omega))) (Nat.le_refl _) _ _ _ _)
  clear hrd3 hrd4 hx3
  rcases hp2 : p.2 with _ | l
  · have hdd : Hid (dcV (tyT T) bs = (V.zero, 11)) := by show _ = _; rw [hd.out, if_neg (by rw [hp2]; simp)]
    rw [hp2] at g1
    simp only [Option.isNone_none] at g1
    have hres := h11 w4 hB4
    rw [← hdd.out] at hres
    clear h11 hd hx4 hdd HF hp2 hxp g6 hr
    go_wp2_with fail
    exact bodyPost_ret (v := .tuple #[.agg #[.int .i64 0, .int .i64 0, .string ⟨#[]⟩, .slice none 0 0], .int .i64 11]) (by simp [results, Try.results43, go_sem, hz, r0, r1, r2, r3]) rfl hres
  · have hxe : x = p.1 := hxp (by rw [hp2]; simp)
    rw [hp2] at g1
    simp only [Option.isNone_some] at g1
    have hrn := g6 l hp2
    clear hxp g6
    by_cases hl0 : l = []
    · have hdd : Hid (dcV (tyT T) bs = if fitS (tyT T) x = true then (x, 0) else (V.zero, 11)) := by show _ = _; rw [hd.out, if_pos (by rw [hp2, hl0]), hxe]
      have hn0 : ¬ (0 : Int) < (rn : Int) := by rw [hrn, hl0]; simp
      have hf4 := HF.out hx4 (by rw [hxe]; exact hwt)
      clear hd hp2 hl0 hxe HF hrn
      go_wp2_with fail
      refine hf4.mono ?_
      rintro e w5 ⟨rfl, hb5⟩
      clear hf4 r0 r1 r2 r3 s0 s1 s2 s3 hz
      have hB5 : Below w0.heap.size w0 w5 := hB4.trans (hb5.mono (by omega))
      obtain ⟨r0, r1, r2, r3, s0, s1, s2, s3, hz⟩ := hr w5 hB5
      have hblk5 := (hb5.block _ (by omega)).trans hblk4
      obtain ⟨v0, v1, v2, v3, -⟩ := cells_of4 hblk5
      clear t0 t1 t2 t3 y0 y1 y2 y3 z0 z1 z2 z3 hr hWz hW4 g0 g1 g2 g3
      cases hfit : fitS (tyT T) x
      · rw [hfit, if_neg (by simp)] at hdd
        have hres := h11 w5 hB5
        rw [← hdd.out] at hres
        clear h11 hdd hx4
        go_wp2_with fail
        exact bodyPost_ret (v := .tuple #[.agg #[.int .i64 0, .int .i64 0, .string ⟨#[]⟩, .slice none 0 0], .int .i64 11]) (by simp [results, Try.results43, go_sem, hz, r0, r1, r2, r3]) rfl hres
      · rw [hfit, if_pos rfl] at hdd
        have hres : OutV w (x, 0) (.returned (.tuple #[.agg #[.int .i64 x.k, .int .i64 x.n, .string ⟨x.t.toArray⟩, .slice ax x.l.length cx], .int .i64 0])) (set4 w5 w.heap.size (.int .i64 x.k) (.int .i64 x.n) (.string ⟨x.t.toArray⟩) (.slice ax x.l.length cx)) := by
          refine ⟨⟨ax, cx, rfl, ?_⟩, below_set4 (hb0.trans (hB5.mono (by omega))) (Nat.le_refl _) _ _ _ _⟩
          exact ((hx4.below hb5).since (since_set4 (g := w.heap.size) (by show ¬ (w2.heap.size ≤ w.heap.size); omega) _ _ _ _)).base (fun k hk _ => by show w.heap.size ≤ k; have : w2.heap.size ≤ k := hk; omega)
        rw [← hdd.out] at hres
        clear h11 hdd hx4
        go_wp2_with fail
        exact bodyPost_ret (v := .tuple #[.agg #[.int .i64 x.k, .int .i64 x.n, .string ⟨x.t.toArray⟩, .slice ax x.l.length cx], .int .i64 0]) (by simp [results, Try.results43, go_sem, hz, r0, r1, r2, r3]) rfl hres
    · have hdd : Hid (dcV (tyT T) bs = (V.zero, 11)) := by show _ = _; rw [hd.out, if_neg (by rw [hp2]; simpa using hl0)]
      have hn0 : (0 : Int) < (rn : Int) := by have := List.length_pos_iff.2 hl0; omega
      have hres := h11 w4 hB4
      rw [← hdd.out] at hres
      clear h11 hd hx4 hdd HF hp2 hxe hl0 hrn hr
      go_wp2_with fail
      exact bodyPost_ret (v := .tuple #[.agg #[.int .i64 0, .int .i64 0, .string ⟨#[]⟩, .slice none 0 0], .int .i64 11]) (by simp [results, Try.results43, go_sem, hz, r0, r1, r2, r3]) rfl hres
theorem rdecode_any {B : Nat → Prop} {y : List UInt8} (hy : y.length ≤ 9223372036854775807) {w : World} {sl : Value} {bs : List UInt8} (hb : IsB B w sl bs) (hl : bs.length ≤ 1000000) :
    Calls Try.prog 43 #[sl, .string ⟨y.toArray⟩] w fun r w' => OutV w (dcV y bs) r w' := by
  rcases hT : tyOf y with _ | T
  · exact rdecode_none hy hb hT
  · obtain ⟨h1, h2⟩ := (tyOf_iff _ _).1 hT
    subst h1
    exact rdecode_some h2 hb hl
end Go.Proofs.Ytkbplffckkjbfaa
