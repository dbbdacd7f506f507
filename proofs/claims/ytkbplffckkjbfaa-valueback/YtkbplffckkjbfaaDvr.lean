/- Values read: the program's, those with nothing within. -/
import Derived.Test.YtkbplffckkjbfaaDvm
import Derived.Test.YtkbplffckkjbfaaGv
import Derived.Test.YtkbplffckkjbfaaVn
namespace Go.Proofs.Ytkbplffckkjbfaa
open Go.RowKit
set_option linter.unusedVariables false
set_option linter.unusedSimpArgs false

theorem rdbox (w : World) (x0 x1 x2 x3 : Value) : ∃ wz w4, w.alloc (.cells #[.int .i64 0, .int .i64 0, .string ⟨#[]⟩, .slice none 0 0] 24) = wz ∧ set4 wz w.heap.size x0 x1 x2 x3 = w4 ∧ Below w.heap.size w w4 ∧ w4.heap.size = w.heap.size + 1 ∧ wz.heap.size = w.heap.size + 1 ∧ w4.heap[w.heap.size]? = some (.cells #[x0, x1, x2, x3] 24 (0, 0)) ∧
    (wz.cell? ⟨w.heap.size, 0, none⟩ = some (.int .i64 0) ∧ wz.cell? ⟨w.heap.size, 1, none⟩ = some (.int .i64 0) ∧ wz.cell? ⟨w.heap.size, 2, none⟩ = some (.string ⟨#[]⟩) ∧ wz.cell? ⟨w.heap.size, 3, none⟩ = some (.slice none 0 0)) ∧ (wz.frozen? ⟨w.heap.size, 0, none⟩ = false ∧ wz.frozen? ⟨w.heap.size, 1, none⟩ = false ∧ wz.frozen? ⟨w.heap.size, 2, none⟩ = false ∧ wz.frozen? ⟨w.heap.size, 3, none⟩ = false) := by
  obtain ⟨wz, hWz, hbz, hszz, hrz⟩ := rbox w
  obtain ⟨y0, y1, y2, y3, z0, z1, z2, z3, hzz⟩ := hrz wz (Below.refl _ _)
  exact ⟨wz, _, hWz, rfl, below_set4 hbz (Nat.le_refl _) _ _ _ _, by rw [set4_size]; omega, hszz, set4_blk (rbox_blk hWz (Below.refl _ _)) _ _ _ _, ⟨y0, y1, y2, y3⟩, ⟨z0, z1, z2, z3⟩⟩
/-- It answers the value that is read, in new memory; of what there was only the reader is turned. -/
def ReadPost (T : Ty) (w : World) (r : Nat) (st : RSt) (e : Ending) (w' : World) : Prop := (∃ ao cap, e = .returned (.agg #[.int .i64 (rdV T st).1.k, .int .i64 (rdV T st).1.n, .string ⟨(rdV T st).1.t.toArray⟩, .slice ao (rdV T st).1.l.length cap]) ∧ IsW (From w.heap.size) w' (rdV T st).1 (.slice ao (rdV T st).1.l.length cap)) ∧ RdS w' r (rdV T st).2 ∧ Only r w w'
def ReadOk (T : Ty) : Prop := ∀ (w : World) (r : Nat) (st : RSt), RdS w r st → lft st ≤ 1000000 → Calls Try.prog 69 #[.pointer (some ⟨r, 0, none⟩), .string ⟨(tyT T).toArray⟩] w fun e w' => ReadPost T w r st e w'
theorem set_1 {w : World} {g : Nat} {y0 y1 y2 y3 : Value} {T : TypeId} (h : w.heap[g]? = some (.cells #[y0, y1, y2, y3] T (0, 0))) (x : Value) : (w.setCell ⟨g, 1, none⟩ x).heap[g]? = some (.cells #[y0, x, y2, y3] T (0, 0)) := by
  simp [World.setCell, Array.getElem?_modify, h]
theorem set_2 {w : World} {g : Nat} {y0 y1 y2 y3 : Value} {T : TypeId} (h : w.heap[g]? = some (.cells #[y0, y1, y2, y3] T (0, 0))) (x : Value) : (w.setCell ⟨g, 2, none⟩ x).heap[g]? = some (.cells #[y0, y1, x, y3] T (0, 0)) := by
  simp [World.setCell, Array.getElem?_modify, h]
theorem Only.set4 {r : Nat} {w w' : World} (h : Only r w w') {g : Nat} (hg : w.heap.size ≤ g) (x0 x1 x2 x3 : Value) : Only r w (Go.Proofs.Ytkbplffckkjbfaa.set4 w' g x0 x1 x2 x3) := (((h.setCell hg 0 x0).setCell hg 1 x1).setCell hg 2 x2).setCell hg 3 x3
theorem RdS.set4 {w : World} {r g : Nat} {st : Option (List UInt8)} (h : RdS w r st) (hg : r < g) (x0 x1 x2 x3 : Value) : RdS (Go.Proofs.Ytkbplffckkjbfaa.set4 w g x0 x1 x2 x3) r st := (((h.setCell hg 0 x0).setCell hg 1 x1).setCell hg 2 x2).setCell hg 3 x3
theorem Only.cells {r : Nat} {w w' : World} (h : Only r w w') {g : Nat} (h1 : g < w.heap.size) (h2 : g ≠ r) {o : Obj} (hg : w.heap[g]? = some o) : w'.heap[g]? = some o := (h.block g h1 h2).trans hg
theorem rdI_r (st : RSt) : InR (rdI st).1 := by
  have h := rdN_le (rdU 1 st).2
  unfold rdI InR
  dsimp only
  split <;> omega
theorem str_b {B : Nat → Prop} {w : World} {sl : Value} {bs : List UInt8} (h : IsB B w sl bs) : (convert 52 9 sl).run Try.prog w = .ok (.string ⟨bs.toArray⟩) w := by
  obtain ⟨ao, cap, rfl, h1, h2, h3, h4⟩ := h
  cases ao with
  | none =>
    have := h3 rfl
    have : bs = [] := List.length_eq_zero_iff.1 (by omega)
    subst this
    exact run_convert_bytes_nil (P := Try.prog) w 52 5 Try.underlying52 Try.underlying5 _ _ 9 Try.underlying9
  | some a =>
    refine run_convert_bytes_back (P := Try.prog) w 52 9 5 a cap bs Try.underlying52 Try.underlying5 Try.underlying9 (fun j hj => ?_)
    obtain ⟨g, o, e1, _, _, e4⟩ := h4 (by rintro rfl; simp at hj)
    obtain rfl := Option.some.inj e1
    have := e4 j bs[j] (List.getElem?_eq_getElem hj)
    by_cases h0 : j = 0
    · subst h0; simpa [Addr.add] using this
    · simpa [Addr.add, h0] using this
set_option maxRecDepth 100000 in
set_option maxHeartbeats 1000000 in
theorem read_int : ReadOk .int := by
  intro w r st h hlft
  have hZ := zero_any (tyT .int) (by decide)
  have hkd : kdOf (tyT .int) = 1 := by unfold kdOf; rw [tyOf_ty (by decide)]; rfl
  rw [hkd] at hZ
  clear hkd
  have hrl := h.lt
  obtain ⟨w0, hW, hb0, hs0, hr⟩ := rbox w
  have hP : Hid (∀ (w' : World) , IsW (From w.heap.size) w' (rdV .int st).1 (.slice none 0 0)) := fun w' => ⟨Nat.zero_le _, by show InR 1; constructor <;> decide, rdI_r st, IsVs.nil⟩
  generalize hty : tyT .int = ty at *
  clear hty
  go_enter Try.func69, Try.ntmps69
  go_wp2_with fail
  refine (hZ _).mono ?_
  rintro e w1 ⟨rfl, hb1⟩
  clear hZ
  obtain ⟨wz, w4, hWz, hW4, hb14, hs4, hsz, hblk4, ⟨y0, y1, y2, y3⟩, ⟨z0, z1, z2, z3⟩⟩ := rdbox w1 (.int .i64 1) (.int .i64 0) (.string ⟨#[]⟩) (.slice none 0 0)
  have hs1 := hb1.size
  have hb4 : Below w.heap.size w w4 := hb0.trans ((hb1.mono (by omega)).trans (hb14.mono (by omega)))
  have hR := readInt_any (h.keep hb4)
  obtain ⟨q0, q1, q2, q3, -⟩ := cells_of4 hblk4
  clear h
  go_wp2_with fail
  refine hR.mono ?_
  rintro e w5 ⟨rfl, hr5, ho5⟩
  clear hR q0 q1 q2 q3 y0 y1 y2 y3 z0 z1 z2 z3
  have hblk5 := ho5.cells (by omega) (by omega) hblk4
  obtain ⟨q0, q1, q2, q3, p0, p1, p2, p3⟩ := cells_of4 hblk5
  obtain ⟨w6, hW6⟩ : ∃ w6, w5.setCell ⟨w1.heap.size, 1, none⟩ (.int .i64 (rdI st).1) = w6 := ⟨_, rfl⟩
  have hblk6 : w6.heap[w1.heap.size]? = some (.cells #[.int .i64 1, .int .i64 (rdI st).1, .string ⟨#[]⟩, .slice none 0 0] 24 (0, 0)) := by rw [← hW6]; exact set_1 hblk5 _
  have ho6 : Only r w w6 := by rw [← hW6]; exact ((Only.of_below hb4).trans ho5).setCell (by omega) _ _
  have hr6 : RdS w6 r (rdI st).2 := by rw [← hW6]; exact hr5.setCell (by omega) _ _
  have hbR0 : w4.heap[w.heap.size]? = some (.cells #[.int .i64 0, .int .i64 0, .string ⟨#[]⟩, .slice none 0 0] 24 (0, 0)) := rbox_blk hW (hb1.trans (hb14.mono hs1))
  have hbR : w6.heap[w.heap.size]? = some (.cells #[.int .i64 0, .int .i64 0, .string ⟨#[]⟩, .slice none 0 0] 24 (0, 0)) := by rw [← hW6, Below.heap_setCell _ _ _ _ (by show w.heap.size ≠ w1.heap.size; omega)]; exact ho5.cells (by omega) (by omega) hbR0
  obtain ⟨m0, m1, m2, m3, -⟩ := cells_of4 hblk6
  obtain ⟨s0, s1, s2, s3, t0, t1, t2, t3⟩ := cells_of4 hbR
  have hz : w.heap.size < w6.heap.size := (Array.getElem?_eq_some_iff.1 hbR).1
  clear hr hW hWz hW4 hbR0
  go_wp2_with fail
  exact bodyPost_ret (v := .agg #[.int .i64 1, .int .i64 (rdI st).1, .string ⟨#[]⟩, .slice none 0 0]) (by simp [results, Try.results69, go_sem, hz, s0, s1, s2, s3]) rfl ⟨⟨none, 0, rfl, hP.out _⟩, hr6.set4 hrl _ _ _ _, ho6.set4 (Nat.le_refl _) _ _ _ _⟩
set_option maxRecDepth 100000 in
set_option maxHeartbeats 1000000 in
theorem read_bool : ReadOk .bool := by
  intro w r st h hlft
  have hZ := zero_any (tyT .bool) (by decide)
  have hkd : kdOf (tyT .bool) = 2 := by unfold kdOf; rw [tyOf_ty (by decide)]; rfl
  rw [hkd] at hZ
  clear hkd
  have hrl := h.lt
  obtain ⟨w0, hW, hb0, hs0, hr⟩ := rbox w
  have hP : Hid (∀ (w' : World) , IsW (From w.heap.size) w' (rdV .bool st).1 (.slice none 0 0)) := fun w' => ⟨Nat.zero_le _, by show InR 2; constructor <;> decide, by have := rdU_le 1 st; show InR ((rdU 1 st).1 : Nat); unfold InR; omega, IsVs.nil⟩
  generalize hty : tyT .bool = ty at *
  clear hty
  go_enter Try.func69, Try.ntmps69
  go_wp2_with fail
  refine (hZ _).mono ?_
  rintro e w1 ⟨rfl, hb1⟩
  clear hZ
  obtain ⟨wz, w4, hWz, hW4, hb14, hs4, hsz, hblk4, ⟨y0, y1, y2, y3⟩, ⟨z0, z1, z2, z3⟩⟩ := rdbox w1 (.int .i64 2) (.int .i64 0) (.string ⟨#[]⟩) (.slice none 0 0)
  have hs1 := hb1.size
  have hb4 : Below w.heap.size w w4 := hb0.trans ((hb1.mono (by omega)).trans (hb14.mono (by omega)))
  have hR : Calls Try.prog 88 #[.pointer (some ⟨r, 0, none⟩), .int .i64 1] w4 fun e w' => e = .returned (.int .i64 ((rdU 1 st).1 : Nat)) ∧ RdS w' r (rdU 1 st).2 ∧ Only r w4 w' := upTo_any (h.keep hb4) 1 (by omega)
  obtain ⟨q0, q1, q2, q3, -⟩ := cells_of4 hblk4
  clear h
  go_wp2_with fail
  refine hR.mono ?_
  rintro e w5 ⟨rfl, hr5, ho5⟩
  clear hR q0 q1 q2 q3 y0 y1 y2 y3 z0 z1 z2 z3
  have hblk5 := ho5.cells (by omega) (by omega) hblk4
  obtain ⟨q0, q1, q2, q3, p0, p1, p2, p3⟩ := cells_of4 hblk5
  obtain ⟨w6, hW6⟩ : ∃ w6, w5.setCell ⟨w1.heap.size, 1, none⟩ (.int .i64 ((rdU 1 st).1 : Nat)) = w6 := ⟨_, rfl⟩
  have hblk6 : w6.heap[w1.heap.size]? = some (.cells #[.int .i64 2, .int .i64 ((rdU 1 st).1 : Nat), .string ⟨#[]⟩, .slice none 0 0] 24 (0, 0)) := by rw [← hW6]; exact set_1 hblk5 _
  have ho6 : Only r w w6 := by rw [← hW6]; exact ((Only.of_below hb4).trans ho5).setCell (by omega) _ _
  have hr6 : RdS w6 r (rdU 1 st).2 := by rw [← hW6]; exact hr5.setCell (by omega) _ _
  have hbR0 : w4.heap[w.heap.size]? = some (.cells #[.int .i64 0, .int .i64 0, .string ⟨#[]⟩, .slice none 0 0] 24 (0, 0)) := rbox_blk hW (hb1.trans (hb14.mono hs1))
  have hbR : w6.heap[w.heap.size]? = some (.cells #[.int .i64 0, .int .i64 0, .string ⟨#[]⟩, .slice none 0 0] 24 (0, 0)) := by rw [← hW6, Below.heap_setCell _ _ _ _ (by show w.heap.size ≠ w1.heap.size; omega)]; exact ho5.cells (by omega) (by omega) hbR0
  obtain ⟨m0, m1, m2, m3, -⟩ := cells_of4 hblk6
  obtain ⟨s0, s1, s2, s3, t0, t1, t2, t3⟩ := cells_of4 hbR
  have hz : w.heap.size < w6.heap.size := (Array.getElem?_eq_some_iff.1 hbR).1
  clear hr hW hWz hW4 hbR0
  go_wp2_with fail
  exact bodyPost_ret (v := .agg #[.int .i64 2, .int .i64 ((rdU 1 st).1 : Nat), .string ⟨#[]⟩, .slice none 0 0]) (by simp [results, Try.results69, go_sem, hz, s0, s1, s2, s3]) rfl ⟨⟨none, 0, rfl, hP.out _⟩, hr6.set4 hrl _ _ _ _, ho6.set4 (Nat.le_refl _) _ _ _ _⟩
theorem bytesR_any {w : World} {r : Nat} {st : Option (List UInt8)} (h : RdS w r st) (n : Nat) (hl : lft st ≤ 1000000) :
    Calls Try.prog 89 #[.pointer (some ⟨r, 0, none⟩), .int .i64 n] w fun e w' => (∃ sl', e = .returned sl' ∧ IsB (From w.heap.size) w' sl' (rdB n st).1) ∧ RdS w' r (rdB n st).2 ∧ Only r w w' := by
  by_cases hn : n ≤ (st.getD []).length
  · have e : rdB n st = ((st.getD []).take n, st.map (·.drop n)) := by
      rcases st with _ | bs
      · simp [rdB]
      · simp only [Option.getD_some] at hn
        simp only [rdB]
        rw [if_neg (by omega)]
        simp
    rw [e]
    exact bytes_ok h hn hl
  · have e : rdB n st = ([], none) := by
      rcases st with _ | bs
      · simp [rdB]
      · simp only [Option.getD_some] at hn
        simp only [rdB]
        rw [if_pos (by omega)]
    rw [e]
    refine (bytesR_neg h (n := n) (Or.inr (by omega))).mono ?_
    rintro e w' ⟨rfl, h1, h2⟩
    exact ⟨⟨_, rfl, IsB.nil⟩, h1, h2⟩
set_option maxRecDepth 100000 in
set_option maxHeartbeats 1000000 in
theorem read_text : ReadOk .text := by
  intro w r st h hlft
  have hZ := zero_any (tyT .text) (by decide)
  have hkd : kdOf (tyT .text) = 3 := by unfold kdOf; rw [tyOf_ty (by decide)]; rfl
  rw [hkd] at hZ
  clear hkd
  have hrl := h.lt
  obtain ⟨w0, hW, hb0, hs0, hr⟩ := rbox w
  have hP : Hid (∀ (w' : World) , IsW (From w.heap.size) w' (rdV .text st).1 (.slice none 0 0)) := fun w' => ⟨by have h1 := rdU_le 256 st; have h2 := rdB_len (rdU 256 st).1 (rdU 256 st).2; show (rdB (rdU 256 st).1 (rdU 256 st).2).1.length ≤ maxLen; unfold maxLen; omega, by show InR 3; constructor <;> decide, by show InR 0; constructor <;> decide, IsVs.nil⟩
  generalize hty : tyT .text = ty at *
  clear hty
  go_enter Try.func69, Try.ntmps69
  go_wp2_with fail
  refine (hZ _).mono ?_
  rintro e w1 ⟨rfl, hb1⟩
  clear hZ
  obtain ⟨wz, w4, hWz, hW4, hb14, hs4, hsz, hblk4, ⟨y0, y1, y2, y3⟩, ⟨z0, z1, z2, z3⟩⟩ := rdbox w1 (.int .i64 3) (.int .i64 0) (.string ⟨#[]⟩) (.slice none 0 0)
  have hs1 := hb1.size
  have hb4 : Below w.heap.size w w4 := hb0.trans ((hb1.mono (by omega)).trans (hb14.mono (by omega)))
  have hR : Calls Try.prog 88 #[.pointer (some ⟨r, 0, none⟩), .int .i64 256] w4 fun e w' => e = .returned (.int .i64 ((rdU 256 st).1 : Nat)) ∧ RdS w' r (rdU 256 st).2 ∧ Only r w4 w' := upTo_any (h.keep hb4) 256 (by omega)
  have hlu : lft (rdU 256 st).2 ≤ 1000000 := Nat.le_trans (rdU_lft _ _) hlft
  have hut : Hid ((rdV .text st).1 = .mk 3 0 (rdB (rdU 256 st).1 (rdU 256 st).2).1 [] ∧ (rdV .text st).2 = (rdB (rdU 256 st).1 (rdU 256 st).2).2) := ⟨rfl, rfl⟩
  obtain ⟨u, HU⟩ : ∃ u, Hid (rdU 256 st = u) := ⟨_, rfl⟩
  rw [HU.out] at hR hlu hut
  obtain ⟨b, HB⟩ : ∃ b, Hid (rdB u.1 u.2 = b) := ⟨_, rfl⟩
  rw [HB.out] at hut
  clear hlft HU
  obtain ⟨q0, q1, q2, q3, -⟩ := cells_of4 hblk4
  clear h
  go_wp2_with fail
  refine hR.mono ?_
  rintro e w45 ⟨rfl, hr45, ho45⟩
  clear hR q0 q1 q2 q3
  have hBy := bytesR_any hr45 u.1 hlu
  rw [HB.out] at hBy
  go_wp2_with fail
  refine hBy.mono ?_
  rintro e w5 ⟨⟨sl5, rfl, hsl5⟩, hr5, ho455⟩
  have ho5 : Only r w4 w5 := ho45.trans ho455
  have hcv := str_b hsl5
  obtain ⟨a5, c5, rfl, -, -⟩ := hsl5.slice
  clear hBy hsl5 HB hr45
  clear y0 y1 y2 y3 z0 z1 z2 z3
  have hblk5 := ho5.cells (by omega) (by omega) hblk4
  obtain ⟨q0, q1, q2, q3, p0, p1, p2, p3⟩ := cells_of4 hblk5
  obtain ⟨w6, hW6⟩ : ∃ w6, w5.setCell ⟨w1.heap.size, 2, none⟩ (.string ⟨b.1.toArray⟩) = w6 := ⟨_, rfl⟩
  have hblk6 : w6.heap[w1.heap.size]? = some (.cells #[.int .i64 3, .int .i64 0, .string ⟨b.1.toArray⟩, .slice none 0 0] 24 (0, 0)) := by rw [← hW6]; exact set_2 hblk5 _
  have ho6 : Only r w w6 := by rw [← hW6]; exact ((Only.of_below hb4).trans ho5).setCell (by omega) _ _
  have hr6 : RdS w6 r b.2 := by rw [← hW6]; exact hr5.setCell (by omega) _ _
  have hbR0 : w4.heap[w.heap.size]? = some (.cells #[.int .i64 0, .int .i64 0, .string ⟨#[]⟩, .slice none 0 0] 24 (0, 0)) := rbox_blk hW (hb1.trans (hb14.mono hs1))
  have hbR : w6.heap[w.heap.size]? = some (.cells #[.int .i64 0, .int .i64 0, .string ⟨#[]⟩, .slice none 0 0] 24 (0, 0)) := by rw [← hW6, Below.heap_setCell _ _ _ _ (by show w.heap.size ≠ w1.heap.size; omega)]; exact ho5.cells (by omega) (by omega) hbR0
  obtain ⟨m0, m1, m2, m3, -⟩ := cells_of4 hblk6
  obtain ⟨s0, s1, s2, s3, t0, t1, t2, t3⟩ := cells_of4 hbR
  have hz : w.heap.size < w6.heap.size := (Array.getElem?_eq_some_iff.1 hbR).1
  clear hr hW hWz hW4 hbR0
  go_wp2_with fail
  exact bodyPost_ret (v := .agg #[.int .i64 3, .int .i64 0, .string ⟨b.1.toArray⟩, .slice none 0 0]) (by simp [results, Try.results69, go_sem, hz, s0, s1, s2, s3]) rfl ⟨⟨none, 0, by rw [hut.out.1]; rfl, by have h9 := hP.out; rw [hut.out.1] at h9 ⊢; exact h9 _⟩, by rw [hut.out.2]; exact hr6.set4 hrl _ _ _ _, ho6.set4 (Nat.le_refl _) _ _ _ _⟩
end Go.Proofs.Ytkbplffckkjbfaa
