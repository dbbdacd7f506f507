/- Values read: the program's, those with nothing within. -/
import Derived.Test.YtkbplffckkjbfaaDvm
import Derived.Test.YtkbplffckkjbfaaGv
import Derived.Test.YtkbplffckkjbfaaVn
import Derived.Test.YtkbplffckkjbfaaRcp
import Derived.Test.YtkbplffckkjbfaaVu
import Derived.Test.YtkbplffckkjbfaaVf
namespace Go.Proofs.Ytkbplffckkjbfaa
open Go.RowKit
set_option linter.unusedVariables false
set_option linter.unusedSimpArgs false

theorem rdbox (w : World) (x0 x1 x2 x3 : Value) : ∃ wz w4, w.alloc (.cells #[.int .i64 0, .int .i64 0, .string ⟨#[]⟩, .slice none 0 0] 24) = wz ∧ set4 wz w.heap.size x0 x1 x2 x3 = w4 ∧ Below w.heap.size w w4 ∧ w4.heap.size = w.heap.size + 1 ∧ wz.heap.size = w.heap.size + 1 ∧ w4.heap[w.heap.size]? = some (.cells #[x0, x1, x2, x3] 24 (0, 0)) ∧
    (wz.cell? ⟨w.heap.size, 0, none⟩ = some (.int .i64 0) ∧ wz.cell? ⟨w.heap.size, 1, none⟩ = some (.int .i64 0) ∧ wz.cell? ⟨w.heap.size, 2, none⟩ = some (.string ⟨#[]⟩) ∧ wz.cell? ⟨w.heap.size, 3, none⟩ = some (.slice none 0 0)) ∧ (wz.frozen? ⟨w.heap.size, 0, none⟩ = false ∧ wz.frozen? ⟨w.heap.size, 1, none⟩ = false ∧ wz.frozen? ⟨w.heap.size, 2, none⟩ = false ∧ wz.frozen? ⟨w.heap.size, 3, none⟩ = false) := by
  obtain ⟨wz, hWz, hbz, hszz, hrz⟩ := rbox w
  obtain ⟨y0, y1, y2, y3, z0, z1, z2, z3, hzz⟩ := hrz wz (Below.refl _ _)
  exact ⟨wz, _, hWz, rfl, below_set4 hbz (Nat.le_refl _) _ _ _ _, by rw [set4_size]; omega, hszz, set4_blk (rbox_blk hWz (Below.refl _ _)) _ _ _ _, ⟨y0, y1, y2, y3⟩, ⟨z0, z1, z2, z3⟩⟩
/-- It answers the value that is read, in new memory; of what there was only the reader is turned. -/
def ReadPost (T : Ty) (w : World) (r : Nat) (st : RSt) (e : Ending) (w' : World) : Prop := (∃ ao cap, e = .returned (.agg #[.int .i64 (rdV T st).1.k, .int .i64 (rdV T st).1.n, .string ⟨(rdV T st).1.t.toArray⟩, .slice ao (rdV T st).1.l.length cap]) ∧ IsW (From w.heap.size) w' (rdV T st).1 (.slice ao (rdV T st).1.l.length cap)) ∧ RdS w' r (rdV T st).2 ∧ Only r w w'
def ReadOk (T : Ty) : Prop := ∀ (w : World) (r : Nat) (st : RSt), RdS w r st → lft st ≤ 1000000 → Calls Try.prog 69 #[.pointer (some ⟨r, 0, none⟩), .string ⟨(tyT T).toArray⟩] w fun e w' => ReadPost T w r st e w'
theorem set_1 {w : World} {g : Nat} {y0 y1 y2 y3 : Value} {T : TypeId} (h : w.heap[g]? = some (.cells #[y0, y1, y2, y3] T (0, 0))) (x : Value) : (w.setCell ⟨g, 1, none⟩ x).heap[g]? = some (.cells #[y0, x, y2, y3] T (0, 0)) := by
  simp [World.setCell, Array.getElem?_modify, h]
theorem set_2 {w : World} {g : Nat} {y0 y1 y2 y3 : Value} {T : TypeId} (h : w.heap[g]? = some (.cells #[y0, y1, y2, y3] T (0, 0))) (x : Value) : (w.setCell ⟨g, 2, none⟩ x).heap[g]? = some (.cells #[y0, y1, x, y3] T (0, 0)) := by
  simp [World.setCell, Array.getElem?_modify, h]
theorem Only.set4 {r : Nat} {w w' : World} (h : Only r w w') {g : Nat} (hg : w.heap.size ≤ g) (x0 x1 x2 x3 : Value) : Only r w (Go.Proofs.Ytkbplffckkjbfaa.set4 w' g x0 x1 x2 x3) := (((h.setCell hg 0 x0).setCell hg 1 x1).setCell hg 2 x2).setCell hg 3 x3
theorem RdS.set4 {w : World} {r g : Nat} {st : Option (List UInt8)} (h : RdS w r st) (hg : r < g) (x0 x1 x2 x3 : Value) : RdS (Go.Proofs.Ytkbplffckkjbfaa.set4 w g x0 x1 x2 x3) r st := (((h.setCell hg 0 x0).setCell hg 1 x1).setCell hg 2 x2).setCell hg 3 x3
theorem Only.cells {r : Nat} {w w' : World} (h : Only r w w') {g : Nat} (h1 : g < w.heap.size) (h2 : g ≠ r) {o : Obj} (hg : w.heap[g]? = some o) : w'.heap[g]? = some o := (h.block g h1 h2).trans hg
theorem rdI_r (st : RSt) : InR (rdI st).1 := by
  have h := rdN_le (rdU 1 st).2
  unfold rdI InR
  dsimp only
  split <;> omega
theorem str_b {B : Nat → Prop} {w : World} {sl : Value} {bs : List UInt8} (h : IsB B w sl bs) : (convert 52 9 sl).run Try.prog w = .ok (.string ⟨bs.toArray⟩) w := by
  obtain ⟨ao, cap, rfl, h1, h2, h3, h4⟩ := h
  cases ao with
  | none =>
    have := h3 rfl
    have : bs = [] := List.length_eq_zero_iff.1 (by omega)
    subst this
    exact run_convert_bytes_nil (P := Try.prog) w 52 5 Try.underlying52 Try.underlying5 _ _ 9 Try.underlying9
  | some a =>
    refine run_convert_bytes_back (P := Try.prog) w 52 9 5 a cap bs Try.underlying52 Try.underlying5 Try.underlying9 (fun j hj => ?_)
    obtain ⟨g, o, e1, _, _, e4⟩ := h4 (by rintro rfl; simp at hj)
    obtain rfl := Option.some.inj e1
    have := e4 j bs[j] (List.getElem?_eq_getElem hj)
    by_cases h0 : j = 0
    · subst h0; simpa [Addr.add] using this
    · simpa [Addr.add, h0] using this
set_option maxRecDepth 100000 in
set_option maxHeartbeats 1000000 in
theorem read_int : ReadOk .int := by
  intro w r st h hlft
  have hZ := zero_any (tyT .int) (by decide)
  have hkd : kdOf (tyT .int) = 1 := by unfold kdOf; rw [tyOf_ty (by decide)]; rfl
  rw [hkd] at hZ
  clear hkd
  have hrl := h.lt
  obtain ⟨w0, hW, hb0, hs0, hr⟩ := rbox w
  have hP : Hid (∀ (w' : World) , IsW (From w.heap.size) w' (rdV .int st).1 (.slice none 0 0)) := fun w' => ⟨Nat.zero_le _, by show InR 1; constructor <;> decide, rdI_r st, IsVs.nil⟩
  generalize hty : tyT .int = ty at *
  clear hty
  go_enter Try.func69, Try.ntmps69
  go_wp2_with fail
  refine (hZ _).mono ?_
  rintro e w1 ⟨rfl, hb1⟩
  clear hZ
  obtain ⟨wz, w4, hWz, hW4, hb14, hs4, hsz, hblk4, ⟨y0, y1, y2, y3⟩, ⟨z0, z1, z2, z3⟩⟩ := rdbox w1 (.int .i64 1) (.int .i64 0) (.string ⟨#[]⟩) (.slice none 0 0)
  have hs1 := hb1.size
  have hb4 : Below w.heap.size w w4 := hb0.trans ((hb1.mono (by omega)).trans (hb14.mono (by omega)))
  have hR := readInt_any (h.keep hb4)
  obtain ⟨q0, q1, q2, q3, -⟩ := cells_of4 hblk4
  clear h
  go_wp2_with fail
  refine hR.mono ?_
  rintro e w5 ⟨rfl, hr5, ho5⟩
  clear hR q0 q1 q2 q3 y0 y1 y2 y3 z0 z1 z2 z3
  have hblk5 := ho5.cells (by omega) (by omega) hblk4
  obtain ⟨q0, q1, q2, q3, p0, p1, p2, p3⟩ := cells_of4 hblk5
  obtain ⟨w6, hW6⟩ : ∃ w6, w5.setCell ⟨w1.heap.size, 1, none⟩ (.int .i64 (rdI st).1) = w6 := ⟨_, rfl⟩
  have hblk6 : w6.heap[w1.heap.size]? = some (.cells #[.int .i64 1, .int .i64 (rdI st).1, .string ⟨#[]⟩, .slice none 0 0] 24 (0, 0)) := by rw [← hW6]; exact set_1 hblk5 _
  have ho6 : Only r w w6 := by rw [← hW6]; exact ((Only.of_below hb4).trans ho5).setCell (by omega) _ _
  have hr6 : RdS w6 r (rdI st).2 := by rw [← hW6]; exact hr5.setCell (by omega) _ _
  have hbR0 : w4.heap[w.heap.size]? = some (.cells #[.int .i64 0, .int .i64 0, .string ⟨#[]⟩, .slice none 0 0] 24 (0, 0)) := rbox_blk hW (hb1.trans (hb14.mono hs1))
  have hbR : w6.heap[w.heap.size]? = some (.cells #[.int .i64 0, .int .i64 0, .string ⟨#[]⟩, .slice none 0 0] 24 (0, 0)) := by rw [← hW6, Below.heap_setCell _ _ _ _ (by show w.heap.size ≠ w1.heap.size; omega)]; exact ho5.cells (by omega) (by omega) hbR0
  obtain ⟨m0, m1, m2, m3, -⟩ := cells_of4 hblk6
  obtain ⟨s0, s1, s2, s3, t0, t1, t2, t3⟩ := cells_of4 hbR
  have hz : w.heap.size < w6.heap.size := (Array.getElem?_eq_some_iff.1 hbR).1
  clear hr hW hWz hW4 hbR0
  go_wp2_with fail
  exact bodyPost_ret (v := .agg #[.int .i64 1, .int .i64 (rdI st).1, .string ⟨#[]⟩, .slice none 0 0]) (by simp [results, Try.results69, go_sem, hz, s0, s1, s2, s3]) rfl ⟨⟨none, 0, rfl, hP.out _⟩, hr6.set4 hrl _ _ _ _, ho6.set4 (Nat.le_refl _) _ _ _ _⟩
set_option maxRecDepth 100000 in
set_option maxHeartbeats 1000000 in
theorem read_bool : ReadOk .bool := by
  intro w r st h hlft
  have hZ := zero_any (tyT .bool) (by decide)
  have hkd : kdOf (tyT .bool) = 2 := by unfold kdOf; rw [tyOf_ty (by decide)]; rfl
  rw [hkd] at hZ
  clear hkd
  have hrl := h.lt
  obtain ⟨w0, hW, hb0, hs0, hr⟩ := rbox w
  have hP : Hid (∀ (w' : World) , IsW (From w.heap.size) w' (rdV .bool st).1 (.slice none 0 0)) := fun w' => ⟨Nat.zero_le _, by show InR 2; constructor <;> decide, by have := rdU_le 1 st; show InR ((rdU 1 st).1 : Nat); unfold InR; omega, IsVs.nil⟩
  generalize hty : tyT .bool = ty at *
  clear hty
  go_enter Try.func69, Try.ntmps69
  go_wp2_with fail
  refine (hZ _).mono ?_
  rintro e w1 ⟨rfl, hb1⟩
  clear hZ
  obtain ⟨wz, w4, hWz, hW4, hb14, hs4, hsz, hblk4, ⟨y0, y1, y2, y3⟩, ⟨z0, z1, z2, z3⟩⟩ := rdbox w1 (.int .i64 2) (.int .i64 0) (.string ⟨#[]⟩) (.slice none 0 0)
  have hs1 := hb1.size
  have hb4 : Below w.heap.size w w4 := hb0.trans ((hb1.mono (by omega)).trans (hb14.mono (by omega)))
  have hR : Calls Try.prog 88 #[.pointer (some ⟨r, 0, none⟩), .int .i64 1] w4 fun e w' => e = .returned (.int .i64 ((rdU 1 st).1 : Nat)) ∧ RdS w' r (rdU 1 st).2 ∧ Only r w4 w' := upTo_any (h.keep hb4) 1 (by omega)
  obtain ⟨q0, q1, q2, q3, -⟩ := cells_of4 hblk4
  clear h
  go_wp2_with fail
  refine hR.mono ?_
  rintro e w5 ⟨rfl, hr5, ho5⟩
  clear hR q0 q1 q2 q3 y0 y1 y2 y3 z0 z1 z2 z3
  have hblk5 := ho5.cells (by omega) (by omega) hblk4
  obtain ⟨q0, q1, q2, q3, p0, p1, p2, p3⟩ := cells_of4 hblk5
  obtain ⟨w6, hW6⟩ : ∃ w6, w5.setCell ⟨w1.heap.size, 1, none⟩ (.int .i64 ((rdU 1 st).1 : Nat)) = w6 := ⟨_, rfl⟩
  have hblk6 : w6.heap[w1.heap.size]? = some (.cells #[.int .i64 2, .int .i64 ((rdU 1 st).1 : Nat), .string ⟨#[]⟩, .slice none 0 0] 24 (0, 0)) := by rw [← hW6]; exact set_1 hblk5 _
  have ho6 : Only r w w6 := by rw [← hW6]; exact ((Only.of_below hb4).trans ho5).setCell (by omega) _ _
  have hr6 : RdS w6 r (rdU 1 st).2 := by rw [← hW6]; exact hr5.setCell (by omega) _ _
  have hbR0 : w4.heap[w.heap.size]? = some (.cells #[.int .i64 0, .int .i64 0, .string ⟨#[]⟩, .slice none 0 0] 24 (0, 0)) := rbox_blk hW (hb1.trans (hb14.mono hs1))
  have hbR : w6.heap[w.heap.size]? = some (.cells #[.int .i64 0, .int .i64 0, .string ⟨#[]⟩, .slice none 0 0] 24 (0, 0)) := by rw [← hW6, Below.heap_setCell _ _ _ _ (by show w.heap.size ≠ w1.heap.size; omega)]; exact ho5.cells (by omega) (by omega) hbR0
  obtain ⟨m0, m1, m2, m3, -⟩ := cells_of4 hblk6
  obtain ⟨s0, s1, s2, s3, t0, t1, t2, t3⟩ := cells_of4 hbR
  have hz : w.heap.size < w6.heap.size := (Array.getElem?_eq_some_iff.1 hbR).1
  clear hr hW hWz hW4 hbR0
  go_wp2_with fail
  exact bodyPost_ret (v := .agg #[.int .i64 2, .int .i64 ((rdU 1 st).1 : Nat), .string ⟨#[]⟩, .slice none 0 0]) (by simp [results, Try.results69, go_sem, hz, s0, s1, s2, s3]) rfl ⟨⟨none, 0, rfl, hP.out _⟩, hr6.set4 hrl _ _ _ _, ho6.set4 (Nat.le_refl _) _ _ _ _⟩
theorem bytesR_any {w : World} {r : Nat} {st : Option (List UInt8)} (h : RdS w r st) (n : Nat) (hl : lft st ≤ 1000000) :
    Calls Try.prog 89 #[.pointer (some ⟨r, 0, none⟩), .int .i64 n] w fun e w' => (∃ sl', e = .returned sl' ∧ IsB (From w.heap.size) w' sl' (rdB n st).1) ∧ RdS w' r (rdB n st).2 ∧ Only r w w' := by
  by_cases hn : n ≤ (st.getD []).length
  · have e : rdB n st = ((st.getD []).take n, st.map (·.drop n)) := by
      rcases st with _ | bs
      · simp [rdB]
      · simp only [Option.getD_some] at hn
        simp only [rdB]
        rw [if_neg (by omega)]
        simp
    rw [e]
    exact bytes_ok h hn hl
  · have e : rdB n st = ([], none) := by
      rcases st with _ | bs
      · simp [rdB]
      · simp only [Option.getD_some] at hn
        simp only [rdB]
        rw [if_pos (by omega)]
    rw [e]
    refine (bytesR_neg h (n := n) (Or.inr (by omega))).mono ?_
    rintro e w' ⟨rfl, h1, h2⟩
    exact ⟨⟨_, rfl, IsB.nil⟩, h1, h2⟩
set_option maxRecDepth 100000 in
set_option maxHeartbeats 1000000 in
theorem read_text : ReadOk .text := by
  intro w r st h hlft
  have hZ := zero_any (tyT .text) (by decide)
  have hkd : kdOf (tyT .text) = 3 := by unfold kdOf; rw [tyOf_ty (by decide)]; rfl
  rw [hkd] at hZ
  clear hkd
  have hrl := h.lt
  obtain ⟨w0, hW, hb0, hs0, hr⟩ := rbox w
  have hP : Hid (∀ (w' : World) , IsW (From w.heap.size) w' (rdV .text st).1 (.slice none 0 0)) := fun w' => ⟨by have h1 := rdU_le 256 st; have h2 := rdB_len (rdU 256 st).1 (rdU 256 st).2; show (rdB (rdU 256 st).1 (rdU 256 st).2).1.length ≤ maxLen; unfold maxLen; omega, by show InR 3; constructor <;> decide, by show InR 0; constructor <;> decide, IsVs.nil⟩
  generalize hty : tyT .text = ty at *
  clear hty
  go_enter Try.func69, Try.ntmps69
  go_wp2_with fail
  refine (hZ _).mono ?_
  rintro e w1 ⟨rfl, hb1⟩
  clear hZ
  obtain ⟨wz, w4, hWz, hW4, hb14, hs4, hsz, hblk4, ⟨y0, y1, y2, y3⟩, ⟨z0, z1, z2, z3⟩⟩ := rdbox w1 (.int .i64 3) (.int .i64 0) (.string ⟨#[]⟩) (.slice none 0 0)
  have hs1 := hb1.size
  have hb4 : Below w.heap.size w w4 := hb0.trans ((hb1.mono (by omega)).trans (hb14.mono (by omega)))
  have hR : Calls Try.prog 88 #[.pointer (some ⟨r, 0, none⟩), .int .i64 256] w4 fun e w' => e = .returned (.int .i64 ((rdU 256 st).1 : Nat)) ∧ RdS w' r (rdU 256 st).2 ∧ Only r w4 w' := upTo_any (h.keep hb4) 256 (by omega)
  have hlu : lft (rdU 256 st).2 ≤ 1000000 := Nat.le_trans (rdU_lft _ _) hlft
  have hut : Hid ((rdV .text st).1 = .mk 3 0 (rdB (rdU 256 st).1 (rdU 256 st).2).1 [] ∧ (rdV .text st).2 = (rdB (rdU 256 st).1 (rdU 256 st).2).2) := ⟨rfl, rfl⟩
  obtain ⟨u, HU⟩ : ∃ u, Hid (rdU 256 st = u) := ⟨_, rfl⟩
  rw [HU.out] at hR hlu hut
  obtain ⟨b, HB⟩ : ∃ b, Hid (rdB u.1 u.2 = b) := ⟨_, rfl⟩
  rw [HB.out] at hut
  clear hlft HU
  obtain ⟨q0, q1, q2, q3, -⟩ := cells_of4 hblk4
  clear h
  go_wp2_with fail
  refine hR.mono ?_
  rintro e w45 ⟨rfl, hr45, ho45⟩
  clear hR q0 q1 q2 q3
  have hBy := bytesR_any hr45 u.1 hlu
  rw [HB.out] at hBy
  go_wp2_with fail
  refine hBy.mono ?_
  rintro e w5 ⟨⟨sl5, rfl, hsl5⟩, hr5, ho455⟩
  have ho5 : Only r w4 w5 := ho45.trans ho455
  have hcv := str_b hsl5
  obtain ⟨a5, c5, rfl, -, -⟩ := hsl5.slice
  clear hBy hsl5 HB hr45
  clear y0 y1 y2 y3 z0 z1 z2 z3
  have hblk5 := ho5.cells (by omega) (by omega) hblk4
  obtain ⟨q0, q1, q2, q3, p0, p1, p2, p3⟩ := cells_of4 hblk5
  obtain ⟨w6, hW6⟩ : ∃ w6, w5.setCell ⟨w1.heap.size, 2, none⟩ (.string ⟨b.1.toArray⟩) = w6 := ⟨_, rfl⟩
  have hblk6 : w6.heap[w1.heap.size]? = some (.cells #[.int .i64 3, .int .i64 0, .string ⟨b.1.toArray⟩, .slice none 0 0] 24 (0, 0)) := by rw [← hW6]; exact set_2 hblk5 _
  have ho6 : Only r w w6 := by rw [← hW6]; exact ((Only.of_below hb4).trans ho5).setCell (by omega) _ _
  have hr6 : RdS w6 r b.2 := by rw [← hW6]; exact hr5.setCell (by omega) _ _
  have hbR0 : w4.heap[w.heap.size]? = some (.cells #[.int .i64 0, .int .i64 0, .string ⟨#[]⟩, .slice none 0 0] 24 (0, 0)) := rbox_blk hW (hb1.trans (hb14.mono hs1))
  have hbR : w6.heap[w.heap.size]? = some (.cells #[.int .i64 0, .int .i64 0, .string ⟨#[]⟩, .slice none 0 0] 24 (0, 0)) := by rw [← hW6, Below.heap_setCell _ _ _ _ (by show w.heap.size ≠ w1.heap.size; omega)]; exact ho5.cells (by omega) (by omega) hbR0
  obtain ⟨m0, m1, m2, m3, -⟩ := cells_of4 hblk6
  obtain ⟨s0, s1, s2, s3, t0, t1, t2, t3⟩ := cells_of4 hbR
  have hz : w.heap.size < w6.heap.size := (Array.getElem?_eq_some_iff.1 hbR).1
  clear hr hW hWz hW4 hbR0
  go_wp2_with fail
  exact bodyPost_ret (v := .agg #[.int .i64 3, .int .i64 0, .string ⟨b.1.toArray⟩, .slice none 0 0]) (by simp [results, Try.results69, go_sem, hz, s0, s1, s2, s3]) rfl ⟨⟨none, 0, by rw [hut.out.1]; rfl, by have h9 := hP.out; rw [hut.out.1] at h9 ⊢; exact h9 _⟩, by rw [hut.out.2]; exact hr6.set4 hrl _ _ _ _, ho6.set4 (Nat.le_refl _) _ _ _ _⟩
end Go.Proofs.Ytkbplffckkjbfaa
namespace Go.Proofs.Ytkbplffckkjbfaa
open Go.RowKit
set_option linter.unusedVariables false
set_option linter.unusedSimpArgs false
attribute [local go_sem ↓] Go.wp_at_zero Go.wp_at_succ

theorem Only.low {r m : Nat} {w w1 w2 : World} (h : Only r w w1) (hb : Below m w1 w2) (hm : w.heap.size ≤ m) : Only r w w2 := ⟨hb.os.trans h.os, hb.tape.trans h.tape, hb.output.trans h.output, Nat.le_trans h.size hb.size, fun k h1 h2 => (hb.block k (by omega)).trans (h.block k h1 h2)⟩
theorem RdS.low {r m : Nat} {w1 w2 : World} {st : RSt} (h : RdS w1 r st) (hb : Below m w1 w2) (hm : r < m) : RdS w2 r st := h.up (fun k hk => hb.block k (by omega)) hb.size
theorem rdLs_snoc (f : RSt → V × RSt) : ∀ (n : Nat) (st : RSt), rdLs f (n + 1) st = ((rdLs f n st).1 ++ [(f (rdLs f n st).2).1], (f (rdLs f n st).2).2)
  | 0, st => rfl
  | n + 1, st => by
    have h := rdLs_snoc f n (f st).2
    rw [rdLs, h]
    rfl
theorem rdMs_snoc (f g : RSt → V × RSt) : ∀ (n : Nat) (st : RSt), rdMs f g (n + 1) st = ((rdMs f g n st).1 ++ [(f (rdMs f g n st).2).1, (g (f (rdMs f g n st).2).2).1], (g (f (rdMs f g n st).2).2).2)
  | 0, st => rfl
  | n + 1, st => by
    have h := rdMs_snoc f g n (g (f st).2).2
    rw [rdMs, h]
    rfl
set_option maxRecDepth 100000 in
set_option maxHeartbeats 4000000 in
theorem read_list {E : Ty} (hT : (Ty.list E).dp ≤ 4) (hE : ReadOk E) : ReadOk (.list E) := by
  have HE : Hid (ReadOk E) := hE
  have HD : Hid ((Ty.list E).dp ≤ 4) := hT
  clear hE
  intro w r st h hlft
  have hlenT := (tyT_len (.list E)).2
  have hZ := zero_any (tyT (.list E)) (by omega)
  have hL := list_any (tyT (.list E)) (by omega)
  have hkd : kdOf (tyT (.list E)) = 4 := by unfold kdOf; rw [tyOf_ty hT]; rfl
  have hel : elT (tyT (.list E)) = (tyT E, true) := by unfold elT; rw [tyOf_ty hT]
  rw [hel] at hL
  rw [hkd] at hZ
  clear hkd hel
  have hrl := h.lt
  obtain ⟨w0, hW, hb0, hs0, hr⟩ := rbox w
  clear hr
  generalize hty : tyT (.list E) = ty at *
  clear hty hlenT
  have hlu : lft (rdU 64 st).2 ≤ 1000000 := Nat.le_trans (rdU_lft _ _) hlft
  have hul := rdU_le 64 st
  go_enter Try.func69, Try.ntmps69
  go_wp2_with fail
  refine (hZ _).mono ?_
  rintro e w1 ⟨rfl, hb1⟩
  clear hZ
  obtain ⟨wz, w4, hWz, hW4, hb14, hs4, hsz, hblk4, ⟨y0, y1, y2, y3⟩, ⟨z0, z1, z2, z3⟩⟩ := rdbox w1 (.int .i64 4) (.int .i64 0) (.string ⟨#[]⟩) (.slice none 0 0)
  have hs1 := hb1.size
  have hb4 : Below w.heap.size w w4 := hb0.trans ((hb1.mono (by omega)).trans (hb14.mono (by omega)))
  obtain ⟨q0, q1, q2, q3, -⟩ := cells_of4 hblk4
  go_wp2_with fail
  refine (hL _).mono ?_
  rintro e w5 ⟨rfl, hb5⟩
  clear hL q0 q1 q2 q3 y0 y1 y2 y3 z0 z1 z2 z3
  have hR : Calls Try.prog 88 #[.pointer (some ⟨r, 0, none⟩), .int .i64 64] w5 fun e w' => e = .returned (.int .i64 ((rdU 64 st).1 : Nat)) ∧ RdS w' r (rdU 64 st).2 ∧ Only r w5 w' := upTo_any ((h.keep hb4).keep hb5) 64 (by omega)
  obtain ⟨u, HU⟩ : ∃ u, Hid (rdU 64 st = u) := ⟨_, rfl⟩
  rw [HU.out] at hR hlu hul
  clear h hlft
  go_wp2_with fail
  refine hR.mono ?_
  rintro e w6 ⟨rfl, hr6, ho6⟩
  clear hR
  have hs5 := hb5.size
  have hs6 := ho6.size
  have hO6 : Only r w w6 := ((Only.of_below hb4).low hb5 (by omega)).trans ⟨ho6.os, ho6.tape, ho6.output, ho6.size, ho6.block⟩
  have hblk6 : w6.heap[w1.heap.size]? = some (.cells #[.int .i64 4, .int .i64 0, .string ⟨#[]⟩, .slice none 0 0] 24 (0, 0)) := ho6.cells (by omega) (by omega) ((hb5.block _ (by omega)).trans hblk4)
  have hbR4 : w4.heap[w.heap.size]? = some (.cells #[.int .i64 0, .int .i64 0, .string ⟨#[]⟩, .slice none 0 0] 24 (0, 0)) := rbox_blk hW (hb1.trans (hb14.mono hs1))
  have hbR6 : w6.heap[w.heap.size]? = some (.cells #[.int .i64 0, .int .i64 0, .string ⟨#[]⟩, .slice none 0 0] 24 (0, 0)) := ho6.cells (by omega) (by omega) ((hb5.block _ (by omega)).trans hbR4)
  have hws : w.heap.size < w1.heap.size := by omega
  clear ho6 hblk4 hbR4 hW hWz hW4 hb14 hb5 hb1 hb0
  have hfin : Hid ((rdV (.list E) st).1 = .mk 4 0 [] (rdLs (rdV E) u.1 u.2).1 ∧ (rdV (.list E) st).2 = (rdLs (rdV E) u.1 u.2).2) := by
    rw [← HU.out]; exact ⟨rfl, rfl⟩
  clear HU HD hT
  go_wp2_with fail
  go_loopg [42] u.1 (fun g i wr => ∃ (q : Nat) (sa : Option Addr) (sc : Nat), q ≤ u.1 ∧ g = u.1 - q ∧ i = .int .i64 q ∧ Hid (Only r w wr ∧ w4.heap.size ≤ wr.heap.size ∧ RdS wr r (rdLs (rdV E) q u.2).2 ∧ wr.heap[w1.heap.size]? = some (.cells #[.int .i64 4, .int .i64 0, .string ⟨#[]⟩, .slice sa q sc] 24 (0, 0)) ∧ wr.heap[w.heap.size]? = some (.cells #[.int .i64 0, .int .i64 0, .string ⟨#[]⟩, .slice none 0 0] 24 (0, 0)) ∧ Gv (From w4.heap.size) wr (.slice sa q sc) (rdLs (rdV E) q u.2).1))
  case atStart => exact ⟨0, none, 0, Nat.zero_le _, rfl, rfl, hO6, by omega, hr6, hblk6, hbR6, Gv.nil _ _⟩
  case round =>
    obtain ⟨q, sa, sc, hq, rfl, rfl, HR⟩ := hrel
    obtain ⟨hOr, hsr, hRr, hbr, hbRr, hGr⟩ := HR.out
    clear HR hO6 hr6 hblk6 hbR6 hs6
    have hlft2 : lft (rdLs (rdV E) q u.2).2 ≤ 1000000 := Nat.le_trans (rdLs_lft (rdV_lft E) q u.2) hlu
    have hlq : (rdLs (rdV E) q u.2).1.length = q := rdLs_len _ _ _
    have hnx := rdLs_snoc (rdV E) q u.2
    obtain ⟨s, Hs⟩ : ∃ s, Hid (rdLs (rdV E) q u.2 = s) := ⟨_, rfl⟩
    rw [Hs.out] at hRr hGr hlft2 hlq hnx
    obtain ⟨t0, t1, t2, t3, -⟩ := cells_of4 hbr
    have hgr : w1.heap.size < wr.heap.size := by omega
    by_cases hlt : q < u.1
    · have hltI : (q : Int) < (u.1 : Int) := by omega
      have hcall : Calls Try.prog 69 #[.pointer (some ⟨r, 0, none⟩), .string ⟨(tyT E).toArray⟩] wr.drew fun e w' => ReadPost E wr.drew r s.2 e w' := HE.out wr.drew r s.2 (hRr.keep (Below.refl _ _).drew) hlft2
      unfold ReadPost at hcall
      obtain ⟨p, Hp⟩ : ∃ p, Hid (rdV E s.2 = p) := ⟨_, rfl⟩
      rw [Hp.out] at hcall hnx
      have hlq' : Hid (s.1.length = q) := hlq
      have HN : Hid (rdLs (rdV E) (q + 1) u.2 = (s.1 ++ [p.1], p.2)) := hnx
      clear hlq hnx Hs Hp t0 t1 t2 hlu hlft2
      go_wp2_with fail
      refine wpE_begin (S := fun w' => w'.cell? ⟨w1.heap.size, 3, none⟩ = some (.slice sa q sc) ∧ True) (N := fun j => decide (j < 6)) (by kernel_rfl) ?_
      have hS0 : wr.drew.cell? ⟨w1.heap.size, 3, none⟩ = some (.slice sa q sc) ∧ True := ⟨t3, trivial⟩
      refine wpE_takeX (some 44) (fun j => [1, 6, 7, 8].contains j) (i := 0) (v := .pointer (some ⟨w1.heap.size, 3, none⟩)) rfl rfl (by kernel_rfl) (by kernel_rfl) (by kernel_rfl) (by kernel_rfl) (fun j hj => by simp at hj; show j < 9; omega) (fun _ _ _ h => h) rfl (fun w' hS => by obtain ⟨g0, -⟩ := hS; go_simp) hS0 ?_
      try simp only [Act.put, List.setIfInBounds_toArray, List.set_cons_zero, List.set_cons_succ]
      refine wpE_takeX (some 45) (fun j => [6, 7, 8].contains j) (i := 1) (v := .slice sa q sc) rfl rfl (by kernel_rfl) (by kernel_rfl) (by kernel_rfl) (by kernel_rfl) (fun j hj => by simp at hj; show j < 9; omega) (fun _ _ _ h => h) rfl (fun w' hS => by obtain ⟨g0, -⟩ := hS; go_simp) hS0 ?_
      try simp only [Act.put, List.setIfInBounds_toArray, List.set_cons_zero, List.set_cons_succ]
      refine wpE_takeX (some 46) (fun j => [4, 5, 6, 7, 8].contains j) (i := 2) (v := .pointer (some ⟨r, 0, none⟩)) rfl rfl (by kernel_rfl) (by kernel_rfl) (by kernel_rfl) (by kernel_rfl) (fun j hj => by simp at hj; show j < 9; omega) (fun _ _ _ h => h) rfl (fun w' hS => by obtain ⟨g0, -⟩ := hS; go_simp) hS0 ?_
      try simp only [Act.put, List.setIfInBounds_toArray, List.set_cons_zero, List.set_cons_succ]
      refine wpE_takeX (some 47) (fun j => [4, 5, 6, 7, 8].contains j) (i := 3) (v := .string ⟨(tyT E).toArray⟩) rfl rfl (by kernel_rfl) (by kernel_rfl) (by kernel_rfl) (by kernel_rfl) (fun j hj => by simp at hj; show j < 9; omega) (fun _ _ _ h => h) rfl (fun w' hS => by obtain ⟨g0, -⟩ := hS; go_simp) hS0 ?_
      try simp only [Act.put, List.setIfInBounds_toArray, List.set_cons_zero, List.set_cons_succ]
      refine wpE_one (i := 4) (by kernel_rfl) rfl rfl (fun K hK => ?_)
      go_simp
      refine hcall.mono ?_
      rintro e wc ⟨⟨ax, cx, rfl, hxc⟩, hrc, hoc'⟩
      have hoc : Only r wr wc := (Only.of_below (Below.refl _ _).drew).trans hoc'
      clear hoc' hcall
      have hsc := hoc.size
      have k0 : wc.cell? ⟨w1.heap.size, 3, none⟩ = some (.slice sa q sc) := (World.cell?_of_block (hoc.block _ hgr (by show w1.heap.size ≠ r; omega))).trans t3
      refine hK _ _ (fun _ => ⟨k0, trivial⟩) ?_
      clear hK K
      try simp only [Act.put, List.setIfInBounds_toArray, List.set_cons_zero, List.set_cons_succ]
      obtain ⟨wa, hWa⟩ : ∃ wa, wc.alloc (.cells #[.int .i64 p.1.k, .int .i64 p.1.n, .string ⟨p.1.t.toArray⟩, .slice ax p.1.l.length cx] 24) = wa := ⟨_, rfl⟩
      have hba : Below wc.heap.size wc wa := by rw [← hWa]; exact (Below.refl _ _).alloc (Nat.le_refl _) _
      have hblka : wa.heap[wc.heap.size]? = some (.cells #[.int .i64 p.1.k, .int .i64 p.1.n, .string ⟨p.1.t.toArray⟩, .slice ax p.1.l.length cx] 24) := by rw [← hWa]; exact heap_new _ _
      have hsa : wa.heap.size = wc.heap.size + 1 := by rw [← hWa]; simp
      refine wpE_one (i := 5) (by kernel_rfl) rfl rfl (fun K hK => ?_)
      go_simp
      refine hK _ _ (fun _ => ⟨((bcell hba).1 _ _ (by omega)).trans k0, trivial⟩) ?_
      clear hK K
      try simp only [Act.put, List.setIfInBounds_toArray, List.set_cons_zero, List.set_cons_succ]
      have hGc : Gv (From w4.heap.size) wc (.slice sa q sc) s.1 := hGr.since (hoc.since (by show ¬ (w4.heap.size ≤ r); omega))
      have hGa : Gv (From w4.heap.size) wa (.slice sa q sc) s.1 := hGc.below hba
      obtain ⟨g7, c7, w7, hr7, hG7, hb7, hf7, -⟩ := hGa.push (l2 := [p.1]) (ad := ⟨wc.heap.size, 0, none⟩) (by simp) (by simp) (World.news_of_block hblka) (AllV.one (isV_iff.2 ⟨_, rfl, (hxc.below hba).base (B' := fun k => From w4.heap.size k ∧ (Value.slice sa q sc).ownBlock ≠ some k) (fun k h1 _ => by have h2 : wr.heap.size ≤ k := h1; exact ⟨by show w4.heap.size ≤ k; omega, hGr.apart h2⟩)⟩)) (by rw [hlq'.out]; simp; omega) (fun k hk => by show w4.heap.size ≤ k; omega) 1 22
      replace hb7 : Below w4.heap.size wa w7 := hb7 _ (by omega) (fun k hk => hk)
      rw [hlq'.out] at hr7 hG7
      refine wpE_one (i := 6) (by kernel_rfl) rfl rfl (fun K hK => ?_)
      refine wp_append_run _ _ 22 rfl _ _ rfl rfl _ _ hr7 ?_
      refine hK _ _ (fun h => by cases h) ?_
      clear hK K
      try simp only [Act.put, List.setIfInBounds_toArray, List.set_cons_zero, List.set_cons_succ]
      have hbr7 : w7.heap[w1.heap.size]? = some (.cells #[.int .i64 4, .int .i64 0, .string ⟨#[]⟩, .slice sa q sc] 24 (0, 0)) := by
        rw [hb7.block _ (by omega), hba.block _ (by omega), hoc.block _ (by omega) (by omega)]; exact hbr
      have hbR7 : w7.heap[w.heap.size]? = some (.cells #[.int .i64 0, .int .i64 0, .string ⟨#[]⟩, .slice none 0 0] 24 (0, 0)) := by
        rw [hb7.block _ (by omega), hba.block _ (by omega), hoc.block _ (by omega) (by omega)]; exact hbRr
      obtain ⟨m0, m1, m2, m3, n0, n1, n2, n3⟩ := cells_of4 hbr7
      refine wpE_one (i := 7) (by kernel_rfl) rfl rfl (fun K hK => ?_)
      go_simp
      refine hK _ _ (fun h => by cases h) ?_
      clear hK K
      try simp only [Act.put, List.setIfInBounds_toArray, List.set_cons_zero, List.set_cons_succ]
      refine wpE_one (i := 8) (by kernel_rfl) rfl rfl (fun K hK => ?_)
      go_simp
      refine hK _ _ (fun h => by cases h) ?_
      clear hK K
      try simp only [Act.put, List.setIfInBounds_toArray, List.set_cons_zero, List.set_cons_succ]
      refine wpE_done (by kernel_rfl) ?_
      obtain ⟨w8, hW8⟩ : ∃ w8, w7.setCell ⟨w1.heap.size, 3, none⟩ (.slice (some ⟨g7, 0, none⟩) (q + 1) c7) = w8 := ⟨_, rfl⟩
      have hs7 := hb7.size
      have hnew : Hid (Only r w w8 ∧ w4.heap.size ≤ w8.heap.size ∧ RdS w8 r (rdLs (rdV E) (q + 1) u.2).2 ∧ w8.heap[w1.heap.size]? = some (.cells #[.int .i64 4, .int .i64 0, .string ⟨#[]⟩, .slice (some ⟨g7, 0, none⟩) (q + 1) c7] 24 (0, 0)) ∧ w8.heap[w.heap.size]? = some (.cells #[.int .i64 0, .int .i64 0, .string ⟨#[]⟩, .slice none 0 0] 24 (0, 0)) ∧ Gv (From w4.heap.size) w8 (.slice (some ⟨g7, 0, none⟩) (q + 1) c7) (rdLs (rdV E) (q + 1) u.2).1) := by
        rw [HN.out, ← hW8]
        refine ⟨?_, ?_, ?_, set_3 hbr7 _, ?_, ?_⟩
        · exact ((((hOr.trans ⟨hoc.os, hoc.tape, hoc.output, hoc.size, hoc.block⟩).low hba (by omega)).low hb7 (by omega)).setCell (by omega) _ _)
        · have : (w7.setCell ⟨w1.heap.size, 3, none⟩ (.slice (some ⟨g7, 0, none⟩) (q + 1) c7)).heap.size = w7.heap.size := by simp [World.setCell]
          omega
        · exact ((hrc.low hba (by omega)).low hb7 (by omega)).setCell (by omega) _ _
        · rw [Below.heap_setCell _ _ _ _ (by show w.heap.size ≠ w1.heap.size; omega)]; exact hbR7
        · refine Gv.since hG7 ⟨by simp [World.setCell], fun k h1 _ => Below.heap_setCell _ _ _ _ ?_⟩
          show k ≠ w1.heap.size
          have : w4.heap.size ≤ k := h1
          omega
      rw [hW8]
      clear hG7 hGa hGc hGr hxc hb7 hba hr7 k0 m0 m1 m2 m3 n0 n1 n2 n3 hW8 hrc hoc hf7 hbr7 hbR7 hblka t3 hbr hbRr hRr hOr HN hWa
      simp only [Exit.inBlock, Exit.then]
      refine ‹∀ (a : Act) (w : World), _ → _› _ _ ?_
      go_wp2_with fail
      go_roundg (u.1 - (q + 1))
      case measure => omega
      case rel => exact ⟨q + 1, some ⟨g7, 0, none⟩, c7, by omega, rfl, by go_num, hnew⟩
    · have hltI : ¬ (q : Int) < (u.1 : Int) := by omega
      obtain rfl : q = u.1 := by omega
      rw [Hs.out] at hfin
      obtain ⟨r0, r1, r2, r3, s0, s1, s2, s3⟩ := cells_of4 hbRr
      have hz : w.heap.size < wr.heap.size := by omega
      have hres : ReadPost (.list E) w r st (.returned (.agg #[.int .i64 4, .int .i64 0, .string ⟨#[]⟩, .slice sa u.1 sc])) (set4 wr w.heap.size (.int .i64 4) (.int .i64 0) (.string ⟨#[]⟩) (.slice sa u.1 sc)) := by
        unfold ReadPost
        rw [hfin.out.1, hfin.out.2]
        refine ⟨⟨sa, sc, by rw [← hlq]; rfl, ⟨Nat.zero_le _, by show InR 4; constructor <;> decide, by show InR 0; constructor <;> decide, ?_⟩⟩, hRr.set4 hrl _ _ _ _, hOr.set4 (Nat.le_refl _) _ _ _ _⟩
        have h1 := (hGr.vs.since (since_set4 (g := w.heap.size) (by show ¬ (w4.heap.size ≤ w.heap.size); omega) (.int .i64 4) (.int .i64 0) (.string ⟨#[]⟩) (.slice sa u.1 sc))).base (B' := From w.heap.size) (fun k hk _ => by show w.heap.size ≤ k; have : w4.heap.size ≤ k := hk; omega)
        show IsVs _ _ s.1 (.slice sa s.1.length sc)
        rw [hlq]; exact h1
      clear hGr hfin Hs HE hRr hnx
      go_wp2_with fail
      exact bodyPost_ret (v := .agg #[.int .i64 4, .int .i64 0, .string ⟨#[]⟩, .slice sa u.1 sc]) (by simp [results, Try.results69, go_sem, hz, r0, r1, r2, r3]) rfl hres
end Go.Proofs.Ytkbplffckkjbfaa
namespace Go.Proofs.Ytkbplffckkjbfaa
open Go.RowKit
set_option linter.unusedVariables false
set_option linter.unusedSimpArgs false
attribute [local go_sem ↓] Go.wp_at_zero Go.wp_at_succ

set_option maxRecDepth 100000 in
set_option maxHeartbeats 4000000 in
theorem read_map {kb : Bool} {E : Ty} (hT : (Ty.map kb E).dp ≤ 4) (hK : ReadOk (keyTy kb)) (hE : ReadOk E) : ReadOk (.map kb E) := by
  have HE : Hid (ReadOk E) := hE
  have HK : Hid (ReadOk (keyTy kb)) := hK
  clear hE hK
  intro w r st h hlft
  have hlenT := (tyT_len (.map kb E)).2
  have hZ := zero_any (tyT (.map kb E)) (by omega)
  have hL := map_any (tyT (.map kb E)) (by omega)
  have hkd : kdOf (tyT (.map kb E)) = 5 := by unfold kdOf; rw [tyOf_ty hT]; rfl
  have hel : mpT (tyT (.map kb E)) = (tyT (keyTy kb), tyT E, true) := by unfold mpT; rw [tyOf_ty hT, keyTy_T]
  rw [hel] at hL
  rw [hkd] at hZ
  clear hkd hel
  have hrl := h.lt
  obtain ⟨w0, hW, hb0, hs0, hr⟩ := rbox w
  clear hr
  generalize hty : tyT (.map kb E) = ty at *
  clear hty hlenT
  have hlu : lft (rdU 64 st).2 ≤ 1000000 := Nat.le_trans (rdU_lft _ _) hlft
  have hul := rdU_le 64 st
  go_enter Try.func69, Try.ntmps69
  go_wp2_with fail
  refine (hZ _).mono ?_
  rintro e w1 ⟨rfl, hb1⟩
  clear hZ
  obtain ⟨wz, w4, hWz, hW4, hb14, hs4, hsz, hblk4, ⟨y0, y1, y2, y3⟩, ⟨z0, z1, z2, z3⟩⟩ := rdbox w1 (.int .i64 5) (.int .i64 0) (.string ⟨#[]⟩) (.slice none 0 0)
  have hs1 := hb1.size
  have hb4 : Below w.heap.size w w4 := hb0.trans ((hb1.mono (by omega)).trans (hb14.mono (by omega)))
  obtain ⟨q0, q1, q2, q3, -⟩ := cells_of4 hblk4
  go_wp2_with fail
  refine (hL _).mono ?_
  rintro e w5 ⟨rfl, hb5⟩
  clear hL q0 q1 q2 q3 y0 y1 y2 y3 z0 z1 z2 z3
  have hR : Calls Try.prog 88 #[.pointer (some ⟨r, 0, none⟩), .int .i64 64] w5 fun e w' => e = .returned (.int .i64 ((rdU 64 st).1 : Nat)) ∧ RdS w' r (rdU 64 st).2 ∧ Only r w5 w' := upTo_any ((h.keep hb4).keep hb5) 64 (by omega)
  obtain ⟨u, HU⟩ : ∃ u, Hid (rdU 64 st = u) := ⟨_, rfl⟩
  rw [HU.out] at hR hlu hul
  clear h hlft
  go_wp2_with fail
  refine hR.mono ?_
  rintro e w6 ⟨rfl, hr6, ho6⟩
  clear hR
  have hs5 := hb5.size
  have hs6 := ho6.size
  have hO6 : Only r w w6 := ((Only.of_below hb4).low hb5 (by omega)).trans ⟨ho6.os, ho6.tape, ho6.output, ho6.size, ho6.block⟩
  have hblk6 : w6.heap[w1.heap.size]? = some (.cells #[.int .i64 5, .int .i64 0, .string ⟨#[]⟩, .slice none 0 0] 24 (0, 0)) := ho6.cells (by omega) (by omega) ((hb5.block _ (by omega)).trans hblk4)
  have hbR4 : w4.heap[w.heap.size]? = some (.cells #[.int .i64 0, .int .i64 0, .string ⟨#[]⟩, .slice none 0 0] 24 (0, 0)) := rbox_blk hW (hb1.trans (hb14.mono hs1))
  have hbR6 : w6.heap[w.heap.size]? = some (.cells #[.int .i64 0, .int .i64 0, .string ⟨#[]⟩, .slice none 0 0] 24 (0, 0)) := ho6.cells (by omega) (by omega) ((hb5.block _ (by omega)).trans hbR4)
  have hws : w.heap.size < w1.heap.size := by omega
  clear ho6 hblk4 hbR4 hW hWz hW4 hb14 hb5 hb1 hb0
  have hfin : Hid ((rdV (.map kb E) st).1 = .mk 5 0 [] (rdMs (rdV (keyTy kb)) (rdV E) u.1 u.2).1 ∧ (rdV (.map kb E) st).2 = (rdMs (rdV (keyTy kb)) (rdV E) u.1 u.2).2) := by
    rw [← HU.out, rdV_key]; exact ⟨rfl, rfl⟩
  clear HU hT
  obtain ⟨K, HKK⟩ : ∃ K, Hid (keyTy kb = K) := ⟨_, rfl⟩
  rw [HKK.out] at HK hfin
  simp only [HKK.out]
  clear HKK
  go_wp2_with fail
  go_loopg [63] u.1 (fun g i wr => ∃ (q : Nat) (sa : Option Addr) (sc : Nat), q ≤ u.1 ∧ g = u.1 - q ∧ i = .int .i64 q ∧ Hid (Only r w wr ∧ w4.heap.size ≤ wr.heap.size ∧ RdS wr r (rdMs (rdV K) (rdV E) q u.2).2 ∧ wr.heap[w1.heap.size]? = some (.cells #[.int .i64 5, .int .i64 0, .string ⟨#[]⟩, .slice sa (2 * q) sc] 24 (0, 0)) ∧ wr.heap[w.heap.size]? = some (.cells #[.int .i64 0, .int .i64 0, .string ⟨#[]⟩, .slice none 0 0] 24 (0, 0)) ∧ Gv (From w4.heap.size) wr (.slice sa (2 * q) sc) (rdMs (rdV K) (rdV E) q u.2).1))
  case atStart => exact ⟨0, none, 0, Nat.zero_le _, rfl, rfl, hO6, by omega, hr6, hblk6, hbR6, Gv.nil _ _⟩
  case round =>
    obtain ⟨q, sa, sc, hq, rfl, rfl, HR⟩ := hrel
    obtain ⟨hOr, hsr, hRr, hbr, hbRr, hGr⟩ := HR.out
    clear HR hO6 hr6 hblk6 hbR6 hs6
    have hlft2 : lft (rdMs (rdV K) (rdV E) q u.2).2 ≤ 1000000 := Nat.le_trans (rdMs_lft (rdV_lft K) (rdV_lft E) q u.2) hlu
    have hlft3 : lft (rdV K (rdMs (rdV K) (rdV E) q u.2).2).2 ≤ 1000000 := Nat.le_trans (rdV_lft K _) hlft2
    have hlq : (rdMs (rdV K) (rdV E) q u.2).1.length = 2 * q := rdMs_len _ _ _ _
    have hnx := rdMs_snoc (rdV K) (rdV E) q u.2
    obtain ⟨s, Hs⟩ : ∃ s, Hid (rdMs (rdV K) (rdV E) q u.2 = s) := ⟨_, rfl⟩
    rw [Hs.out] at hRr hGr hlft2 hlft3 hlq hnx
    obtain ⟨t0, t1, t2, t3, -⟩ := cells_of4 hbr
    have hgr : w1.heap.size < wr.heap.size := by omega
    by_cases hlt : q < u.1
    · have hltI : (q : Int) < (u.1 : Int) := by omega
      have hcall : Calls Try.prog 69 #[.pointer (some ⟨r, 0, none⟩), .string ⟨(tyT K).toArray⟩] wr.drew fun e w' => ReadPost K wr.drew r s.2 e w' := HK.out wr.drew r s.2 (hRr.keep (Below.refl _ _).drew) hlft2
      unfold ReadPost at hcall
      obtain ⟨p, Hp⟩ : ∃ p, Hid (rdV K s.2 = p) := ⟨_, rfl⟩
      rw [Hp.out] at hcall hnx hlft3
      have hcall2 : ∀ wc, RdS wc r p.2 → Calls Try.prog 69 #[.pointer (some ⟨r, 0, none⟩), .string ⟨(tyT E).toArray⟩] wc fun e w' => ReadPost E wc r p.2 e w' := fun wc h => HE.out wc r p.2 h hlft3
      unfold ReadPost at hcall2
      obtain ⟨y, Hy⟩ : ∃ y, Hid (rdV E p.2 = y) := ⟨_, rfl⟩
      rw [Hy.out] at hnx
      simp only [Hy.out] at hcall2
      have hlq' : Hid (s.1.length = 2 * q) := hlq
      have HN : Hid (rdMs (rdV K) (rdV E) (q + 1) u.2 = (s.1 ++ [p.1, y.1], y.2)) := hnx
      clear hlq hnx Hs Hp Hy t0 t1 t2 hlu hlft2 hlft3
      go_wp2_with fail
      refine wpE_begin (S := fun w' => w'.cell? ⟨w1.heap.size, 3, none⟩ = some (.slice sa (2 * q) sc) ∧ True) (N := fun j => decide (j < 9)) (by kernel_rfl) ?_
      have hS0 : wr.drew.cell? ⟨w1.heap.size, 3, none⟩ = some (.slice sa (2 * q) sc) ∧ True := ⟨t3, trivial⟩
      refine wpE_takeX (some 65) (fun j => [1, 9, 10, 11].contains j) (i := 0) (v := .pointer (some ⟨w1.heap.size, 3, none⟩)) rfl rfl (by kernel_rfl) (by kernel_rfl) (by kernel_rfl) (by kernel_rfl) (fun j hj => by simp at hj; show j < 12; omega) (fun _ _ _ h => h) rfl (fun w' hS => by obtain ⟨g0, -⟩ := hS; go_simp) hS0 ?_
      try simp only [Act.put, List.setIfInBounds_toArray, List.set_cons_zero, List.set_cons_succ]
      refine wpE_takeX (some 66) (fun j => [9, 10, 11].contains j) (i := 1) (v := .slice sa (2 * q) sc) rfl rfl (by kernel_rfl) (by kernel_rfl) (by kernel_rfl) (by kernel_rfl) (fun j hj => by simp at hj; show j < 12; omega) (fun _ _ _ h => h) rfl (fun w' hS => by obtain ⟨g0, -⟩ := hS; go_simp) hS0 ?_
      try simp only [Act.put, List.setIfInBounds_toArray, List.set_cons_zero, List.set_cons_succ]
      refine wpE_takeX (some 67) (fun j => [4, 7, 8, 9, 10, 11].contains j) (i := 2) (v := .pointer (some ⟨r, 0, none⟩)) rfl rfl (by kernel_rfl) (by kernel_rfl) (by kernel_rfl) (by kernel_rfl) (fun j hj => by simp at hj; show j < 12; omega) (fun _ _ _ h => h) rfl (fun w' hS => by obtain ⟨g0, -⟩ := hS; go_simp) hS0 ?_
      try simp only [Act.put, List.setIfInBounds_toArray, List.set_cons_zero, List.set_cons_succ]
      refine wpE_takeX (some 68) (fun j => [4, 7, 8, 9, 10, 11].contains j) (i := 3) (v := .string ⟨(tyT K).toArray⟩) rfl rfl (by kernel_rfl) (by kernel_rfl) (by kernel_rfl) (by kernel_rfl) (fun j hj => by simp at hj; show j < 12; omega) (fun _ _ _ h => h) rfl (fun w' hS => by obtain ⟨g0, -⟩ := hS; go_simp) hS0 ?_
      try simp only [Act.put, List.setIfInBounds_toArray, List.set_cons_zero, List.set_cons_succ]
      refine wpE_takeX (some 70) (fun j => [7, 8, 9, 10, 11].contains j) (i := 5) (v := .pointer (some ⟨r, 0, none⟩)) rfl rfl (by kernel_rfl) (by kernel_rfl) (by kernel_rfl) (by kernel_rfl) (fun j hj => by simp at hj; show j < 12; omega) (fun _ _ _ h => h) rfl (fun w' hS => by obtain ⟨g0, -⟩ := hS; go_simp) hS0 ?_
      try simp only [Act.put, List.setIfInBounds_toArray, List.set_cons_zero, List.set_cons_succ]
      refine wpE_takeX (some 71) (fun j => [7, 8, 9, 10, 11].contains j) (i := 6) (v := .string ⟨(tyT E).toArray⟩) rfl rfl (by kernel_rfl) (by kernel_rfl) (by kernel_rfl) (by kernel_rfl) (fun j hj => by simp at hj; show j < 12; omega) (fun _ _ _ h => h) rfl (fun w' hS => by obtain ⟨g0, -⟩ := hS; go_simp) hS0 ?_
      try simp only [Act.put, List.setIfInBounds_toArray, List.set_cons_zero, List.set_cons_succ]
      refine wpE_one (i := 4) (by kernel_rfl) rfl rfl (fun K hK => ?_)
      go_simp
      refine hcall.mono ?_
      rintro e wb ⟨⟨ax, cx, rfl, hxb⟩, hrb, hob'⟩
      have hob : Only r wr wb := (Only.of_below (Below.refl _ _).drew).trans hob'
      clear hob' hcall
      have hsb := hob.size
      have k0 : wb.cell? ⟨w1.heap.size, 3, none⟩ = some (.slice sa (2 * q) sc) := (World.cell?_of_block (hob.block _ hgr (by show w1.heap.size ≠ r; omega))).trans t3
      replace hcall2 := hcall2 wb hrb
      clear hrb
      refine hK _ _ (fun _ => ⟨k0, trivial⟩) ?_
      clear hK K
      try simp only [Act.put, List.setIfInBounds_toArray, List.set_cons_zero, List.set_cons_succ]
      refine wpE_one (i := 7) (by kernel_rfl) rfl rfl (fun K hK => ?_)
      go_simp
      refine hcall2.mono ?_
      rintro e wc ⟨⟨ay, cy, rfl, hyc⟩, hrc, hbc⟩
      have hoc : Only r wr wc := hob.trans hbc
      clear hcall2
      have hsc := hbc.size
      have hxc := hxb.since (hbc.since (by show ¬ (wr.heap.size ≤ r); omega))
      have k1 : wc.cell? ⟨w1.heap.size, 3, none⟩ = some (.slice sa (2 * q) sc) := (World.cell?_of_block (hoc.block _ hgr (by show w1.heap.size ≠ r; omega))).trans t3
      refine hK _ _ (fun _ => ⟨k1, trivial⟩) ?_
      clear hK K
      try simp only [Act.put, List.setIfInBounds_toArray, List.set_cons_zero, List.set_cons_succ]
      obtain ⟨wa, hWa⟩ : ∃ wa, wc.alloc (.cells #[.int .i64 p.1.k, .int .i64 p.1.n, .string ⟨p.1.t.toArray⟩, .slice ax p.1.l.length cx, .int .i64 y.1.k, .int .i64 y.1.n, .string ⟨y.1.t.toArray⟩, .slice ay y.1.l.length cy] 24) = wa := ⟨_, rfl⟩
      have hba : Below wc.heap.size wc wa := by rw [← hWa]; exact (Below.refl _ _).alloc (Nat.le_refl _) _
      have hblka : wa.heap[wc.heap.size]? = some (.cells #[.int .i64 p.1.k, .int .i64 p.1.n, .string ⟨p.1.t.toArray⟩, .slice ax p.1.l.length cx, .int .i64 y.1.k, .int .i64 y.1.n, .string ⟨y.1.t.toArray⟩, .slice ay y.1.l.length cy] 24) := by rw [← hWa]; exact heap_new _ _
      have hsa : wa.heap.size = wc.heap.size + 1 := by rw [← hWa]; simp
      refine wpE_one (i := 8) (by kernel_rfl) rfl rfl (fun K hK => ?_)
      go_simp
      refine hK _ _ (fun _ => ⟨((bcell hba).1 _ _ (by omega)).trans k1, trivial⟩) ?_
      clear hK K
      try simp only [Act.put, List.setIfInBounds_toArray, List.set_cons_zero, List.set_cons_succ]
      have hGc : Gv (From w4.heap.size) wc (.slice sa (2 * q) sc) s.1 := hGr.since (hoc.since (by show ¬ (w4.heap.size ≤ r); omega))
      have hGa : Gv (From w4.heap.size) wa (.slice sa (2 * q) sc) s.1 := hGc.below hba
      have hal : AllV (fun k => From w4.heap.size k ∧ (Value.slice sa (2 * q) sc).ownBlock ≠ some k) wa [p.1, y.1] [.int .i64 p.1.k, .int .i64 p.1.n, .string ⟨p.1.t.toArray⟩, .slice ax p.1.l.length cx, .int .i64 y.1.k, .int .i64 y.1.n, .string ⟨y.1.t.toArray⟩, .slice ay y.1.l.length cy] :=
        AllV.append (l := [p.1]) (row := [.int .i64 p.1.k, .int .i64 p.1.n, .string ⟨p.1.t.toArray⟩, .slice ax p.1.l.length cx]) (AllV.one (isV_iff.2 ⟨_, rfl, (hxc.below hba).base (fun k h1 _ => by have h2 : wr.heap.size ≤ k := h1; exact ⟨by show w4.heap.size ≤ k; omega, hGr.apart h2⟩)⟩)) (AllV.one (isV_iff.2 ⟨_, rfl, (hyc.below hba).base (fun k h1 _ => by have h3 : wb.heap.size ≤ k := h1; have h2 : wr.heap.size ≤ k := (by omega); exact ⟨by show w4.heap.size ≤ k; omega, hGr.apart h2⟩)⟩))
      obtain ⟨g7, c7, w7, hr7, hG7, hb7, hf7, -⟩ := hGa.push (l2 := [p.1, y.1]) (ad := ⟨wc.heap.size, 0, none⟩) (by simp) (by simp) (World.news_of_block hblka) hal (by rw [hlq'.out]; simp; omega) (fun k hk => by show w4.heap.size ≤ k; omega) 2 22
      clear hal
      replace hb7 : Below w4.heap.size wa w7 := hb7 _ (by omega) (fun k hk => hk)
      have hn8 : s.1.length + [p.1, y.1].length = 2 * (q + 1) := by rw [hlq'.out]; simp; omega
      rw [hn8] at hr7 hG7
      refine wpE_one (i := 9) (by kernel_rfl) rfl rfl (fun K hK => ?_)
      refine wp_append_run _ _ 22 rfl _ _ rfl rfl _ _ hr7 ?_
      refine hK _ _ (fun h => by cases h) ?_
      clear hK K
      try simp only [Act.put, List.setIfInBounds_toArray, List.set_cons_zero, List.set_cons_succ]
      have hbr7 : w7.heap[w1.heap.size]? = some (.cells #[.int .i64 5, .int .i64 0, .string ⟨#[]⟩, .slice sa (2 * q) sc] 24 (0, 0)) := by
        rw [hb7.block _ (by omega), hba.block _ (by omega), hoc.block _ (by omega) (by omega)]; exact hbr
      have hbR7 : w7.heap[w.heap.size]? = some (.cells #[.int .i64 0, .int .i64 0, .string ⟨#[]⟩, .slice none 0 0] 24 (0, 0)) := by
        rw [hb7.block _ (by omega), hba.block _ (by omega), hoc.block _ (by omega) (by omega)]; exact hbRr
      obtain ⟨m0, m1, m2, m3, n0, n1, n2, n3⟩ := cells_of4 hbr7
      refine wpE_one (i := 10) (by kernel_rfl) rfl rfl (fun K hK => ?_)
      go_simp
      refine hK _ _ (fun h => by cases h) ?_
      clear hK K
      try simp only [Act.put, List.setIfInBounds_toArray, List.set_cons_zero, List.set_cons_succ]
      refine wpE_one (i := 11) (by kernel_rfl) rfl rfl (fun K hK => ?_)
      go_simp
      refine hK _ _ (fun h => by cases h) ?_
      clear hK K
      try simp only [Act.put, List.setIfInBounds_toArray, List.set_cons_zero, List.set_cons_succ]
      refine wpE_done (by kernel_rfl) ?_
      obtain ⟨w8, hW8⟩ : ∃ w8, w7.setCell ⟨w1.heap.size, 3, none⟩ (.slice (some ⟨g7, 0, none⟩) (2 * (q + 1)) c7) = w8 := ⟨_, rfl⟩
      have hs7 := hb7.size
      have hnew : Hid (Only r w w8 ∧ w4.heap.size ≤ w8.heap.size ∧ RdS w8 r (rdMs (rdV K) (rdV E) (q + 1) u.2).2 ∧ w8.heap[w1.heap.size]? = some (.cells #[.int .i64 5, .int .i64 0, .string ⟨#[]⟩, .slice (some ⟨g7, 0, none⟩) (2 * (q + 1)) c7] 24 (0, 0)) ∧ w8.heap[w.heap.size]? = some (.cells #[.int .i64 0, .int .i64 0, .string ⟨#[]⟩, .slice none 0 0] 24 (0, 0)) ∧ Gv (From w4.heap.size) w8 (.slice (some ⟨g7, 0, none⟩) (2 * (q + 1)) c7) (rdMs (rdV K) (rdV E) (q + 1) u.2).1) := by
        rw [HN.out, ← hW8]
        refine ⟨?_, ?_, ?_, set_3 hbr7 _, ?_, ?_⟩
        · exact ((((hOr.trans ⟨hoc.os, hoc.tape, hoc.output, hoc.size, hoc.block⟩).low hba (by omega)).low hb7 (by omega)).setCell (by omega) _ _)
        · have : (w7.setCell ⟨w1.heap.size, 3, none⟩ (.slice (some ⟨g7, 0, none⟩) (2 * (q + 1)) c7)).heap.size = w7.heap.size := by simp [World.setCell]
          omega
        · exact ((hrc.low hba (by omega)).low hb7 (by omega)).setCell (by omega) _ _
        · rw [Below.heap_setCell _ _ _ _ (by show w.heap.size ≠ w1.heap.size; omega)]; exact hbR7
        · refine Gv.since hG7 ⟨by simp [World.setCell], fun k h1 _ => Below.heap_setCell _ _ _ _ ?_⟩
          show k ≠ w1.heap.size
          have : w4.heap.size ≤ k := h1
          omega
      rw [hW8]
      clear hG7 hGa hGc hGr hxc hyc hxb hb7 hba hr7 k0 k1 m0 m1 m2 m3 n0 n1 n2 n3 hW8 hrc hoc hob hbc hf7 hbr7 hbR7 hblka t3 hbr hbRr hRr hOr HN hWa
      simp only [Exit.inBlock, Exit.then]
      refine ‹∀ (a : Act) (w : World), _ → _› _ _ ?_
      go_wp2_with fail
      go_roundg (u.1 - (q + 1))
      case measure => omega
      case rel => exact ⟨q + 1, some ⟨g7, 0, none⟩, c7, by omega, rfl, by go_num, hnew⟩
    · have hltI : ¬ (q : Int) < (u.1 : Int) := by omega
      obtain rfl : q = u.1 := by omega
      rw [Hs.out] at hfin
      obtain ⟨r0, r1, r2, r3, s0, s1, s2, s3⟩ := cells_of4 hbRr
      have hz : w.heap.size < wr.heap.size := by omega
      have hres : ReadPost (.map kb E) w r st (.returned (.agg #[.int .i64 5, .int .i64 0, .string ⟨#[]⟩, .slice sa (2 * u.1) sc])) (set4 wr w.heap.size (.int .i64 5) (.int .i64 0) (.string ⟨#[]⟩) (.slice sa (2 * u.1) sc)) := by
        unfold ReadPost
        rw [hfin.out.1, hfin.out.2]
        refine ⟨⟨sa, sc, by rw [← hlq]; rfl, ⟨Nat.zero_le _, by show InR 5; constructor <;> decide, by show InR 0; constructor <;> decide, ?_⟩⟩, hRr.set4 hrl _ _ _ _, hOr.set4 (Nat.le_refl _) _ _ _ _⟩
        have h1 := (hGr.vs.since (since_set4 (g := w.heap.size) (by show ¬ (w4.heap.size ≤ w.heap.size); omega) (.int .i64 5) (.int .i64 0) (.string ⟨#[]⟩) (.slice sa (2 * u.1) sc))).base (B' := From w.heap.size) (fun k hk _ => by show w.heap.size ≤ k; have : w4.heap.size ≤ k := hk; omega)
        show IsVs _ _ s.1 (.slice sa s.1.length sc)
        rw [hlq]; exact h1
      clear hGr hfin Hs HE HK hRr hnx
      go_wp2_with fail
      exact bodyPost_ret (v := .agg #[.int .i64 5, .int .i64 0, .string ⟨#[]⟩, .slice sa (2 * u.1) sc]) (by simp [results, Try.results69, go_sem, hz, r0, r1, r2, r3]) rfl hres
theorem read_any : ∀ (T : Ty), T.dp ≤ 4 → ReadOk T
  | .int, _ => read_int
  | .bool, _ => read_bool
  | .text, _ => read_text
  | .list E, h => read_list h (read_any E (by simp only [Ty.dp] at h; omega))
  | .map kb E, h => read_map h (by cases kb; exact read_text; exact read_int) (read_any E (by simp only [Ty.dp] at h; omega))
end Go.Proofs.Ytkbplffckkjbfaa
namespace Go.Proofs.Ytkbplffckkjbfaa
open Go.RowKit
set_option linter.unusedVariables false
set_option linter.unusedSimpArgs false

/-- What bytes are, of a type. -/
noncomputable def dcV (y bs : List UInt8) : V × Int := match tyOf y with
  | none => (V.zero, 1)
  | some T => if (rdV T (some bs)).2 = some [] then (if fitS y (rdV T (some bs)).1 = true then ((rdV T (some bs)).1, 0) else (V.zero, 11)) else (V.zero, 11)
set_option maxRecDepth 100000 in
set_option maxHeartbeats 1000000 in
theorem decode_none {B : Nat → Prop} {y : List UInt8} (hy : y.length ≤ 9223372036854775807) {w : World} {sl : Value} {bs : List UInt8} (hb : IsB B w sl bs) (hT : tyOf y = none) :
    Calls Try.prog 42 #[sl, .string ⟨y.toArray⟩] w fun r w' => OutV w (dcV y bs) r w' := by
  have hS := stype_l y hy
  have hg : gType y = false := by unfold gType; rw [hT]; rfl
  rw [hg] at hS
  have hd : dcV y bs = (V.zero, 1) := by unfold dcV; rw [hT]
  rw [hd]
  obtain ⟨ao, cap, rfl, hc1, hc2⟩ := hb.slice
  obtain ⟨w0, hW, hb0, hs0, hr⟩ := rbox w
  obtain ⟨c0, c1, c2, c3, f0, f1, f2, f3, hz⟩ := hr w0 (Below.refl _ _)
  have hres := outV_zero (e := 1) (below_set4 hb0 (Nat.le_refl _) (.int .i64 0) (.int .i64 0) (.string ⟨#[]⟩) (.slice none 0 0))
  clear hr hb hd
  go_enter Try.func42, Try.ntmps42
  go_wp2_with fail
  refine (hS _).mono ?_
  rintro e w1 ⟨rfl, rfl⟩
  clear hS
  go_wp2_with fail
  exact bodyPost_ret (v := .tuple #[.agg #[.int .i64 0, .int .i64 0, .string ⟨#[]⟩, .slice none 0 0], .int .i64 1]) (by simp [results, Try.results42, go_sem, hz, c0, c1, c2, c3]) rfl hres
set_option maxRecDepth 100000 in
set_option maxHeartbeats 1000000 in
theorem decode_some {B : Nat → Prop} {T : Ty} (hT : T.dp ≤ 4) {w : World} {sl : Value} {bs : List UInt8} (hb : IsB B w sl bs) (hl : bs.length ≤ 1000000) :
    Calls Try.prog 42 #[sl, .string ⟨(tyT T).toArray⟩] w fun r w' => OutV w (dcV (tyT T) bs) r w' := by
  have hlen := (tyT_len T).2
  have hS := stype_l (tyT T) (by omega)
  have hg : gType (tyT T) = true := by unfold gType; rw [tyOf_ty hT]; rfl
  rw [hg] at hS
  have hd : Hid (dcV (tyT T) bs = if (rdV T (some bs)).2 = some [] then (if fitS (tyT T) (rdV T (some bs)).1 = true then ((rdV T (some bs)).1, 0) else (V.zero, 11)) else (V.zero, 11)) := by show _ = _; unfold dcV; rw [tyOf_ty hT]
  have hwt : wt (rdV T (some bs)).1 ≤ 4611686018427387904 := by
    have h1 := rdV_wt T (some bs)
    have h2 : 300 ^ T.dp ≤ 300 ^ 4 := Nat.pow_le_pow_right (by omega) hT
    omega
  have hRd : Hid (ReadOk T) := read_any T hT
  have hyl : (tyT T).length ≤ 9223372036854775807 := by omega
  have HF : Hid (∀ {B : Nat → Prop} {v : V} {sl : Value} {w : World}, IsW B w v sl → wt v ≤ 4611686018427387904 → Calls Try.prog 22 #[.agg #[.int .i64 v.k, .int .i64 v.n, .string ⟨v.t.toArray⟩, sl], .string ⟨(tyT T).toArray⟩] w fun r w' => r = .returned (.bool (fitS (tyT T) v)) ∧ Below w.heap.size w w') := fun hv hw => fits_any hyl hv hw
  obtain ⟨w0, hW, hb0, hs0, hr⟩ := rbox w
  have hN := new_any (hb.since (Since.of_below hb0)) hl
  obtain ⟨ao, cap, rfl, hc1, hc2⟩ := hb.slice
  clear hb hlen hyl hg hT
  go_enter Try.func42, Try.ntmps42
  go_wp2_with fail
  refine (hS _).mono ?_
  rintro e w1 ⟨rfl, hw⟩
  obtain rfl := hw.symm
  clear hS
  go_wp2_with fail
  refine hN.mono ?_
  rintro e w1 ⟨⟨r, rfl, hr0, hrd1⟩, hb1⟩
  clear hN
  have hR := hRd.out w1 r (some bs) hrd1 hl
  unfold ReadPost at hR
  obtain ⟨p, Hp⟩ : ∃ p, Hid (rdV T (some bs) = p) := ⟨_, rfl⟩
  rw [Hp.out] at hR hd hwt
  clear hRd hrd1
  go_wp2_with fail
  refine hR.mono ?_
  rintro e w2 ⟨⟨ax, cx, rfl, hx2⟩, hrd2, ho2⟩
  clear hR
  have hs1 := hb1.size
  have hs2 := ho2.size
  have hb2 : Below w0.heap.size w0 w2 := hb1.trans (ho2.below hs1 hr0)
  obtain ⟨wz, w3, hWz, hW3, hb3, hs3, hsz, hblk3, ⟨y0, y1, y2, y3⟩, ⟨z0, z1, z2, z3⟩⟩ := rdbox w2 (.int .i64 p.1.k) (.int .i64 p.1.n) (.string ⟨p.1.t.toArray⟩) (.slice ax p.1.l.length cx)
  have hE := end_any (hrd2.keep hb3)
  have hx3 := hx2.below hb3
  have hB3 : Below w0.heap.size w0 w3 := hb2.trans (hb3.mono (by omega))
  obtain ⟨r0, r1, r2, r3, s0, s1, s2, s3, hz⟩ := hr w3 hB3
  have hf3 := HF.out hx3 hwt
  obtain ⟨t0, t1, t2, t3, -⟩ := cells_of4 hblk3
  have h11 : ∀ w', Below w0.heap.size w0 w' → OutV w (V.zero, 11) (.returned (.tuple #[.agg #[.int .i64 0, .int .i64 0, .string ⟨#[]⟩, .slice none 0 0], .int .i64 11])) (set4 w' w.heap.size (.int .i64 0) (.int .i64 0) (.string ⟨#[]⟩) (.slice none 0 0)) := fun w' hb' => outV_zero (e := 11) (below_set4 (hb0.trans (hb'.mono (by omega))) (Nat.le_refl _) _ _ _ _)
  by_cases he : p.2 = some []
  · rw [if_pos he] at hd
    have heb : (p.2 == some []) = true := by simp [he]
    rw [heb] at hE
    clear he heb
    go_wp2_with fail
    refine hE.mono ?_
    rintro e w4 ⟨rfl, hw⟩
    obtain rfl := hw.symm
    clear hE
    go_wp2_with fail
    refine hf3.mono ?_
    rintro e w5 ⟨rfl, hb5⟩
    clear hf3 r0 r1 r2 r3 s0 s1 s2 s3 hz
    have hB5 : Below w0.heap.size w0 w5 := hB3.trans (hb5.mono (by omega))
    obtain ⟨r0, r1, r2, r3, s0, s1, s2, s3, hz⟩ := hr w5 hB5
    have hblk5 := (hb5.block _ (by omega)).trans hblk3
    obtain ⟨v0, v1, v2, v3, -⟩ := cells_of4 hblk5
    clear t0 t1 t2 t3 y0 y1 y2 y3 z0 z1 z2 z3 hr hWz hW3
    cases hfit : fitS (tyT T) p.1
    · rw [hfit, if_neg (by simp)] at hd
      have hres := h11 w5 hB5
      rw [← hd.out] at hres
      clear h11 hd hx2 hx3
      go_wp2_with fail
      exact bodyPost_ret (v := .tuple #[.agg #[.int .i64 0, .int .i64 0, .string ⟨#[]⟩, .slice none 0 0], .int .i64 11]) (by simp [results, Try.results42, go_sem, hz, r0, r1, r2, r3]) rfl hres
    · rw [hfit, if_pos rfl] at hd
      have hres : OutV w (p.1, 0) (.returned (.tuple #[.agg #[.int .i64 p.1.k, .int .i64 p.1.n, .string ⟨p.1.t.toArray⟩, .slice ax p.1.l.length cx], .int .i64 0])) (set4 w5 w.heap.size (.int .i64 p.1.k) (.int .i64 p.1.n) (.string ⟨p.1.t.toArray⟩) (.slice ax p.1.l.length cx)) := by
        refine ⟨⟨ax, cx, rfl, ?_⟩, below_set4 (hb0.trans (hB5.mono (by omega))) (Nat.le_refl _) _ _ _ _⟩
        exact ((hx3.below hb5).since (since_set4 (g := w.heap.size) (by show ¬ (w1.heap.size ≤ w.heap.size); omega) _ _ _ _)).base (fun k hk _ => by show w.heap.size ≤ k; have : w1.heap.size ≤ k := hk; omega)
      rw [← hd.out] at hres
      clear h11 hd hx2 hx3
      go_wp2_with fail
      exact bodyPost_ret (v := .tuple #[.agg #[.int .i64 p.1.k, .int .i64 p.1.n, .string ⟨p.1.t.toArray⟩, .slice ax p.1.l.length cx], .int .i64 0]) (by simp [results, Try.results42, go_sem, hz, r0, r1, r2, r3]) rfl hres
  · rw [if_neg he] at hd
    have heb : (p.2 == some []) = false := by simp [he]
    rw [heb] at hE
    have hres := h11 w3 hB3
    rw [← hd.out] at hres
    clear he heb hf3 h11 hd hx2 hx3
    go_wp2_with fail
    refine hE.mono ?_
    rintro e w4 ⟨rfl, hw⟩
    obtain rfl := hw.symm
    clear hE
    go_wp2_with fail
    exact bodyPost_ret (v := .tuple #[.agg #[.int .i64 0, .int .i64 0, .string ⟨#[]⟩, .slice none 0 0], .int .i64 11]) (by simp [results, Try.results42, go_sem, hz, r0, r1, r2, r3]) rfl hres
theorem decode_any {B : Nat → Prop} {y : List UInt8} (hy : y.length ≤ 9223372036854775807) {w : World} {sl : Value} {bs : List UInt8} (hb : IsB B w sl bs) (hl : bs.length ≤ 1000000) :
    Calls Try.prog 42 #[sl, .string ⟨y.toArray⟩] w fun r w' => OutV w (dcV y bs) r w' := by
  rcases hT : tyOf y with _ | T
  · exact decode_none hy hb hT
  · obtain ⟨h1, h2⟩ := (tyOf_iff _ _).1 hT
    subst h1
    exact decode_some h2 hb hl
end Go.Proofs.Ytkbplffckkjbfaa
