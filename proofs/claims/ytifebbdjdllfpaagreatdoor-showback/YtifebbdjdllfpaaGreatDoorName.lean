/- A fault gives up by panic; names. -/
import Derived.Test.YtifebbdjdllfpaaGreatDoorSkip
namespace Go.Proofs.YtifebbdjdllfpaaGreatDoor
open Go.RowKit
set_option linter.unusedSimpArgs false
set_option linter.unusedVariables false

def thrown (a e : Nat) : List PanicEntry := [{ v := .iface 98 (.agg #[.int .i64 a, .int .i64 e]), recovered := false }]
@[reducible] def tokV (k : Nat) (t : ByteArray) (num i : Nat) : Value := .agg #[.int .i64 k, .string t, .int .i64 num, .int .i64 i]

theorem Mv.past {b j : Nat} {w w0 w' : World} (hb : Below w.heap.size w w0) (m : Mv b j w0 w') : Mv b j w w' :=
  (below_setBoth hb ⟨b, 1, none⟩ (.int .i64 (j : Int))).trans (m.mono hb.size)
theorem Mv.kept {b j : Nat} {w w' : World} (m : Mv b j w w') {k : Nat} (hk : k < w.heap.size) (hne : k ≠ b) : w'.heap[k]? = w.heap[k]? := by
  rw [Below.block m k hk]; exact Below.heap_setCell _ _ _ _ hne
/-- Block r holds one token's four cells. -/
def Slot (r : Nat) (w : World) : Prop := ∃ a t c d, w.heap[r]? = some (.cells #[a, t, c, d] 81 (0, 0))
abbrev slot0 : Obj := .cells #[.int .i64 0, .string ⟨#[]⟩, .int .i64 0, .int .i64 0] 81
theorem Slot.new (w : World) : Slot w.heap.size (w.alloc slot0) := ⟨_, _, _, _, by show (w.heap.push _)[w.heap.size]? = _; rw [Array.getElem?_push, if_pos rfl]⟩
theorem Slot.lt {r : Nat} {w : World} (h : Slot r w) : r < w.heap.size := by
  obtain ⟨a, t, c, d, h⟩ := h
  exact (Array.getElem?_eq_some_iff.1 h).1
theorem Slot.mv {b j r : Nat} {w w' : World} (h : Slot r w) (m : Mv b j w w') (hne : r ≠ b) : Slot r w' := by
  have hl := h.lt
  obtain ⟨a, t, c, d, h⟩ := h
  exact ⟨a, t, c, d, (m.kept hl hne).trans h⟩
theorem Slot.below {r B : Nat} {w w' : World} (h : Slot r w) (m : Below B w w') (hB : r < B) : Slot r w' := by
  obtain ⟨a, t, c, d, h⟩ := h
  exact ⟨a, t, c, d, (m.block r hB).trans h⟩
theorem Slot.cells {r : Nat} {w : World} (h : Slot r w) : ∃ a t c d, w.cell? ⟨r, 0, none⟩ = some a ∧ w.cell? ⟨r, 1, none⟩ = some t ∧ w.cell? ⟨r, 2, none⟩ = some c ∧ w.cell? ⟨r, 3, none⟩ = some d ∧
    w.frozen? ⟨r, 0, none⟩ = false ∧ w.frozen? ⟨r, 1, none⟩ = false ∧ w.frozen? ⟨r, 2, none⟩ = false ∧ w.frozen? ⟨r, 3, none⟩ = false := by
  obtain ⟨a, t, c, d, h⟩ := h
  exact ⟨a, t, c, d, by simp [World.cell?, h], by simp [World.cell?, h], by simp [World.cell?, h], by simp [World.cell?, h], by simp [World.frozen?, h], by simp [World.frozen?, h], by simp [World.frozen?, h], by simp [World.frozen?, h]⟩

theorem Mv.set {b j : Nat} {w w' : World} (m : Mv b j w w') {p : Addr} (hp : w.heap.size ≤ p.block) (v : Value) : Mv b j w (w'.setCell p v) := Below.setCell m hp v
theorem Mv.set4 {b j : Nat} {w w' : World} (m : Mv b j w w') {r : Nat} (hp : w.heap.size ≤ r) (x0 x1 x2 x3 : Value) :
    Mv b j w ((((w'.setCell ⟨r, 0, none⟩ x0).setCell ⟨r, 1, none⟩ x1).setCell ⟨r, 2, none⟩ x2).setCell ⟨r, 3, none⟩ x3) := (((m.set (p := ⟨r, 0, none⟩) hp x0).set (p := ⟨r, 1, none⟩) hp x1).set (p := ⟨r, 2, none⟩) hp x2).set (p := ⟨r, 3, none⟩) hp x3

theorem giveUp_any (a e : Nat) (w : World) : Calls Tryz.prog 50 #[.int .i64 a, .int .i64 e] w fun r w' => r = .panicked (thrown a e) ∧ w' = w := by
  go_enter Tryz.func50, Tryz.ntmps50
  go_wp2
  exact ⟨rfl, rfl, rfl⟩

theorem clone_any (s : ByteArray) (w : World) (hs : s.size ≤ 281474976710656) :
    Calls Tryz.prog 97 #[.string s] w fun e w' => e = .returned (.string s) ∧ Below w.heap.size w w' := by
  go_enter Tryz.func97, Tryz.ntmps97
  go_wp2_with (go_at_call 119; refine (Tryz.stringslite_Clone s _ hs).mono ?_; rintro e w1 ⟨rfl, hb⟩)
  go_ret
  exact ⟨rfl, hb⟩

set_option maxHeartbeats 2000000 in
theorem name_bad (b : Nat) (s : ByteArray) (i : Nat) (w : World) (h : At b s i w) (hs : s.size ≤ 16384) (hi : i ≤ s.size) (hn : 16 < run s i Lx.isPart) :
    Calls Tryz.prog 73 #[.pointer (some ⟨b, 0, none⟩)] w fun e w' => e = .panicked (thrown i 3) ∧ ∃ j, Mv b j w w' := by
  have hsm : s.size ≤ maxLen := by unfold maxLen; omega
  obtain ⟨c0, c1, c2, c3⟩ := h
  have h : At b s i w := ⟨c0, c1, c2, c3⟩
  have hle := run_le s i Lx.isPart hi
  have hsz : (s.extract i (i + run s i Lx.isPart)).size = run s i Lx.isPart := by rw [ext_size hle]; omega
  have hb0 : Below w.heap.size w (w.alloc slot0) := (Below.refl _ _).alloc (Nat.le_refl _) _
  have hat := h.below hb0 c3
  go_enter Tryz.func73, Tryz.ntmps73
  go_wp2_with (first
    | (go_at_call 68; refine (take_mv b s i _ _ _ hat hsm hi kPart ePart).mono ?_; rintro e w1 ⟨rfl, hm1⟩)
    | (go_at_call 50; refine (giveUp_any i 3 _).mono ?_; rintro e w2 ⟨rfl, rfl⟩))
  exact ⟨rfl, rfl, _, hm1.past hb0⟩
set_option maxHeartbeats 2000000 in
theorem name_ok (b : Nat) (s : ByteArray) (i : Nat) (w : World) (h : At b s i w) (hs : s.size ≤ 16384) (hi : i ≤ s.size) (hn : run s i Lx.isPart ≤ 16) :
    Calls Tryz.prog 73 #[.pointer (some ⟨b, 0, none⟩)] w fun e w' => e = .returned (tokV 1 (s.extract i (i + run s i Lx.isPart)) 0 i) ∧ Mv b (i + run s i Lx.isPart) w w' := by
  have hsm : s.size ≤ maxLen := by unfold maxLen; omega
  obtain ⟨c0, c1, c2, c3⟩ := h
  have h : At b s i w := ⟨c0, c1, c2, c3⟩
  have hle := run_le s i Lx.isPart hi
  have hsz : (s.extract i (i + run s i Lx.isPart)).size = run s i Lx.isPart := by rw [ext_size hle]; omega
  have hb0 : Below w.heap.size w (w.alloc slot0) := (Below.refl _ _).alloc (Nat.le_refl _) _
  have hat := h.below hb0 c3
  go_enter Tryz.func73, Tryz.ntmps73
  go_wp2_with (first
    | (go_at_call 68; refine (take_mv b s i _ _ _ hat hsm hi kPart ePart).mono ?_; rintro e w1 ⟨rfl, hm1⟩))
  refine (clone_any _ _ (by rw [hsz]; omega)).mono ?_
  rintro e w2 ⟨rfl, hb2⟩
  have hs1 := (Slot.new w).mv hm1 (by omega)
  have hs2 := hs1.below hb2 hs1.lt
  obtain ⟨x0, x1, x2, x3, d0, d1, d2, d3, f0, f1, f2, f3⟩ := hs2.cells
  go_wp2
  exact bodyPost_ret (v := tokV 1 (s.extract i (i + run s i Lx.isPart)) 0 i) (by simp [results, Tryz.results73, go_sem, d0, d1, d2, d3, tokV]) rfl ⟨rfl, ((hm1.past hb0).below' hb2 (Nat.le_of_lt hs1.lt)).set4 (Nat.le_refl _) _ _ _ _⟩
end Go.Proofs.YtifebbdjdllfpaaGreatDoor
