/- Marks. -/
import Derived.Test.YtifebbdjdllfpaaGreatDoorNum
namespace Go.Proofs.YtifebbdjdllfpaaGreatDoor
open Go.RowKit
set_option linter.unusedSimpArgs false
set_option linter.unusedVariables false

/-- Whether this commit's program takes the full stop for a mark. -/
def dotC : Bool := true
theorem index_has : ∀ (l : List UInt8) (c : UInt8), (0 ≤ Lib.indexByte l c) ↔ l.contains c = true
  | [], c => by simp [Lib.indexByte]
  | a :: r, c => by
    have ih := index_has r c
    have hg := Lib.indexByte_ge r c
    simp only [Lib.indexByte, List.contains_cons, Bool.or_eq_true, beq_iff_eq]
    by_cases h : a = c
    · simp [h]
    · have h' : ¬ c = a := fun e => h e.symm
      simp only [h, h', false_or, if_false]
      rw [← ih]
      split <;> omega
theorem two_list (s : ByteArray) (hs : 2 ≤ s.size) : (s.extract 0 2).toList = [s[0], s[1]] := by
  rw [ByteArray.toList_eq, ext_list]
  obtain ⟨a, b, r, e⟩ : ∃ a b r, s.data.toList = a :: b :: r := by
    rcases h : s.data.toList with _ | ⟨a, _ | ⟨b, r⟩⟩
    · have h2 : s.data.toList.length = 0 := by rw [h]; rfl
      have h3 : s.data.toList.length = s.size := by simp
      omega
    · have h2 : s.data.toList.length = 1 := by rw [h]; rfl
      have h3 : s.data.toList.length = s.size := by simp
      omega
    · exact ⟨a, b, r, rfl⟩
  have e0 : s[0] = a := by
    have : s.data.toList[0]'(by rw [e]; simp) = a := by simp [e]
    exact this
  have e1 : s[1] = b := by
    have : s.data.toList[1]'(by rw [e]; simp) = b := by simp [e]
    exact this
  rw [e0, e1, e]; rfl
theorem list_two (s : ByteArray) (hs : 2 ≤ s.size) : ∃ r, s.data.toList = s[0] :: s[1] :: r := by
  have h := two_list s hs
  rw [ByteArray.toList_eq, ext_list] at h
  refine ⟨s.data.toList.drop 2, ?_⟩
  have h2 := List.take_append_drop 2 s.data.toList
  simp at h
  rw [h] at h2
  exact h2.symm
theorem list_one (s : ByteArray) (hs : 1 ≤ s.size) : ∃ r, s.data.toList = s[0] :: r := by
  refine ⟨s.data.toList.tail, ?_⟩
  have e := List.drop_eq_getElem_cons (l := s.data.toList) (i := 0) (by simp; omega)
  simp at e
  exact e

set_option maxHeartbeats 2000000 in
theorem markSize_two (s : ByteArray) (w : World) (hs : 2 ≤ s.size) (hm : s.size ≤ 16384) (h : Lx.two s.data.toList = true) :
    Calls Tryz.prog 102 #[.string s] w fun e w' => e = .returned (.int .i64 2) ∧ w' = w := by
  have hl := two_list s hs
  obtain ⟨r, hr⟩ := list_two s hs
  rw [hr] at h
  clear hr
  simp only [Lx.two, Bool.or_eq_true, Bool.and_eq_true, beq_iff_eq] at h
  rcases h with (⟨h1, ((h0 | h0) | h0) | h0⟩ | ⟨h0, h1⟩) | ⟨h0, h1⟩
  all_goals
    rw [h0, h1] at hl
    clear h0 h1
    go_enter Tryz.func102, Tryz.ntmps102
    go_wp2
    go_ret
    exact ⟨rfl, rfl⟩
theorem bytes_two {a b x y : UInt8} (h : ¬ (a = x ∧ b = y)) : ([a, b] == [x, y]) = false := by
  rw [beq_eq_false_iff_ne]; intro e; simp at e; exact h e

set_option maxHeartbeats 2000000 in
theorem markSize_one (s : ByteArray) (w : World) (hs : 1 ≤ s.size) (hm : s.size ≤ 16384) (h : Lx.two s.data.toList = false) :
    Calls Tryz.prog 102 #[.string s] w fun e w' => e = .returned (.int .i64 (if Lx.one dotC s[0] then 1 else 0)) ∧ w' = w := by
  have hix : ∀ w1 : World, Calls Tryz.prog 123 #[.string ⟨(Lx.ones dotC).toArray⟩, .int .u8 s[0].toNat] w1 fun e w' => e = .returned (.int .i64 (Lib.indexByte (Lx.ones dotC) s[0])) ∧ w' = w1 := by
    intro w1
    refine (Tryz.strings_IndexByte _ _ w1).mono ?_
    rintro e w' ⟨rfl, rfl⟩
    refine ⟨ret_int ?_, rfl⟩
    simp
  have hiff := index_has (Lx.ones dotC) s[0]
  have hge := Lib.indexByte_ge (Lx.ones dotC) s[0]
  unfold Lx.one
  generalize Lib.indexByte (Lx.ones dotC) s[0] = ix at *
  by_cases hc : (Lx.ones dotC).contains s[0] = true
  · have hp : 0 ≤ ix := hiff.2 hc
    rw [if_pos hc]
    clear hc hiff
    by_cases h2 : 2 ≤ s.size
    · have hl := two_list s h2
      obtain ⟨r, hr⟩ := list_two s h2
      rw [hr] at h
      clear hr
      simp only [Lx.two, Bool.or_eq_false_iff, Bool.and_eq_false_iff, beq_eq_false_iff_ne] at h
      have k1 : ((s.extract 0 2).toList == [61, 61]) = false := by rw [hl]; apply bytes_two; rintro ⟨a, b⟩; simp_all
      have k2 : ((s.extract 0 2).toList == [33, 61]) = false := by rw [hl]; apply bytes_two; rintro ⟨a, b⟩; simp_all
      have k3 : ((s.extract 0 2).toList == [60, 61]) = false := by rw [hl]; apply bytes_two; rintro ⟨a, b⟩; simp_all
      have k4 : ((s.extract 0 2).toList == [62, 61]) = false := by rw [hl]; apply bytes_two; rintro ⟨a, b⟩; simp_all
      have k5 : ((s.extract 0 2).toList == [38, 38]) = false := by rw [hl]; apply bytes_two; rintro ⟨a, b⟩; simp_all
      have k6 : ((s.extract 0 2).toList == [124, 124]) = false := by rw [hl]; apply bytes_two; rintro ⟨a, b⟩; simp_all
      clear h hl
      go_enter Tryz.func102, Tryz.ntmps102
      go_wp2_with (go_at_call 123; refine (hix _).mono ?_; rintro e w' ⟨rfl, rfl⟩)
      go_ret
      exact ⟨rfl, rfl⟩
    · have h2' : ¬ 1 < s.size := by omega
      go_enter Tryz.func102, Tryz.ntmps102
      go_wp2_with (go_at_call 123; refine (hix _).mono ?_; rintro e w' ⟨rfl, rfl⟩)
      go_ret
      exact ⟨rfl, rfl⟩
  · have hp : ¬ 0 ≤ ix := fun a => hc (hiff.1 a)
    rw [if_neg hc]
    clear hc hiff
    by_cases h2 : 2 ≤ s.size
    · have hl := two_list s h2
      obtain ⟨r, hr⟩ := list_two s h2
      rw [hr] at h
      clear hr
      simp only [Lx.two, Bool.or_eq_false_iff, Bool.and_eq_false_iff, beq_eq_false_iff_ne] at h
      have k1 : ((s.extract 0 2).toList == [61, 61]) = false := by rw [hl]; apply bytes_two; rintro ⟨a, b⟩; simp_all
      have k2 : ((s.extract 0 2).toList == [33, 61]) = false := by rw [hl]; apply bytes_two; rintro ⟨a, b⟩; simp_all
      have k3 : ((s.extract 0 2).toList == [60, 61]) = false := by rw [hl]; apply bytes_two; rintro ⟨a, b⟩; simp_all
      have k4 : ((s.extract 0 2).toList == [62, 61]) = false := by rw [hl]; apply bytes_two; rintro ⟨a, b⟩; simp_all
      have k5 : ((s.extract 0 2).toList == [38, 38]) = false := by rw [hl]; apply bytes_two; rintro ⟨a, b⟩; simp_all
      have k6 : ((s.extract 0 2).toList == [124, 124]) = false := by rw [hl]; apply bytes_two; rintro ⟨a, b⟩; simp_all
      clear h hl
      go_enter Tryz.func102, Tryz.ntmps102
      go_wp2_with (go_at_call 123; refine (hix _).mono ?_; rintro e w' ⟨rfl, rfl⟩)
      go_ret
      exact ⟨rfl, rfl⟩
    · have h2' : ¬ 1 < s.size := by omega
      go_enter Tryz.func102, Tryz.ntmps102
      go_wp2_with (go_at_call 123; refine (hix _).mono ?_; rintro e w' ⟨rfl, rfl⟩)
      go_ret
      exact ⟨rfl, rfl⟩

theorem markSize_any (s : ByteArray) (w : World) (hs : 1 ≤ s.size) (hm : s.size ≤ 16384) :
    Calls Tryz.prog 102 #[.string s] w fun e w' => e = .returned (.int .i64 (Lx.markN dotC s.data.toList : Nat)) ∧ w' = w := by
  rcases h : Lx.two s.data.toList with _ | _
  · refine (markSize_one s w hs hm h).mono ?_
    rintro e w' ⟨rfl, rfl⟩
    refine ⟨ret_int ?_, rfl⟩
    obtain ⟨r, hr⟩ := list_one s hs
    unfold Lx.markN
    rw [h, hr]
    simp only [Bool.false_eq_true, if_false]
    split <;> rfl
  · have h2 : 2 ≤ s.size := by
      rcases hl : s.data.toList with _ | ⟨a, _ | ⟨b, r⟩⟩
      · rw [hl] at h; simp [Lx.two] at h
      · rw [hl] at h; simp [Lx.two] at h
      · have h3 : s.data.toList.length = s.size := by simp
        rw [← h3, hl]; simp
    refine (markSize_two s w h2 hm h).mono ?_
    rintro e w' ⟨rfl, rfl⟩
    exact ⟨ret_int (by unfold Lx.markN; rw [h]; rfl), rfl⟩
theorem mark_le (dot : Bool) (l : List UInt8) : Lx.markN dot l ≤ l.length := by
  unfold Lx.markN
  rcases l with _ | ⟨a, _ | ⟨b, r⟩⟩
  · simp [Lx.two]
  · simp [Lx.two]; split <;> omega
  · split
    · simp
    · simp; split <;> omega

/-- How long the mark at place i is. -/
def msize (s : ByteArray) (i : Nat) : Nat := Lx.markN dotC (s.data.toList.drop i)
theorem msize_le (s : ByteArray) (i : Nat) (hi : i ≤ s.size) : i + msize s i ≤ s.size := by
  have h := mark_le dotC (s.data.toList.drop i)
  simp at h
  unfold msize; omega
theorem markSize_at (s : ByteArray) (i : Nat) (w : World) (hs : s.size ≤ 16384) (hi : i < s.size) :
    Calls Tryz.prog 102 #[.string (s.extract i s.size)] w fun e w' => e = .returned (.int .i64 (msize s i : Nat)) ∧ w' = w := by
  have hz := ext_size (s := s) (i := i) (Nat.le_refl _)
  refine (markSize_any _ w (by omega) (by omega)).mono ?_
  rintro e w' ⟨rfl, rfl⟩
  refine ⟨ret_int ?_, rfl⟩
  rw [ext_list, msize, List.take_of_length_le (by simp)]

set_option maxHeartbeats 2000000 in
theorem mark_bad (b : Nat) (s : ByteArray) (i : Nat) (w : World) (h : At b s i w) (hs : s.size ≤ 16384) (hi : i < s.size) (hz : msize s i = 0) :
    Calls Tryz.prog 77 #[.pointer (some ⟨b, 0, none⟩)] w fun e w' => e = .panicked (thrown i 30) ∧ ∃ j, Mv b j w w' := by
  obtain ⟨c0, c1, c2, c3⟩ := h
  have h : At b s i w := ⟨c0, c1, c2, c3⟩
  have hb0 : Below w.heap.size w (w.alloc slot0) := (Below.refl _ _).alloc (Nat.le_refl _) _
  have hmk : ∀ w1 : World, Calls Tryz.prog 102 #[.string (s.extract i s.size)] w1 fun e w' => e = .returned (.int .i64 0) ∧ w' = w1 := by
    intro w1
    have := markSize_at s i w1 hs hi
    rw [hz] at this
    exact this
  go_enter Tryz.func77, Tryz.ntmps77
  go_wp2_with (first
    | (go_at_call 102; refine (hmk _).mono ?_; rintro e w1 ⟨rfl, rfl⟩)
    | (go_at_call 50; refine (giveUp_any i 30 _).mono ?_; rintro e w2 ⟨rfl, rfl⟩))
  exact ⟨rfl, rfl, _, (Mv.refl h).below' ((Below.refl _ _).alloc (Nat.le_refl _) _) (Nat.le_refl _)⟩

set_option maxHeartbeats 4000000 in
theorem mark_ok (b : Nat) (s : ByteArray) (i : Nat) (w : World) (h : At b s i w) (hs : s.size ≤ 16384) (hi : i < s.size) (hz : 0 < msize s i) :
    Calls Tryz.prog 77 #[.pointer (some ⟨b, 0, none⟩)] w fun e w' => e = .returned (tokV 4 (s.extract i (i + msize s i)) 0 i) ∧ Mv b (i + msize s i) w w' := by
  obtain ⟨c0, c1, c2, c3⟩ := h
  have h : At b s i w := ⟨c0, c1, c2, c3⟩
  have hle := msize_le s i (by omega)
  have hsz : (s.extract i (i + msize s i)).size = msize s i := by rw [ext_size hle]; omega
  have hb0 : Below w.heap.size w (w.alloc slot0) := (Below.refl _ _).alloc (Nat.le_refl _) _
  have hmk : ∀ w1 : World, Calls Tryz.prog 102 #[.string (s.extract i s.size)] w1 fun e w' => e = .returned (.int .i64 (msize s i : Nat)) ∧ w' = w1 := fun w1 => markSize_at s i w1 hs hi
  have hcl : ∀ w1 : World, Calls Tryz.prog 97 #[.string (s.extract i (i + msize s i))] w1 fun e w' => e = .returned (.string (s.extract i (i + msize s i))) ∧ Below w1.heap.size w1 w' := fun w1 => clone_any _ w1 (by omega)
  have hnz : ¬ (msize s i : Int) = 0 := by omega
  have hb1 : (i : Int) + (msize s i : Int) ≤ (s.size : Int) := by omega
  go_enter Tryz.func77, Tryz.ntmps77
  go_wp2_with (first
    | (go_at_call 102; refine (hmk _).mono ?_; rintro e w1 ⟨rfl, rfl⟩))
  have hm2 : Mv b (i + msize s i) w ((w.setCell ⟨b, 1, none⟩ (.int .i64 ((i : Int) + (msize s i : Int)))).alloc slot0) := by
    unfold Mv
    rw [show ((i + msize s i : Nat) : Int) = (i : Int) + (msize s i : Int) by omega]
    exact (Below.refl _ _).alloc (by simp [World.setCell]) _
  have hs2 : Slot w.heap.size ((w.setCell ⟨b, 1, none⟩ (.int .i64 ((i : Int) + (msize s i : Int)))).alloc slot0) := by
    have := Slot.new (w.setCell ⟨b, 1, none⟩ (.int .i64 ((i : Int) + (msize s i : Int))))
    simpa [World.setCell] using this
  have hat2 := h.move hm2
  generalize ((w.setCell ⟨b, 1, none⟩ (.int .i64 ((i : Int) + (msize s i : Int)))).alloc slot0) = w2 at *
  obtain ⟨t0, t1, t2, t3⟩ := hat2
  clear h c0 c1 c2
  go_region_with (go_at_call 97; refine (hcl _).mono ?_; rintro e w3 ⟨rfl, hb3⟩; have hs3 : Slot w.heap.size w3 := Slot.below (w := w2.drew) hs2 hb3 hs2.lt; obtain ⟨x0, x1, x2, x3, d0, d1, d2, d3, f0, f1, f2, f3⟩ := hs3.cells)
  all_goals
    simp only [Exit.then]
    refine ‹∀ (a : Act) (w : World), _ → _› _ _ ?_
    go_wp2
    exact bodyPost_ret (v := tokV 4 (s.extract i (i + msize s i)) 0 i) (by simp [results, Tryz.results77, go_sem, d0, d1, d2, d3, tokV]) rfl
      ⟨rfl, (hm2.below' (below_drewN (Below.refl w2.heap.size w2) 1) (Nat.le_of_lt hs2.lt)).below' hb3 (Nat.le_of_lt hs2.lt) |>.set4 (Nat.le_refl _) _ _ _ _⟩
end Go.Proofs.YtifebbdjdllfpaaGreatDoor
