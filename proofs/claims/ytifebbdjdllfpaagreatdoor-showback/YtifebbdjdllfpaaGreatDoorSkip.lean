/- The reader moves: what that leaves of memory; and how blanks and notes are gone over. -/
import Derived.Test.YtifebbdjdllfpaaGreatDoorRd
import Derived.Deep.LoopGhost
namespace Go.Proofs.YtifebbdjdllfpaaGreatDoor
open Go.RowKit
set_option linter.unusedSimpArgs false
set_option linter.unusedVariables false

theorem below_drewN {B : Nat} {a w : World} (h : Below B a w) (n : Nat) : Below B a (w.drewN n) := h.trans ⟨rfl, rfl, rfl, Nat.le_refl _, fun _ _ => rfl⟩
theorem setCell_twice (w : World) (a : Addr) (u v : Value) : (w.setCell a u).setCell a v = w.setCell a v := by
  unfold World.setCell
  congr 1
  apply Array.ext_getElem?
  intro k
  simp only [Array.getElem?_modify]
  by_cases hk : a.block = k
  · simp only [if_pos hk, Option.map_map]
    cases w.heap[k]? with
    | none => rfl
    | some o =>
      cases o <;> simp
      split <;> simp
  · simp only [if_neg hk]
/-- A store at the same place on both sides. -/
theorem below_setBoth {B : Nat} {w w' : World} (h : Below B w w') (a : Addr) (v : Value) : Below B (w.setCell a v) (w'.setCell a v) := by
  refine ⟨h.os, h.tape, h.output, by simpa [World.setCell] using h.size, fun k hk => ?_⟩
  simp only [World.setCell, Array.getElem?_modify]
  rw [h.block k hk]
theorem Mv.of_eq {b j n : Nat} {w w' : World} (h : w' = (w.setCell ⟨b, 1, none⟩ (.int .i64 (j : Int))).drewN n) : Mv b j w w' := by
  subst h; exact below_drewN (Below.refl _ _) n
theorem Mv.size {b j : Nat} {w w' : World} (h : Mv b j w w') : w.heap.size ≤ w'.heap.size := by
  have := Below.size h
  simpa [World.setCell] using this
theorem Mv.trans {b i j : Nat} {w w1 w2 : World} (h : Mv b i w w1) (k : Mv b j w1 w2) : Mv b j w w2 := by
  have h1 := below_setBoth h ⟨b, 1, none⟩ (.int .i64 (j : Int))
  rw [setCell_twice] at h1
  exact h1.trans (k.mono h.size)
theorem Mv.below {b j : Nat} {w w1 w2 : World} (h : Mv b j w w1) (k : Below w1.heap.size w1 w2) : Mv b j w w2 := Below.trans h (k.mono h.size)
theorem Mv.below' {b j B : Nat} {w w1 w2 : World} (h : Mv b j w w1) (k : Below B w1 w2) (hB : w.heap.size ≤ B) : Mv b j w w2 := Below.trans h (k.mono hB)
theorem At.move {b i j : Nat} {s : ByteArray} {w w' : World} (h : At b s i w) (m : Mv b j w w') : At b s j w' := by
  obtain ⟨h0, h1, h2, h3⟩ := h
  refine ⟨?_, ?_, ?_, by have := m.size; omega⟩
  · rw [Below.cell m (p := ⟨b, 0, none⟩) h3, World.cell?_setCell_other _ _ _ _ (by simp)]; exact h0
  · rw [Below.cell m (p := ⟨b, 1, none⟩) h3]; exact World.cell?_setCell_same _ _ _ h1
  · rw [Below.frozen m (p := ⟨b, 1, none⟩) h3, World.frozen?_setCell]; exact h2
theorem At.below {b i B : Nat} {s : ByteArray} {w w' : World} (h : At b s i w) (m : Below B w w') (hB : b < B) : At b s i w' := by
  obtain ⟨h0, h1, h2, h3⟩ := h
  exact ⟨by rw [m.cell (p := ⟨b, 0, none⟩) hB]; exact h0, by rw [m.cell (p := ⟨b, 1, none⟩) hB]; exact h1, by rw [m.frozen (p := ⟨b, 1, none⟩) hB]; exact h2, by have := m.size; omega⟩
theorem setCell_is {w : World} {a : Addr} {v : Value} (h : w.cell? a = some v) (ha : a.spot = none) : ∀ k : Nat, (w.setCell a v).heap[k]? = w.heap[k]? := by
  intro k
  simp only [World.setCell, Array.getElem?_modify]
  by_cases hk : a.block = k
  · simp only [if_pos hk]
    unfold World.cell? at h
    subst hk
    rcases hh : w.heap[a.block]? with _ | o
    · rfl
    · rw [hh] at h
      cases o <;> simp at h ⊢
      rename_i c e f
      rw [ha] at h ⊢
      simp at h ⊢
      apply Array.ext_getElem?
      intro x
      rw [Array.getElem?_setIfInBounds]
      split
      · rename_i hx; subst hx; split
        · exact h.symm
        · rename_i hx; rw [Array.getElem?_eq_none (by omega)]
      · rfl
  · simp only [if_neg hk]
theorem Mv.refl {b i : Nat} {s : ByteArray} {w : World} (h : At b s i w) : Mv b i w w :=
  ⟨rfl, rfl, rfl, by simp [World.setCell], fun k _ => (setCell_is h.spot rfl k).symm⟩

theorem kBlank : Kind 69 Lx.isBlank := isBlank_any
theorem kInNote : Kind 71 Lx.isInNote := isInNote_any
theorem kPart : Kind 96 Lx.isPart := isPart_any
theorem kDigit : Kind 74 Lx.isDigit := isDigit_any
theorem kPlain : Kind 101 Lx.isPlain := isPlain_any
theorem eBlank (args : Array Value) (w : World) : (callFunc 69 args).run Tryz.prog w = .ok (.enter 69 args) w := enters_of Tryz.func69 (by kernel_rfl) rfl args w
theorem eInNote (args : Array Value) (w : World) : (callFunc 71 args).run Tryz.prog w = .ok (.enter 71 args) w := enters_of Tryz.func71 (by kernel_rfl) rfl args w
theorem ePart (args : Array Value) (w : World) : (callFunc 96 args).run Tryz.prog w = .ok (.enter 96 args) w := enters_of Tryz.func96 (by kernel_rfl) rfl args w
theorem eDigit (args : Array Value) (w : World) : (callFunc 74 args).run Tryz.prog w = .ok (.enter 74 args) w := enters_of Tryz.func74 (by kernel_rfl) rfl args w
theorem ePlain (args : Array Value) (w : World) : (callFunc 101 args).run Tryz.prog w = .ok (.enter 101 args) w := enters_of Tryz.func101 (by kernel_rfl) rfl args w

/-- How many bytes of blanks and notes stand from place i on. -/
def gap (s : ByteArray) (i : Nat) : Nat := Lx.skipF false (s.data.toList.drop i)
theorem gap_le (s : ByteArray) (i : Nat) (hi : i ≤ s.size) : i + gap s i ≤ s.size := by
  have := Lx.skip_le false (s.data.toList.drop i)
  unfold gap; simp at this; omega
theorem gap_blanks (s : ByteArray) (i : Nat) : gap s i = run s i Lx.isBlank + gap s (i + run s i Lx.isBlank) := by
  unfold gap run; rw [← List.drop_drop]; exact Lx.skip_blanks _
theorem gap_note (s : ByteArray) (i : Nat) (h : i < s.size) (hh : s[i] = 35) : gap s i = run s i Lx.isInNote + gap s (i + run s i Lx.isInNote) ∧ 1 ≤ run s i Lx.isInNote := by
  have e : s.data.toList.drop i = 35 :: s.data.toList.drop (i + 1) := by
    rw [List.drop_eq_getElem_cons (by simpa using h)]
    congr 1
  unfold gap run
  rw [← List.drop_drop, e]
  exact ⟨Lx.skip_hash _, by rw [List.takeWhile_cons_of_pos (by rfl)]; simp⟩
theorem gap_none (s : ByteArray) (i : Nat) (h : i < s.size) (hb : Lx.isBlank s[i] = false) (hh : s[i] ≠ 35) : gap s i = 0 := by
  have e : s.data.toList.drop i = s[i] :: s.data.toList.drop (i + 1) := by
    rw [List.drop_eq_getElem_cons (by simpa using h)]
    congr 1
  unfold gap
  rw [e]
  apply Lx.skip_none
  intro c hc
  simp at hc
  subst hc
  exact ⟨hb, hh⟩
theorem run_head (s : ByteArray) (i : Nat) (p : UInt8 → Bool) (hi : i ≤ s.size) (h : i + run s i p < s.size) : p s[i + run s i p] = false := by
  have hlt : run s i p < (s.data.toList.drop i).length := by simp; omega
  rcases hq : p s[i + run s i p] with _ | _
  · rfl
  · have := Lx.tw_step (l := s.data.toList.drop i) (k := run s i p) (p := p) (Nat.le_refl _) hlt (by
      rw [List.getElem_drop]; exact hq)
    unfold run at this; omega

theorem take_mv (b : Nat) (s : ByteArray) (i K : Nat) (p : UInt8 → Bool) (w : World) (h : At b s i w) (hs : s.size ≤ maxLen) (hi : i ≤ s.size) (hK : Kind K p) (hr : ∀ (args : Array Value) (w : World), (callFunc K args).run Tryz.prog w = .ok (.enter K args) w) :
    Calls Tryz.prog 68 #[.pointer (some ⟨b, 0, none⟩), .func (.func K) #[] #[]] w fun e w' => e = .returned (.string (s.extract i (i + run s i p))) ∧ Mv b (i + run s i p) w w' := by
  refine (take_any b s i K p w h hs hi hK hr).mono ?_
  rintro e w' ⟨rfl, n, hw⟩
  exact ⟨rfl, Mv.of_eq hw⟩
theorem At.drewN {b i : Nat} {s : ByteArray} {w : World} (h : At b s i w) (n : Nat) : At b s i (w.drewN n) := ⟨h.text, h.spot, h.free, h.there⟩
theorem ended_yes (b : Nat) (s : ByteArray) (w : World) (h : At b s s.size w) (hs : s.size ≤ maxLen) :
    Calls Tryz.prog 70 #[.pointer (some ⟨b, 0, none⟩)] w fun e w' => e = .returned (.bool true) ∧ ∃ n, w' = w.drewN n := by
  refine (ended_any b s s.size w h hs (Nat.le_refl _)).mono ?_
  rintro e w' ⟨rfl, hw⟩
  exact ⟨ret_bool (by simp), hw⟩
theorem ended_no (b : Nat) (s : ByteArray) (i : Nat) (w : World) (h : At b s i w) (hs : s.size ≤ maxLen) (hi : i < s.size) :
    Calls Tryz.prog 70 #[.pointer (some ⟨b, 0, none⟩)] w fun e w' => e = .returned (.bool false) ∧ ∃ n, w' = w.drewN n := by
  refine (ended_any b s i w h hs (by omega)).mono ?_
  rintro e w' ⟨rfl, hw⟩
  exact ⟨ret_bool (by simp; omega), hw⟩

set_option maxHeartbeats 2000000 in
theorem skip_any (b : Nat) (s : ByteArray) (i : Nat) (w : World) (h : At b s i w) (hs : s.size ≤ maxLen) (hi : i ≤ s.size) :
    Calls Tryz.prog 48 #[.pointer (some ⟨b, 0, none⟩)] w fun e w' => e = .returned (.tuple #[]) ∧ Mv b (i + gap s i) w w' := by
  go_enter Tryz.func48, Tryz.ntmps48
  go_wp2
  go_loopg [] (s.size - i) (fun g wr => ∃ j, j ≤ s.size ∧ g = s.size - j ∧ Aside (j + gap s j = i + gap s i) ∧ At b s j wr ∧ Mv b j w wr)
  case atStart => exact ⟨i, hi, rfl, rfl, h, Mv.refl h⟩
  case round =>
    obtain ⟨j, hj, rfl, hg, hat, hmv⟩ := hrel
    go_wp2_with (go_at_call 68; refine (take_mv b s j _ _ _ hat hs hj kBlank eBlank).mono ?_; rintro e w1 ⟨rfl, hm1⟩)
    have hat1 := hat.move hm1
    have hmv1 := hmv.trans hm1
    clear hm1 hat hmv
    have hle := run_le s j Lx.isBlank hj
    have hgb : Aside (gap s j = run s j Lx.isBlank + gap s (j + run s j Lx.isBlank)) := gap_blanks s j
    have hhd : Aside (∀ h : j + run s j Lx.isBlank < s.size, Lx.isBlank s[j + run s j Lx.isBlank] = false) := run_head s j Lx.isBlank hj
    have hjl : j ≤ j + run s j Lx.isBlank := Nat.le_add_right _ _
    have hex : ∃ j1, Aside (j1 = j + run s j Lx.isBlank) ∧ At b s j1 w1 ∧ Mv b j1 w w1 ∧ j1 ≤ s.size ∧ Aside (gap s j = run s j Lx.isBlank + gap s j1) ∧ Aside (∀ h : j1 < s.size, Lx.isBlank s[j1] = false) ∧ j ≤ j1 := ⟨_, rfl, hat1, hmv1, hle, hgb, hhd, hjl⟩
    clear hat1 hmv1 hle hgb hhd hjl
    obtain ⟨j1, hj1, hat1, hmv1, hle, hgb, hhd, hjl⟩ := hex
    by_cases hend : j1 = s.size
    · subst hend
      go_wp2_with fail
      go_quiet ((go_at_call 70; exact Calls.quiet_of (ended_yes b s _ (hat1.drewN _) hs)))
      go_wp2
      refine bodyPost_ret (results_none rfl _ _ _) rfl ⟨rfl, ?_⟩
      have e1 := hg.out; have e2 := hgb.out; have e0 := hj1.out
      have e3 := gap_le s s.size (Nat.le_refl _)
      have e4 := gap_le s j hj
      rw [show i + gap s i = s.size by omega]
      exact hmv1.below' (below_drewN (Below.refl _ _) _) (Nat.le_refl _)
    · have hlt : j1 < s.size := by omega
      obtain ⟨c0, c1, c2, c3⟩ := hat1
      have hat1 : At b s j1 w1 := ⟨c0, c1, c2, c3⟩
      have hbl : Aside (Lx.isBlank s[j1] = false) := hhd.out hlt
      by_cases hh : s[j1] = 35
      · have hz : ((s[j1].toNat : Int) != 35) = false := by rw [hh]; rfl
        go_wp2_with fail
        go_quiet ((go_at_call 70; exact Calls.quiet_of (ended_no b s j1 _ (hat1.drewN _) hs hlt)))
        go_wp2_with (go_at_call 68; refine (take_mv b s j1 _ _ _ (hat1.drewN _) hs hle kInNote eInNote).mono ?_; rintro e w2 ⟨rfl, hm2⟩)
        obtain ⟨e3, e5⟩ := gap_note s j1 hlt hh
        go_roundg (s.size - (j1 + run s j1 Lx.isInNote))
        case measure => omega
        case rel =>
          have e1 := hg.out; have e2 := hgb.out; have e0 := hj1.out
          have e6 := run_le s j1 Lx.isInNote hle
          exact ⟨_, e6, rfl, by show _ = _; omega, (hat1.drewN _).move hm2, (hmv1.below' (below_drewN (Below.refl _ _) _) (Nat.le_refl _)).trans hm2⟩
      · have hz : ((s[j1].toNat : Int) != 35) = true := by
          have : s[j1].toNat ≠ 35 := fun e => hh (UInt8.toNat_inj.1 e)
          simp; omega
        go_wp2_with fail
        go_quiet ((go_at_call 70; exact Calls.quiet_of (ended_no b s j1 _ (hat1.drewN _) hs hlt)))
        go_wp2
        refine bodyPost_ret (results_none rfl _ _ _) rfl ⟨rfl, ?_⟩
        have e1 := hg.out; have e2 := hgb.out; have e0 := hj1.out
        have e3 := gap_none s j1 hlt hbl.out hh
        rw [show i + gap s i = j1 by omega]
        exact hmv1.below' (below_drewN (Below.refl _ _) _) (Nat.le_refl _)
end Go.Proofs.YtifebbdjdllfpaaGreatDoor
