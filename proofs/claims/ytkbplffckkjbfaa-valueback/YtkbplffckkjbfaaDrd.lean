/- The reader: the program's. -/
import Derived.Test.YtkbplffckkjbfaaDtk
import Derived.Test.YtkbplffckkjbfaaVo
namespace Go.Proofs.Ytkbplffckkjbfaa
open Go.RowKit
set_option linter.unusedVariables false
set_option linter.unusedSimpArgs false

/-- Only block r is turned. -/
structure Only (r : Nat) (w w' : World) : Prop where
  os : w'.os = w.os
  tape : w'.tape = w.tape
  output : w'.output = w.output
  size : w.heap.size ≤ w'.heap.size
  block : ∀ k, k < w.heap.size → k ≠ r → w'.heap[k]? = w.heap[k]?
theorem Only.refl (r : Nat) (w : World) : Only r w w := ⟨rfl, rfl, rfl, Nat.le_refl _, fun _ _ _ => rfl⟩
theorem Only.trans {r : Nat} {w w1 w2 : World} (a : Only r w w1) (b : Only r w1 w2) : Only r w w2 := ⟨b.os.trans a.os, b.tape.trans a.tape, b.output.trans a.output, Nat.le_trans a.size b.size, fun k h1 h2 => (b.block k (Nat.lt_of_lt_of_le h1 a.size) h2).trans (a.block k h1 h2)⟩
theorem Only.of_below {r : Nat} {w w' : World} (h : Below w.heap.size w w') : Only r w w' := ⟨h.os, h.tape, h.output, h.size, fun k h1 _ => h.block k h1⟩
theorem Only.below {r : Nat} {w w' : World} (h : Only r w w') {m : Nat} (hm : m ≤ w.heap.size) (hr : m ≤ r) : Below m w w' := ⟨h.os, h.tape, h.output, h.size, fun k hk => h.block k (by omega) (by omega)⟩
theorem Only.since {r : Nat} {B : Nat → Prop} {w w' : World} (h : Only r w w') (hB : ¬ B r) : Since B w w' := ⟨h.size, fun k h1 h2 => h.block k h2 (fun e => hB (by rw [← e]; exact h1))⟩
theorem only_set {r : Nat} {w : World} (o : Nat) (x : Value) : Only r w (w.setCell ⟨r, o, none⟩ x) := ⟨rfl, rfl, rfl, by simp [World.setCell], fun k _ hk => Below.heap_setCell _ _ _ _ hk⟩
theorem IsB.since {B : Nat → Prop} {w w' : World} {sl : Value} {bs : List UInt8} (h : IsB B w sl bs) (s : Since B w w') : IsB B w' sl bs := by
  obtain ⟨ao, cap, h1, h2, h3, h5, h4⟩ := h
  refine ⟨ao, cap, h1, h2, h3, h5, fun hne => ?_⟩
  obtain ⟨g, o, e1, e2, e3, e4⟩ := h4 hne
  exact ⟨g, o, e1, e2, by have := s.size; omega, fun i b hi => by rw [World.cell?_of_block (w := w) (s.block g e2 e3)]; exact e4 i b hi⟩
theorem IsB.base {B B' : Nat → Prop} {w : World} {sl : Value} {bs : List UInt8} (h : IsB B w sl bs) (hb : ∀ k, B k → k < w.heap.size → B' k) : IsB B' w sl bs := by
  obtain ⟨ao, cap, h1, h2, h3, h5, h4⟩ := h
  refine ⟨ao, cap, h1, h2, h3, h5, fun hne => ?_⟩
  obtain ⟨g, o, e1, e2, e3, e4⟩ := h4 hne
  exact ⟨g, o, e1, hb g e2 e3, e3, e4⟩
theorem IsB.nil {B : Nat → Prop} {w : World} : IsB B w (.slice none 0 0) [] := ⟨none, 0, rfl, Nat.le_refl _, by omega, fun _ => rfl, fun h => absurd rfl h⟩
theorem IsB.take {B : Nat → Prop} {w : World} {ao : Option Addr} {n cap : Nat} {bs : List UInt8} (h : IsB B w (.slice ao n cap) bs) {k : Nat} (hk : k ≤ bs.length) : IsB B w (.slice ao k cap) (bs.take k) := by
  obtain ⟨ao', cap', h1, h2, h3, h5, h4⟩ := h
  simp only [Value.slice.injEq] at h1
  obtain ⟨rfl, _, rfl⟩ := h1
  have e : (bs.take k).length = k := by simp; omega
  refine ⟨ao, cap, by rw [e], by rw [e]; omega, h3, h5, fun hne => ?_⟩
  obtain ⟨g, o, e1, e2, e3, e4⟩ := h4 (by rintro rfl; exact hne (by simp))
  refine ⟨g, o, e1, e2, e3, fun i b hi => e4 i b ?_⟩
  rw [List.getElem?_take] at hi
  split at hi
  · exact hi
  · cases hi
theorem IsB.drop {B : Nat → Prop} {w : World} {ao : Option Addr} {n cap : Nat} {bs : List UInt8} (h : IsB B w (.slice ao n cap) bs) {k : Nat} (hk : k ≤ bs.length) : IsB B w (.slice (cutB ao k cap) (bs.length - k) (cap - k)) (bs.drop k) := by
  obtain ⟨ao', cap', h1, h2, h3, h5, h4⟩ := h
  simp only [Value.slice.injEq] at h1
  obtain ⟨rfl, _, rfl⟩ := h1
  have e : (bs.drop k).length = bs.length - k := by simp
  refine ⟨_, _, by rw [e], by rw [e]; omega, by omega, fun hn => ?_, fun hne => ?_⟩
  · have : ao = none := by
      unfold cutB at hn
      split at hn
      · exact hn
      · simpa using hn
    have := h5 this
    omega
  have hlt : k < bs.length := by
    rcases Nat.lt_or_ge k bs.length with h | h
    · exact h
    · exact absurd (List.drop_of_length_le h) hne
  obtain ⟨g, o, e1, e2, e3, e4⟩ := h4 (by rintro rfl; simp at hlt)
  refine ⟨g, o + k, ?_, e2, e3, fun i b hi => ?_⟩
  · unfold cutB
    rw [if_neg (by omega), e1]
    by_cases h0 : k = 0 <;> simp [Addr.add, h0]
  · rw [List.getElem?_drop] at hi
    rw [Nat.add_assoc]
    exact e4 _ b hi
theorem IsB.slice {B : Nat → Prop} {w : World} {sl : Value} {bs : List UInt8} (h : IsB B w sl bs) : ∃ ao cap, sl = .slice ao bs.length cap ∧ bs.length ≤ cap ∧ cap ≤ 9223372036854775807 := by
  obtain ⟨ao, cap, h1, h2, h3, _, _⟩ := h
  exact ⟨ao, cap, h1, h2, h3⟩
/-- A reader, and what it has left; nothing: bad. -/
def RdS (w : World) (r : Nat) (st : Option (List UInt8)) : Prop := ∃ sl, w.heap[r]? = some (.cells #[sl, .bool st.isNone] 91 (0, 0)) ∧ IsB (fun j => j < r) w sl (st.getD [])
theorem cells_of2 {w : World} {g : Nat} {y0 y1 : Value} {T : TypeId} (h : w.heap[g]? = some (.cells #[y0, y1] T (0, 0))) : w.cell? ⟨g, 0, none⟩ = some y0 ∧ w.cell? ⟨g, 1, none⟩ = some y1 ∧ w.frozen? ⟨g, 0, none⟩ = false ∧ w.frozen? ⟨g, 1, none⟩ = false := by
  refine ⟨?_, ?_, ?_, ?_⟩
  all_goals first | simp [World.cell?, h] | simp [World.frozen?, h]
theorem set2_0 {w : World} {g : Nat} {y0 y1 : Value} {T : TypeId} (h : w.heap[g]? = some (.cells #[y0, y1] T (0, 0))) (x : Value) : (w.setCell ⟨g, 0, none⟩ x).heap[g]? = some (.cells #[x, y1] T (0, 0)) := by
  simp [World.setCell, Array.getElem?_modify, h]
theorem set2_1 {w : World} {g : Nat} {y0 y1 : Value} {T : TypeId} (h : w.heap[g]? = some (.cells #[y0, y1] T (0, 0))) (x : Value) : (w.setCell ⟨g, 1, none⟩ x).heap[g]? = some (.cells #[y0, x] T (0, 0)) := by
  simp [World.setCell, Array.getElem?_modify, h]
theorem RdS.keep {w w' : World} {r : Nat} {st : Option (List UInt8)} (h : RdS w r st) (hb : Below w.heap.size w w') : RdS w' r st := by
  obtain ⟨sl, h1, h2⟩ := h
  exact ⟨sl, (hb.block r (Array.getElem?_eq_some_iff.1 h1).1).trans h1, h2.since (Since.of_below hb)⟩
theorem RdS.up {w w' : World} {r : Nat} {st : Option (List UInt8)} (h : RdS w r st) (hk : ∀ k, k ≤ r → w'.heap[k]? = w.heap[k]?) (hs : w.heap.size ≤ w'.heap.size) : RdS w' r st := by
  obtain ⟨sl, h1, h2⟩ := h
  exact ⟨sl, (hk r (Nat.le_refl _)).trans h1, h2.since ⟨hs, fun k hk1 _ => hk k (Nat.le_of_lt hk1)⟩⟩
theorem RdS.setCell {w : World} {r g : Nat} {st : Option (List UInt8)} (h : RdS w r st) (hg : r < g) (o : Nat) (x : Value) : RdS (w.setCell ⟨g, o, none⟩ x) r st := h.up (fun k hk => Below.heap_setCell _ _ _ _ (by show k ≠ g; omega)) (by simp [World.setCell])
theorem Only.setCell {r : Nat} {w w' : World} (h : Only r w w') {g : Nat} (hg : w.heap.size ≤ g) (o : Nat) (x : Value) : Only r w (w'.setCell ⟨g, o, none⟩ x) := ⟨h.os, h.tape, h.output, by simpa [World.setCell] using h.size, fun k h1 h2 => (Below.heap_setCell _ _ _ _ (by show k ≠ g; omega)).trans (h.block k h1 h2)⟩
theorem RdS.lt {w : World} {r : Nat} {st : Option (List UInt8)} (h : RdS w r st) : r < w.heap.size := by
  obtain ⟨sl, h1, _⟩ := h
  exact (Array.getElem?_eq_some_iff.1 h1).1
set_option maxRecDepth 100000 in
set_option maxHeartbeats 1000000 in
theorem fail_any {w : World} {r : Nat} {st : Option (List UInt8)} (h : RdS w r st) :
    Calls Try.prog 100 #[.pointer (some ⟨r, 0, none⟩)] w fun e w' => (∃ v, e = .returned v) ∧ RdS w' r none ∧ Only r w w' := by
  obtain ⟨sl, h1, h2⟩ := h
  obtain ⟨c0, c1, f0, f1⟩ := cells_of2 h1
  have hrl : r < w.heap.size := (Array.getElem?_eq_some_iff.1 h1).1
  obtain ⟨w1, hW1⟩ : ∃ w1, w.setCell ⟨r, 0, none⟩ (.slice none 0 0) = w1 := ⟨_, rfl⟩
  have hblk1 : w1.heap[r]? = some (.cells #[.slice none 0 0, .bool st.isNone] 91 (0, 0)) := by rw [← hW1]; exact set2_0 h1 _
  obtain ⟨d0, d1, e0, e1⟩ := cells_of2 hblk1
  have hrl1 : r < w1.heap.size := (Array.getElem?_eq_some_iff.1 hblk1).1
  have hfin : RdS (w1.setCell ⟨r, 1, none⟩ (.bool true)) r none ∧ Only r w (w1.setCell ⟨r, 1, none⟩ (.bool true)) := by
    refine ⟨⟨.slice none 0 0, set2_1 hblk1 _, IsB.nil⟩, Only.trans ?_ (only_set 1 _)⟩
    rw [← hW1]; exact only_set 0 _
  generalize st.isNone = nn at *
  clear h1 h2 hblk1
  go_enter Try.func100, Try.ntmps100
  go_wp2_with fail
  exact bodyPost_end (results_none rfl _ _ _) rfl ⟨⟨_, rfl⟩, hfin⟩
/-- A number taken. -/
def rdN : Option (List UInt8) → Nat × Option (List UInt8)
  | none => (0, none)
  | some bs => if (tk bs).2 = 0 then (0, none) else ((tk bs).1, some (bs.drop (tk bs).2))
set_option maxRecDepth 100000 in
set_option maxHeartbeats 1000000 in
theorem number_any {w : World} {r : Nat} {st : Option (List UInt8)} (h : RdS w r st) :
    Calls Try.prog 99 #[.pointer (some ⟨r, 0, none⟩)] w fun e w' => e = .returned (.int .i64 ((rdN st).1 : Nat)) ∧ RdS w' r (rdN st).2 ∧ Only r w w' := by
  have hF := fail_any h
  have hst : Hid (rdN st = if (tk (st.getD [])).2 = 0 then (0, none) else ((tk (st.getD [])).1, some ((st.getD []).drop (tk (st.getD [])).2))) := by
    show _ = _
    cases st with
    | none => simp [rdN, tk, tkL]
    | some bs => rfl
  have hnn : Hid ((tk (st.getD [])).2 ≠ 0 → st.isNone = false) := by
    intro hne
    cases st with
    | none => exact absurd rfl hne
    | some bs => rfl
  obtain ⟨sl, h1, h2⟩ := h
  obtain ⟨c0, c1, f0, f1⟩ := cells_of2 h1
  have hrl : r < w.heap.size := (Array.getElem?_eq_some_iff.1 h1).1
  have hT := take_any h2
  obtain ⟨ao, cap, rfl, hc1, hc2⟩ := h2.slice
  generalize hbs : st.getD [] = bs at *
  by_cases h0 : (tk bs).2 = 0
  · have hfin : Hid (rdN st = (0, none)) := by show _ = _; rw [hst.out, if_pos h0]
    rw [h0] at hT
    generalize (tk bs).1 = X at *
    clear hst hnn h1 h2
    go_enter Try.func99, Try.ntmps99
    go_wp2_with fail
    refine hT.mono ?_
    rintro e w1 ⟨rfl, rfl⟩
    clear hT
    go_wp2_with fail
    refine hF.mono ?_
    rintro e w2 ⟨⟨v, rfl⟩, hr2, ho2⟩
    clear hF
    go_wp2
    go_ret
    exact ⟨by rw [hfin.out]; rfl, by rw [hfin.out]; exact hr2, ho2⟩
  · have h0b : (((tk bs).2 : Int) == 0) = false := by simp; omega
    obtain ⟨hk, hnum, hXb⟩ := tk_back (bs := bs) (X := (tk bs).1) (k := (tk bs).2) rfl (by omega)
    have hfin : Hid (rdN st = ((tk bs).1, some (bs.drop (tk bs).2))) := by show _ = _; rw [hst.out, if_neg h0]
    have hcut := bcut_low ao bs.length cap (tk bs).2 hk
    have hdr := h2.drop hk
    have hno := hnn.out h0
    rw [hno] at h1
    generalize (tk bs).1 = X at *
    generalize (tk bs).2 = k at *
    obtain ⟨w1, hW1⟩ : ∃ w1, w.setCell ⟨r, 0, none⟩ (.slice (cutB ao k cap) (bs.length - k) (cap - k)) = w1 := ⟨_, rfl⟩
    have hres : RdS w1 r (some (bs.drop k)) ∧ Only r w w1 := by
      rw [← hW1]
      exact ⟨⟨_, set2_0 h1 _, hdr.since ((only_set 0 _).since (by simp))⟩, only_set 0 _⟩
    clear hst hnn h2 hF hdr hnum h0
    go_enter Try.func99, Try.ntmps99
    go_wp2_with fail
    refine hT.mono ?_
    rintro e w2 ⟨rfl, rfl⟩
    clear hT
    go_wp2
    go_ret
    exact ⟨by rw [hfin.out]; rfl, by rw [hfin.out]; exact hres.1, hres.2⟩
end Go.Proofs.Ytkbplffckkjbfaa
