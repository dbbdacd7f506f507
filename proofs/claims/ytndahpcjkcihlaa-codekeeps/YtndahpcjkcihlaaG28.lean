/- Texts of ours, joined: Drd, Je. -/
import Derived.Test.YtndahpcjkcihlaaG27
import Derived.Test.YtndahpcjkcihlaaG02
import Derived.Test.YtndahpcjkcihlaaG26
/- The reader: the program's. -/
namespace Go.Proofs.Ytndahpcjkcihlaa
open Go.RowKit
set_option linter.unusedVariables false
set_option linter.unusedSimpArgs false

/-- Only block r is turned. -/
structure Only (r : Nat) (w w' : World) : Prop where
  os : w'.os = w.os
  tape : w'.tape = w.tape
  output : w'.output = w.output
  size : w.heap.size ≤ w'.heap.size
  block : ∀ k, k < w.heap.size → k ≠ r → w'.heap[k]? = w.heap[k]?
theorem Only.refl (r : Nat) (w : World) : Only r w w := ⟨rfl, rfl, rfl, Nat.le_refl _, fun _ _ _ => rfl⟩
theorem Only.trans {r : Nat} {w w1 w2 : World} (a : Only r w w1) (b : Only r w1 w2) : Only r w w2 := ⟨b.os.trans a.os, b.tape.trans a.tape, b.output.trans a.output, Nat.le_trans a.size b.size, fun k h1 h2 => (b.block k (Nat.lt_of_lt_of_le h1 a.size) h2).trans (a.block k h1 h2)⟩
theorem Only.of_below {r : Nat} {w w' : World} (h : Below w.heap.size w w') : Only r w w' := ⟨h.os, h.tape, h.output, h.size, fun k h1 _ => h.block k h1⟩
theorem Only.below {r : Nat} {w w' : World} (h : Only r w w') {m : Nat} (hm : m ≤ w.heap.size) (hr : m ≤ r) : Below m w w' := ⟨h.os, h.tape, h.output, h.size, fun k hk => h.block k (by omega) (by omega)⟩
theorem Only.since {r : Nat} {B : Nat → Prop} {w w' : World} (h : Only r w w') (hB : ¬ B r) : Since B w w' := ⟨h.size, fun k h1 h2 => h.block k h2 (fun e => hB (by rw [← e]; exact h1))⟩
theorem only_set {r : Nat} {w : World} (o : Nat) (x : Value) : Only r w (w.setCell ⟨r, o, none⟩ x) := ⟨rfl, rfl, rfl, by simp [World.setCell], fun k _ hk => Below.heap_setCell _ _ _ _ hk⟩
theorem IsB.since {B : Nat → Prop} {w w' : World} {sl : Value} {bs : List UInt8} (h : IsB B w sl bs) (s : Since B w w') : IsB B w' sl bs := by
  obtain ⟨ao, cap, h1, h2, h3, h5, h4⟩ := h
  refine ⟨ao, cap, h1, h2, h3, h5, fun hne => ?_⟩
  obtain ⟨g, o, e1, e2, e3, e4⟩ := h4 hne
  exact ⟨g, o, e1, e2, by have := s.size; omega, fun i b hi => by rw [World.cell?_of_block (w := w) (s.block g e2 e3)]; exact e4 i b hi⟩
theorem IsB.base {B B' : Nat → Prop} {w : World} {sl : Value} {bs : List UInt8} (h : IsB B w sl bs) (hb : ∀ k, B k → k < w.heap.size → B' k) : IsB B' w sl bs := by
  obtain ⟨ao, cap, h1, h2, h3, h5, h4⟩ := h
  refine ⟨ao, cap, h1, h2, h3, h5, fun hne => ?_⟩
  obtain ⟨g, o, e1, e2, e3, e4⟩ := h4 hne
  exact ⟨g, o, e1, hb g e2 e3, e3, e4⟩
theorem IsB.nil {B : Nat → Prop} {w : World} : IsB B w (.slice none 0 0) [] := ⟨none, 0, rfl, Nat.le_refl _, by omega, fun _ => rfl, fun h => absurd rfl h⟩
theorem IsB.take {B : Nat → Prop} {w : World} {ao : Option Addr} {n cap : Nat} {bs : List UInt8} (h : IsB B w (.slice ao n cap) bs) {k : Nat} (hk : k ≤ bs.length) : IsB B w (.slice ao k cap) (bs.take k) := by
  obtain ⟨ao', cap', h1, h2, h3, h5, h4⟩ := h
  simp only [Value.slice.injEq] at h1
  obtain ⟨rfl, _, rfl⟩ := h1
  have e : (bs.take k).length = k := by simp; omega
  refine ⟨ao, cap, by rw [e], by rw [e]; omega, h3, h5, fun hne => ?_⟩
  obtain ⟨g, o, e1, e2, e3, e4⟩ := h4 (by rintro rfl; exact hne (by simp))
  refine ⟨g, o, e1, e2, e3, fun i b hi => e4 i b ?_⟩
  rw [List.getElem?_take] at hi
  split at hi
  · exact hi
  · cases hi
theorem IsB.drop {B : Nat → Prop} {w : World} {ao : Option Addr} {n cap : Nat} {bs : List UInt8} (h : IsB B w (.slice ao n cap) bs) {k : Nat} (hk : k ≤ bs.length) : IsB B w (.slice (cutB ao k cap) (bs.length - k) (cap - k)) (bs.drop k) := by
  obtain ⟨ao', cap', h1, h2, h3, h5, h4⟩ := h
  simp only [Value.slice.injEq] at h1
  obtain ⟨rfl, _, rfl⟩ := h1
  have e : (bs.drop k).length = bs.length - k := by simp
  refine ⟨_, _, by rw [e], by rw [e]; omega, by omega, fun hn => ?_, fun hne => ?_⟩
  · have : ao = none := by
      unfold cutB at hn
      split at hn
      · exact hn
      · simpa using hn
    have := h5 this
    omega
  have hlt : k < bs.length := by
    rcases Nat.lt_or_ge k bs.length with h | h
    · exact h
    · exact absurd (List.drop_of_length_le h) hne
  obtain ⟨g, o, e1, e2, e3, e4⟩ := h4 (by rintro rfl; simp at hlt)
  refine ⟨g, o + k, ?_, e2, e3, fun i b hi => ?_⟩
  · unfold cutB
    rw [if_neg (by omega), e1]
    by_cases h0 : k = 0 <;> simp [Addr.add, h0]
  · rw [List.getElem?_drop] at hi
    rw [Nat.add_assoc]
    exact e4 _ b hi
theorem IsB.slice {B : Nat → Prop} {w : World} {sl : Value} {bs : List UInt8} (h : IsB B w sl bs) : ∃ ao cap, sl = .slice ao bs.length cap ∧ bs.length ≤ cap ∧ cap ≤ 9223372036854775807 := by
  obtain ⟨ao, cap, h1, h2, h3, _, _⟩ := h
  exact ⟨ao, cap, h1, h2, h3⟩
/-- A reader, and what it has left; nothing: bad. -/
def RdS (w : World) (r : Nat) (st : Option (List UInt8)) : Prop := ∃ sl, w.heap[r]? = some (.cells #[sl, .bool st.isNone] 101 (0, 0)) ∧ IsB (fun j => j < r) w sl (st.getD [])
theorem cells_of2 {w : World} {g : Nat} {y0 y1 : Value} {T : TypeId} (h : w.heap[g]? = some (.cells #[y0, y1] T (0, 0))) : w.cell? ⟨g, 0, none⟩ = some y0 ∧ w.cell? ⟨g, 1, none⟩ = some y1 ∧ w.frozen? ⟨g, 0, none⟩ = false ∧ w.frozen? ⟨g, 1, none⟩ = false := by
  refine ⟨?_, ?_, ?_, ?_⟩
  all_goals first | simp [World.cell?, h] | simp [World.frozen?, h]
theorem set2_0 {w : World} {g : Nat} {y0 y1 : Value} {T : TypeId} (h : w.heap[g]? = some (.cells #[y0, y1] T (0, 0))) (x : Value) : (w.setCell ⟨g, 0, none⟩ x).heap[g]? = some (.cells #[x, y1] T (0, 0)) := by
  simp [World.setCell, Array.getElem?_modify, h]
theorem set2_1 {w : World} {g : Nat} {y0 y1 : Value} {T : TypeId} (h : w.heap[g]? = some (.cells #[y0, y1] T (0, 0))) (x : Value) : (w.setCell ⟨g, 1, none⟩ x).heap[g]? = some (.cells #[y0, x] T (0, 0)) := by
  simp [World.setCell, Array.getElem?_modify, h]
theorem RdS.keep {w w' : World} {r : Nat} {st : Option (List UInt8)} (h : RdS w r st) (hb : Below w.heap.size w w') : RdS w' r st := by
  obtain ⟨sl, h1, h2⟩ := h
  exact ⟨sl, (hb.block r (Array.getElem?_eq_some_iff.1 h1).1).trans h1, h2.since (Since.of_below hb)⟩
theorem RdS.up {w w' : World} {r : Nat} {st : Option (List UInt8)} (h : RdS w r st) (hk : ∀ k, k ≤ r → w'.heap[k]? = w.heap[k]?) (hs : w.heap.size ≤ w'.heap.size) : RdS w' r st := by
  obtain ⟨sl, h1, h2⟩ := h
  exact ⟨sl, (hk r (Nat.le_refl _)).trans h1, h2.since ⟨hs, fun k hk1 _ => hk k (Nat.le_of_lt hk1)⟩⟩
theorem RdS.setCell {w : World} {r g : Nat} {st : Option (List UInt8)} (h : RdS w r st) (hg : r < g) (o : Nat) (x : Value) : RdS (w.setCell ⟨g, o, none⟩ x) r st := h.up (fun k hk => Below.heap_setCell _ _ _ _ (by show k ≠ g; omega)) (by simp [World.setCell])
theorem Only.setCell {r : Nat} {w w' : World} (h : Only r w w') {g : Nat} (hg : w.heap.size ≤ g) (o : Nat) (x : Value) : Only r w (w'.setCell ⟨g, o, none⟩ x) := ⟨h.os, h.tape, h.output, by simpa [World.setCell] using h.size, fun k h1 h2 => (Below.heap_setCell _ _ _ _ (by show k ≠ g; omega)).trans (h.block k h1 h2)⟩
theorem RdS.lt {w : World} {r : Nat} {st : Option (List UInt8)} (h : RdS w r st) : r < w.heap.size := by
  obtain ⟨sl, h1, _⟩ := h
  exact (Array.getElem?_eq_some_iff.1 h1).1
set_option maxRecDepth 100000 in
set_option maxHeartbeats 1000000 in
theorem fail_any {w : World} {r : Nat} {st : Option (List UInt8)} (h : RdS w r st) :
    Calls Try.prog 76 #[.pointer (some ⟨r, 0, none⟩)] w fun e w' => (∃ v, e = .returned v) ∧ RdS w' r none ∧ Only r w w' := by
  obtain ⟨sl, h1, h2⟩ := h
  obtain ⟨c0, c1, f0, f1⟩ := cells_of2 h1
  have hrl : r < w.heap.size := (Array.getElem?_eq_some_iff.1 h1).1
  obtain ⟨w1, hW1⟩ : ∃ w1, w.setCell ⟨r, 0, none⟩ (.slice none 0 0) = w1 := ⟨_, rfl⟩
  have hblk1 : w1.heap[r]? = some (.cells #[.slice none 0 0, .bool st.isNone] 101 (0, 0)) := by rw [← hW1]; exact set2_0 h1 _
  obtain ⟨d0, d1, e0, e1⟩ := cells_of2 hblk1
  have hrl1 : r < w1.heap.size := (Array.getElem?_eq_some_iff.1 hblk1).1
  have hfin : RdS (w1.setCell ⟨r, 1, none⟩ (.bool true)) r none ∧ Only r w (w1.setCell ⟨r, 1, none⟩ (.bool true)) := by
    refine ⟨⟨.slice none 0 0, set2_1 hblk1 _, IsB.nil⟩, Only.trans ?_ (only_set 1 _)⟩
    rw [← hW1]; exact only_set 0 _
  generalize st.isNone = nn at *
  clear h1 h2 hblk1
  go_enter Try.func76, Try.ntmps76
  go_wp2_with fail
  exact bodyPost_end (results_none rfl _ _ _) rfl ⟨⟨_, rfl⟩, hfin⟩
/-- A number taken. -/
def rdN : Option (List UInt8) → Nat × Option (List UInt8)
  | none => (0, none)
  | some bs => if (tk bs).2 = 0 then (0, none) else ((tk bs).1, some (bs.drop (tk bs).2))
set_option maxRecDepth 100000 in
set_option maxHeartbeats 1000000 in
theorem number_any {w : World} {r : Nat} {st : Option (List UInt8)} (h : RdS w r st) :
    Calls Try.prog 48 #[.pointer (some ⟨r, 0, none⟩)] w fun e w' => e = .returned (.int .i64 ((rdN st).1 : Nat)) ∧ RdS w' r (rdN st).2 ∧ Only r w w' := by
  have hF := fail_any h
  have hst : Hid (rdN st = if (tk (st.getD [])).2 = 0 then (0, none) else ((tk (st.getD [])).1, some ((st.getD []).drop (tk (st.getD [])).2))) := by
    show _ = _
    cases st with
    | none => simp [rdN, tk, tkL]
    | some bs => rfl
  have hnn : Hid ((tk (st.getD [])).2 ≠ 0 → st.isNone = false) := by
    intro hne
    cases st with
    | none => exact absurd rfl hne
    | some bs => rfl
  obtain ⟨sl, h1, h2⟩ := h
  obtain ⟨c0, c1, f0, f1⟩ := cells_of2 h1
  have hrl : r < w.heap.size := (Array.getElem?_eq_some_iff.1 h1).1
  have hT := take_any h2
  obtain ⟨ao, cap, rfl, hc1, hc2⟩ := h2.slice
  generalize hbs : st.getD [] = bs at *
  by_cases h0 : (tk bs).2 = 0
  · have hfin : Hid (rdN st = (0, none)) := by show _ = _; rw [hst.out, if_pos h0]
    rw [h0] at hT
    generalize (tk bs).1 = X at *
    clear hst hnn h1 h2
    go_enter Try.func48, Try.ntmps48
    go_wp2_with fail
    refine hT.mono ?_
    rintro e w1 ⟨rfl, rfl⟩
    clear hT
    go_wp2_with fail
    refine hF.mono ?_
    rintro e w2 ⟨⟨v, rfl⟩, hr2, ho2⟩
    clear hF
    go_wp2
    go_ret
    exact ⟨by rw [hfin.out]; rfl, by rw [hfin.out]; exact hr2, ho2⟩
  · have h0b : (((tk bs).2 : Int) == 0) = false := by simp; omega
    obtain ⟨hk, hnum, hXb⟩ := tk_back (bs := bs) (X := (tk bs).1) (k := (tk bs).2) rfl (by omega)
    have hfin : Hid (rdN st = ((tk bs).1, some (bs.drop (tk bs).2))) := by show _ = _; rw [hst.out, if_neg h0]
    have hcut := bcut_low ao bs.length cap (tk bs).2 hk
    have hdr := h2.drop hk
    have hno := hnn.out h0
    rw [hno] at h1
    generalize (tk bs).1 = X at *
    generalize (tk bs).2 = k at *
    obtain ⟨w1, hW1⟩ : ∃ w1, w.setCell ⟨r, 0, none⟩ (.slice (cutB ao k cap) (bs.length - k) (cap - k)) = w1 := ⟨_, rfl⟩
    have hres : RdS w1 r (some (bs.drop k)) ∧ Only r w w1 := by
      rw [← hW1]
      exact ⟨⟨_, set2_0 h1 _, hdr.since ((only_set 0 _).since (by simp))⟩, only_set 0 _⟩
    clear hst hnn h2 hF hdr hnum h0
    go_enter Try.func48, Try.ntmps48
    go_wp2_with fail
    refine hT.mono ?_
    rintro e w2 ⟨rfl, rfl⟩
    clear hT
    go_wp2
    go_ret
    exact ⟨by rw [hfin.out]; rfl, by rw [hfin.out]; exact hres.1, hres.2⟩
end Go.Proofs.Ytndahpcjkcihlaa
/- A place is come to: the program's. -/
namespace Go.Proofs.Ytndahpcjkcihlaa
open Go.RowKit
set_option linter.unusedVariables false
set_option linter.unusedSimpArgs false
attribute [local go_sem ↓] Go.wp_at_zero Go.wp_at_succ

/-- What is known behind a coming to. -/
def RcPost (G : Nat → Prop) (p gh : Nat) (s : Option (List Int × List Nat)) (w : World) (e : Ending) (w' : World) : Prop := Fr G w w' ∧ e = .returned (.bool s.isSome) ∧ ∀ x, s = some x → Wk G p gh x.1 x.2 w'
set_option maxRecDepth 100000 in
set_option maxHeartbeats 600000 in
theorem reach_off {G : Nat → Prop} {p gh : Nat} {hs : List Int} {td : List Nat} {w : World} (h : Wk G p gh hs td w) (hlen : hs.length ≤ 900000) (htd : td.length ≤ 50000) {q : Nat} (hq : q ≤ 9000000) (x : Int) (hy : hs[q]? = none) : Calls Try.prog 67 #[.pointer (some ⟨p, 0, none⟩), .int .i64 q, .int .i64 x] w fun e w' => RcPost G p gh none w e w' := by
  obtain ⟨tv, b1, b2, b3, b4, b5⟩ := h.bx
  obtain ⟨c0, c1, f0, f1, hlp⟩ := cells_k2 b1
  have hq0 : (0 : Int) ≤ (q : Int) := by omega
  have hge : (hs.length : Int) ≤ (q : Int) := by have := List.getElem?_eq_none_iff.1 hy; omega
  have hpost : RcPost G p gh none w (.returned (.bool false)) w := ⟨Fr.refl _ _, rfl, fun x h => by cases h⟩
  clear b1 b2 b3 b4 b5 h hy
  go_enter Try.func67, Try.ntmps67
  go_wp2
  go_ret
  exact hpost
set_option maxRecDepth 100000 in
set_option maxHeartbeats 600000 in
theorem reach_old {G : Nat → Prop} {p gh : Nat} {hs : List Int} {td : List Nat} {w : World} (h : Wk G p gh hs td w) (hlen : hs.length ≤ 900000) (htd : td.length ≤ 50000) {q : Nat} {x y : Int} (hx : 0 ≤ x ∧ x ≤ 900) (hy : hs[q]? = some y) (hyb : 1 ≤ y ∧ y ≤ 1000) : Calls Try.prog 67 #[.pointer (some ⟨p, 0, none⟩), .int .i64 q, .int .i64 x] w fun e w' => RcPost G p gh (if y - 1 = x then some (hs, td) else none) w e w' := by
  obtain ⟨tv, b1, b2, b3, b4, b5⟩ := h.bx
  obtain ⟨c0, c1, f0, f1, hlp⟩ := cells_k2 b1
  have hq0 : (0 : Int) ≤ (q : Int) := by omega
  have hql := (List.getElem?_eq_some_iff.1 hy).1
  have hI : (q : Int) < (hs.length : Int) := by omega
  have hnI : ¬ (hs.length : Int) ≤ (q : Int) := by omega
  obtain ⟨k0, k1, k2⟩ := h.hk.get hy
  have hyn : (y == 0) = false := by rw [beq_eq_false_iff_ne]; omega
  have hH := height_any h hlen hy (by omega)
  have hpost : RcPost G p gh (if y - 1 = x then some (hs, td) else none) w (.returned (.bool (y - 1 == x))) w := by
    by_cases e : y - 1 = x
    · rw [if_pos e]
      exact ⟨Fr.refl _ _, by rw [e]; simp, fun z hz => by cases hz; exact h⟩
    · rw [if_neg e]
      have e2 : (y - 1 == x) = false := by simpa using e
      exact ⟨Fr.refl _ _, by rw [e2]; rfl, fun z hz => by cases hz⟩
  clear b1 b2 b3 b4 b5 h hy hql
  obtain ⟨S, hS⟩ : ∃ S, Hid ((if y - 1 = x then some (hs, td) else none) = S) := ⟨_, rfl⟩
  rw [hS.out] at hpost ⊢
  clear hS
  generalize y - 1 = z at *
  go_enter Try.func67, Try.ntmps67
  go_wp2_with fail
  refine hH.mono ?_
  rintro e w1 ⟨rfl, rfl⟩
  clear hH
  go_wp2
  go_ret
  exact hpost
set_option maxRecDepth 100000 in
set_option maxHeartbeats 600000 in
theorem reach_new {G : Nat → Prop} {p gh : Nat} {hs : List Int} {td : List Nat} {w : World} (h : Wk G p gh hs td w) (hlen : hs.length ≤ 900000) (htd : td.length ≤ 50000) {q : Nat} {x : Int} (hx : 0 ≤ x ∧ x ≤ 900) (hy : hs[q]? = some 0) : Calls Try.prog 67 #[.pointer (some ⟨p, 0, none⟩), .int .i64 q, .int .i64 x] w fun e w' => RcPost G p gh (some (hs.set q (x + 1), td ++ [q])) w e w' := by
  obtain ⟨tv, b1, b2, b3, b4, b5⟩ := h.bx
  have htv := b2.slice
  rw [tI_len] at htv
  obtain ⟨ao, c00, rfl, -, -⟩ := htv
  obtain ⟨c0, c1, f0, f1, hlp⟩ := cells_k2 b1
  have hq0 : (0 : Int) ≤ (q : Int) := by omega
  have hql := (List.getElem?_eq_some_iff.1 hy).1
  have hI : (q : Int) < (hs.length : Int) := by omega
  have hnI : ¬ (hs.length : Int) ≤ (q : Int) := by omega
  obtain ⟨k0, k1, k2⟩ := h.hk.get hy
  obtain ⟨x0, x1⟩ := hx
  have hwx : IntKind.i64.wrap (x + 1) = x + 1 := by rw [IntKind.wrap_i64]; omega
  -- the height is written
  obtain ⟨w1, hW1⟩ : ∃ w1, w.setCell ⟨gh, q, none⟩ (.int .i64 (x + 1)) = w1 := ⟨_, rfl⟩
  have hs1 : w1.heap.size = w.heap.size := by rw [← hW1]; simp [World.setCell]
  have hF1 : Fr G w w1 := by rw [← hW1]; exact Fr.set h.ng _ _
  have hi1 : Ints w1 gh (hs.set q (x + 1)) := by rw [← hW1]; exact h.hk.set q (x + 1)
  have b11 : w1.heap[p]? = some (.cells #[.slice (some ⟨gh, 0, none⟩) hs.length hs.length, .slice ao td.length c00] 95 (0, 0)) := by rw [← hW1]; exact (Below.heap_setCell _ _ _ _ h.pg).trans b1
  have b21 : IRow 0 w1 (.slice ao td.length c00) (tI td) := b2.since (fun j hj => by rw [← hW1]; exact Below.heap_setCell _ _ _ _ (by rintro rfl; exact b4 hj))
  -- a cell for what is appended
  obtain ⟨wa, hWa⟩ : ∃ wa, w1.alloc (.cells #[iV (q : Int)] 3) = wa := ⟨_, rfl⟩
  have hba : Below w1.heap.size w1 wa := by rw [← hWa]; exact (Below.refl _ _).alloc (Nat.le_refl _) _
  have hxa : wa.heap[w1.heap.size]? = some (.cells #[iV (q : Int)] 3 (0, 0)) := by rw [← hWa]; exact heap_new _ _
  have b2a : IRow 0 wa (.slice ao td.length c00) (tI td) := b21.since (fun j hj => hba.block j (b21.lt hj).2)
  obtain ⟨g, cap, wb, hrun, hrow, hgr, hat⟩ := b2a.push hxa (Nat.zero_le _) (by rw [tI_len]; omega) 1 55
  rw [tI_len] at hrun hrow
  have hFa : Fr G w1 wa := Fr.of_below hba
  have hFb : Fr G wa wb := Fr.grown hgr (fun k hk => b5 k hk)
  have hpa : p < wa.heap.size := Nat.lt_of_lt_of_le (Array.getElem?_eq_some_iff.1 b11).1 hba.size
  have hga : gh < wa.heap.size := Nat.lt_of_lt_of_le (Array.getElem?_eq_some_iff.1 hi1).1 hba.size
  have b1a : wa.heap[p]? = some (.cells #[.slice (some ⟨gh, 0, none⟩) hs.length hs.length, .slice ao td.length c00] 95 (0, 0)) := (hba.block _ (Array.getElem?_eq_some_iff.1 b11).1).trans b11
  have b1b : wb.heap[p]? = some (.cells #[.slice (some ⟨gh, 0, none⟩) hs.length hs.length, .slice ao td.length c00] 95 (0, 0)) := (hgr.block p hpa (fun e => b3 e.symm)).trans b1a
  have hib : Ints wb gh (hs.set q (x + 1)) := (hi1.keep (hba.block _ (Array.getElem?_eq_some_iff.1 hi1).1)).keep (hgr.block gh hga (fun e => b4 e.symm))
  obtain ⟨w3, hW3⟩ : ∃ w3, wb.setCell ⟨p, 1, none⟩ (.slice (some ⟨g, 0, none⟩) (td.length + 1) cap) = w3 := ⟨_, rfl⟩
  have hgp : g ≠ p ∧ g ≠ gh ∧ ¬ G g := by
    rcases hat with e | e
    · exact ⟨by rintro rfl; exact b3 e, by rintro rfl; exact b4 e, b5 g e⟩
    · refine ⟨by omega, by omega, fun hG => ?_⟩
      have := h.gb g hG
      have := hba.size
      omega
  have hF3 : Fr G wb w3 := by rw [← hW3]; exact Fr.set h.np _ _
  have hF : Fr G w w3 := ((hF1.trans hFa).trans hFb).trans hF3
  have hk3 : Wk G p gh (hs.set q (x + 1)) (td ++ [q]) w3 := by
    refine ⟨?_, ⟨.slice (some ⟨g, 0, none⟩) (td.length + 1) cap, ?_, ?_, ?_, ?_, ?_⟩, h.np, h.ng, h.pg, fun k hk => Nat.lt_of_lt_of_le (h.gb k hk) hF.size⟩
    · rw [← hW3]; exact hib.keep (Below.heap_setCell _ _ _ _ (Ne.symm h.pg))
    · rw [← hW3, List.length_set]; exact set2_1 b1b _
    · have e : tI (td ++ [q]) = tI td ++ [(q : Int)] := by simp [tI]
      rw [e]
      refine hrow.since (fun j hj => ?_)
      rw [← hW3]
      refine Below.heap_setCell _ _ _ _ ?_
      rintro rfl
      have : g = j := by simpa [Value.ownBlock] using hj
      exact hgp.1 this
    · intro e
      have : g = p := by simpa [Value.ownBlock] using e
      exact hgp.1 this
    · intro e
      have : g = gh := by simpa [Value.ownBlock] using e
      exact hgp.2.1 this
    · intro k e
      have : g = k := by simpa [Value.ownBlock] using e
      rw [← this]
      exact hgp.2.2
  have hH := height_any hk3 (by rw [List.length_set]; exact hlen) (q := q) (y := x + 1) (List.getElem?_set_self hql) (by omega)
  have hpost : RcPost G p gh (some (hs.set q (x + 1), td ++ [q])) w (.returned (.bool true)) w3 := ⟨hF, rfl, fun z hz => by cases hz; exact hk3⟩
  obtain ⟨c01, c11, f01, f11, -⟩ := cells_k2 b11
  obtain ⟨c0b, c1b, f0b, f1b, hlb⟩ := cells_k2 b1b
  obtain ⟨c0a, c1a, f0a, f1a, hla⟩ := cells_k2 b1a
  have hwy : x + 1 - 1 = x := by omega
  rw [hwy] at hH
  clear hs1 b1 b2 b3 b4 b5 h hy hF hF1 hFa hFb hF3 hk3 hgp hib hi1 b11 b21 b2a b1a b1b hrow hgr hat hba hxa hpa hga hwy
  go_enter Try.func67, Try.ntmps67
  go_wp2_with (at_builtin; refine Lib.wpList_append_run _ rfl _ _ 55 55 rfl _ _ rfl rfl _ _ hrun ?_; clear hrun)
  refine hH.mono ?_
  rintro e w4 ⟨rfl, rfl⟩
  clear hH
  go_wp2
  go_ret
  exact hpost
set_option maxRecDepth 100000 in
set_option maxHeartbeats 600000 in
theorem reach_any {G : Nat → Prop} {p gh : Nat} {hs : List Int} {td : List Nat} {w : World} (h : Wk G p gh hs td w) (hlen : hs.length ≤ 900000) (htd : td.length ≤ 50000) (hlow : ∀ (q : Nat) (y : Int), hs[q]? = some y → 0 ≤ y ∧ y ≤ 1000) (q : Nat) (hq : q ≤ 9000000) (x : Int) (hx : 0 ≤ x ∧ x ≤ 900) : Calls Try.prog 67 #[.pointer (some ⟨p, 0, none⟩), .int .i64 q, .int .i64 x] w fun e w' => RcPost G p gh (rch hs td q x) w e w' := by
  rcases hy : hs[q]? with _ | y
  · have hr : rch hs td q x = none := by unfold rch; rw [hy]
    rw [hr]
    exact reach_off h hlen htd hq x hy
  · by_cases hy0 : y = 0
    · subst hy0
      have hr : rch hs td q x = some (hs.set q (x + 1), td ++ [q]) := by unfold rch; rw [hy]; rfl
      rw [hr]
      exact reach_new h hlen htd hx hy
    · have hr : rch hs td q x = if y - 1 = x then some (hs, td) else none := by
        unfold rch; rw [hy]; show (if y = 0 then _ else _) = _; rw [if_neg hy0]
      rw [hr]
      exact reach_old h hlen htd hx hy (by have := hlow q y hy; omega)
end Go.Proofs.Ytndahpcjkcihlaa
