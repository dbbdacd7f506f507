/- Bytes, New, End: the program's. -/
import Derived.Test.YtkbplffckkjbfaaDrd
namespace Go.Proofs.Ytkbplffckkjbfaa
open Go.RowKit
set_option linter.unusedVariables false
set_option linter.unusedSimpArgs false

abbrev byteV (b : UInt8) : Value := .int .u8 b.toNat
theorem owns_b {w : World} {base : Nat} {v : Value} {bs : List UInt8} (h : w.ownsRow base 5 1 v bs.length (bs.map byteV)) : IsB (From base) w v bs := by
  rcases h.2 with ⟨rfl, h0⟩ | ⟨g, cap, cur, rfl, hb, hg, hn, hm, hs, ht⟩
  · have : bs = [] := List.length_eq_zero_iff.1 h0
    subst this
    exact IsB.nil
  · refine ⟨_, cap, rfl, hn, by unfold maxLen at hm; omega, (fun h => by cases h), fun _ => ⟨g, 0, rfl, hb, (Array.getElem?_eq_some_iff.1 hg).1, fun i b hi => ?_⟩⟩
    rw [cell_block hg, Nat.zero_add]
    have h1 : (bs.map byteV)[i]? = some (byteV b) := by rw [List.getElem?_map, hi]; rfl
    rw [← ht, List.getElem?_take] at h1
    split at h1
    · simpa using h1
    · cases h1
theorem eq_nil (w : World) : (binOp BinOp.eql 52 (.slice none 0 0) (.slice none 0 0)).run Try.prog w = .ok (.bool true) w := by kernel_rfl
theorem eq_some (ad : Addr) (n c : Nat) (w : World) : (binOp BinOp.eql 52 (.slice (some ad) n c) (.slice none 0 0)).run Try.prog w = .ok (.bool false) w := by kernel_rfl
set_option maxRecDepth 100000 in
set_option maxHeartbeats 1000000 in
theorem clone_any {B : Nat → Prop} {w : World} {sl : Value} {bs : List UInt8} (h : IsB B w sl bs) (hl : bs.length ≤ 1000000) :
    Calls Try.prog 86 #[sl] w fun e w' => (∃ sl', e = .returned sl' ∧ IsB (From w.heap.size) w' sl' bs) ∧ Below w.heap.size w w' := by
  obtain ⟨ao, cap, rfl, hc1, hc2, h5, hcell⟩ := h
  rcases ao with _ | ad
  · have hcap := h5 rfl
    subst hcap
    have hb0 : bs = [] := List.length_eq_zero_iff.1 (by omega)
    subst hb0
    show Calls Try.prog 86 #[.slice none 0 0] w _
    have heq := eq_nil
    go_enter Try.func86, Try.ntmps86
    go_wp2
    go_ret
    exact ⟨⟨_, rfl, IsB.nil⟩, Below.refl _ _⟩
  · have heq := eq_some ad bs.length cap
    obtain ⟨wa, hWa⟩ : ∃ wa, w.alloc (.cells #[] 5) = wa := ⟨_, rfl⟩
    have hba : Below w.heap.size w wa := by rw [← hWa]; exact (Below.refl _ _).alloc (Nat.le_refl _) _
    have hown : wa.ownsRow w.heap.size 5 1 (.slice (some ⟨w.heap.size, 0, none⟩) 0 0) 0 [] := by
      rw [← hWa]
      exact ⟨rfl, Or.inr ⟨w.heap.size, 0, #[], rfl, Nat.le_refl _, heap_new _ _, Nat.le_refl _, by unfold maxLen; omega, rfl, rfl⟩⟩
    obtain ⟨ao', cap', w', hr, ho, hb', _⟩ := app_run Try.underlying52 byteInfo rfl (by decide) 52 (c := cap) (m := bs.length) (ad := some ad) (news := bs.map byteV) hown (fun h => by cases h) (by simp) (fun b hb j u hu => by
      obtain rfl := Option.some.inj hb
      rw [List.getElem?_map] at hu
      obtain ⟨c, hc, rfl⟩ := Option.map_eq_some_iff.1 hu
      obtain ⟨g, o, e1, e2, e3, e4⟩ := hcell (by rintro rfl; simp at hc)
      obtain rfl := Option.some.inj e1
      have := e4 j c hc
      rw [← (bcell hba).1 g _ e3] at this
      by_cases h0 : j = 0
      · subst h0; simpa [Addr.add] using this
      · simpa [Addr.add, h0] using this) (by intro u hu; obtain ⟨c, _, rfl⟩ := List.mem_map.1 hu; rfl) (by omega) (by decide) hba.size
    have hz : 0 + bs.length = bs.length := by omega
    rw [hz] at hr ho
    have hfin := owns_b ho
    clear ho hown hcell
    go_enter Try.func86, Try.ntmps86
    go_wp2_with (at_builtin; refine Lib.wpList_append_run _ rfl _ _ 52 52 rfl _ _ rfl rfl _ _ hr ?_)
    go_ret
    exact ⟨⟨_, rfl, hfin⟩, hba.trans hb'⟩
/-- Bytes taken. -/
def rdB (n : Int) : Option (List UInt8) → List UInt8 × Option (List UInt8)
  | none => ([], none)
  | some bs => if n < 0 ∨ (bs.length : Int) < n then ([], none) else (bs.take n.toNat, some (bs.drop n.toNat))
set_option maxRecDepth 100000 in
set_option maxHeartbeats 1000000 in
theorem bytesR_neg {w : World} {r : Nat} {st : Option (List UInt8)} (h : RdS w r st) {n : Int} (hn : n < 0 ∨ ((st.getD []).length : Int) < n) :
    Calls Try.prog 89 #[.pointer (some ⟨r, 0, none⟩), .int .i64 n] w fun e w' => e = .returned (.slice none 0 0) ∧ RdS w' r none ∧ Only r w w' := by
  have hF := fail_any h
  obtain ⟨sl, h1, h2⟩ := h
  obtain ⟨c0, c1, f0, f1⟩ := cells_of2 h1
  have hrl : r < w.heap.size := (Array.getElem?_eq_some_iff.1 h1).1
  obtain ⟨ao, cap, rfl, hc1, hc2⟩ := h2.slice
  generalize (st.getD []).length = ln at *
  generalize st.isNone = nn at *
  clear h1 h2
  by_cases h0 : n < 0
  · have hd : decide (n < 0) = true := by simp [h0]
    go_enter Try.func89, Try.ntmps89
    go_wp2_with fail
    refine hF.mono ?_
    rintro e w2 ⟨⟨v, rfl⟩, hr2, ho2⟩
    clear hF
    go_wp2
    go_ret
    exact ⟨rfl, hr2, ho2⟩
  · have hd : decide (n < 0) = false := by simp; omega
    have hn2 : (ln : Int) < n := by omega
    go_enter Try.func89, Try.ntmps89
    go_wp2_with fail
    refine hF.mono ?_
    rintro e w2 ⟨⟨v, rfl⟩, hr2, ho2⟩
    clear hF
    go_wp2
    go_ret
    exact ⟨rfl, hr2, ho2⟩
set_option maxRecDepth 100000 in
set_option maxHeartbeats 1000000 in
theorem bytes_ok {w : World} {r : Nat} {st : Option (List UInt8)} (h : RdS w r st) {n : Nat} (hn : n ≤ (st.getD []).length) (hl : (st.getD []).length ≤ 1000000) :
    Calls Try.prog 89 #[.pointer (some ⟨r, 0, none⟩), .int .i64 n] w fun e w' => (∃ sl', e = .returned sl' ∧ IsB (From w.heap.size) w' sl' ((st.getD []).take n)) ∧ RdS w' r (st.map (·.drop n)) ∧ Only r w w' := by
  obtain ⟨sl, h1, h2⟩ := h
  obtain ⟨c0, c1, f0, f1⟩ := cells_of2 h1
  have hrl : r < w.heap.size := (Array.getElem?_eq_some_iff.1 h1).1
  obtain ⟨ao, cap, rfl, hc1, hc2⟩ := h2.slice
  have hst : Hid ((st.map (·.drop n)).getD [] = (st.getD []).drop n ∧ (st.map (·.drop n)).isNone = st.isNone) := by cases st <;> simp [Hid]
  have hcl := clone_any (h2.take hn) (by simp; omega)
  have hq1 := bcut_high ao (st.getD []).length cap n (by omega)
  have hq2 := bcut_low ao (st.getD []).length cap n hn
  have hdr := h2.drop hn
  have hn0 : ¬ (n : Int) < 0 := by omega
  have hn1 : ¬ ((st.getD []).length : Int) < (n : Int) := by omega
  generalize hbs : st.getD [] = bs at *
  generalize hnn : st.isNone = nn at *
  clear h2
  go_enter Try.func89, Try.ntmps89
  go_wp2_with fail
  refine hcl.mono ?_
  rintro e w1 ⟨⟨sl', rfl, hs'⟩, hb1⟩
  clear hcl c0 c1 f0 f1
  have h11 : w1.heap[r]? = some (.cells #[.slice ao bs.length cap, .bool nn] 91 (0, 0)) := (hb1.block _ hrl).trans h1
  obtain ⟨c0, c1, f0, f1⟩ := cells_of2 h11
  obtain ⟨ao', cap', rfl, _, _⟩ := hs'.slice
  have hrl1 : r < w1.heap.size := (Array.getElem?_eq_some_iff.1 h11).1
  obtain ⟨w2, hW2⟩ : ∃ w2, w1.setCell ⟨r, 0, none⟩ (.slice (cutB ao n cap) (bs.length - n) (cap - n)) = w2 := ⟨_, rfl⟩
  have hres : IsB (From w.heap.size) w2 (.slice ao' (bs.take n).length cap') (bs.take n) ∧ RdS w2 r (st.map (·.drop n)) ∧ Only r w w2 := by
    rw [← hW2]
    refine ⟨hs'.since ((only_set 0 _).since (by show ¬ (w.heap.size ≤ r); omega)), ⟨.slice (cutB ao n cap) (bs.length - n) (cap - n), ?_, ?_⟩, (Only.of_below hb1).trans (only_set 0 _)⟩
    · rw [hst.out.2]; exact set2_0 h11 _
    · rw [hst.out.1]; exact (hdr.since (Since.of_below hb1)).since ((only_set 0 _).since (by simp))
  have htl : (bs.take n).length = n := by simp; omega
  clear hs' hdr h11 h1 hst
  go_wp2
  go_ret
  exact ⟨⟨_, rfl, by have h9 := hres.1; rw [htl] at h9; exact h9⟩, hres.2.1, hres.2.2⟩
set_option maxRecDepth 100000 in
set_option maxHeartbeats 1000000 in
theorem new_any {B : Nat → Prop} {w : World} {sl : Value} {bs : List UInt8} (h : IsB B w sl bs) (hl : bs.length ≤ 1000000) :
    Calls Try.prog 68 #[sl] w fun e w' => (∃ r, e = .returned (.pointer (some ⟨r, 0, none⟩)) ∧ w.heap.size ≤ r ∧ RdS w' r (some bs)) ∧ Below w.heap.size w w' := by
  have hcl := clone_any h hl
  obtain ⟨ao, cap, rfl, hc1, hc2⟩ := h.slice
  clear h
  go_enter Try.func68, Try.ntmps68
  go_wp2_with fail
  refine hcl.mono ?_
  rintro e w1 ⟨⟨sl', rfl, hs'⟩, hb1⟩
  clear hcl
  have hba : Below w1.heap.size w1 (w1.alloc (.cells #[sl', .bool false] 91)) := (Below.refl _ _).alloc (Nat.le_refl _) _
  have hfin : RdS (w1.alloc (.cells #[sl', .bool false] 91)) w1.heap.size (some bs) := ⟨sl', heap_new _ _, (hs'.base (B' := fun j => j < w1.heap.size) (fun j _ h2 => h2)).since (Since.of_below hba)⟩
  have hs1 := hb1.size
  obtain ⟨ao', cap', rfl, _, _⟩ := hs'.slice
  clear hs'
  go_wp2
  go_ret
  exact ⟨⟨_, rfl, hs1, hfin⟩, hb1.trans (hba.mono hs1)⟩
theorem end_eq {st : Option (List UInt8)} : (st == some []) = (!st.isNone && ((st.getD []).length == 0)) := by
  rcases st with _ | _ | ⟨b, r⟩ <;> simp
set_option maxRecDepth 100000 in
set_option maxHeartbeats 1000000 in
theorem end_any {w : World} {r : Nat} {st : Option (List UInt8)} (h : RdS w r st) :
    Calls Try.prog 70 #[.pointer (some ⟨r, 0, none⟩)] w fun e w' => e = .returned (.bool (st == some [])) ∧ w' = w := by
  obtain ⟨sl, h1, h2⟩ := h
  obtain ⟨c0, c1, f0, f1⟩ := cells_of2 h1
  have hrl : r < w.heap.size := (Array.getElem?_eq_some_iff.1 h1).1
  obtain ⟨ao, cap, rfl, hc1, hc2⟩ := h2.slice
  rw [end_eq]
  clear h1 h2
  rcases st with _ | bs
  · simp only [Option.isNone_none, Option.getD_none] at *
    go_enter Try.func70, Try.ntmps70
    go_wp2
    go_ret
    exact ⟨rfl, rfl⟩
  · simp only [Option.isNone_some, Option.getD_some] at *
    by_cases h0 : bs.length = 0
    · have h0b : ((bs.length : Int) == 0) = true := by simp [h0]
      go_enter Try.func70, Try.ntmps70
      go_wp2
      go_ret
      exact ⟨ret_bool (by simp [h0]), rfl⟩
    · have h0b : ((bs.length : Int) == 0) = false := by rw [beq_eq_false_iff_ne]; omega
      go_enter Try.func70, Try.ntmps70
      go_wp2
      go_ret
      exact ⟨ret_bool (by simp [h0]), rfl⟩
/-- A number up to a limit. -/
def rdU (lim : Nat) (st : Option (List UInt8)) : Nat × Option (List UInt8) := if lim < (rdN st).1 then (0, none) else rdN st
theorem rdN_le (st : Option (List UInt8)) : (rdN st).1 ≤ 9223372036854775807 := by
  rcases st with _ | bs
  · simp [rdN]
  · simp only [rdN]
    split
    · simp
    · rename_i h
      exact (tk_back (bs := bs) (X := (tk bs).1) (k := (tk bs).2) rfl (by omega)).2.2
set_option maxRecDepth 100000 in
set_option maxHeartbeats 1000000 in
theorem upTo_any {w : World} {r : Nat} {st : Option (List UInt8)} (h : RdS w r st) (lim : Nat) (hlim : lim ≤ 1000) :
    Calls Try.prog 88 #[.pointer (some ⟨r, 0, none⟩), .int .i64 lim] w fun e w' => e = .returned (.int .i64 ((rdU lim st).1 : Nat)) ∧ RdS w' r (rdU lim st).2 ∧ Only r w w' := by
  have hN := number_any h
  have hle := rdN_le st
  by_cases hlt : lim < (rdN st).1
  · have hI : (lim : Int) < ((rdN st).1 : Int) := by omega
    have hfin : Hid (rdU lim st = (0, none)) := by show _ = _; unfold rdU; rw [if_pos hlt]
    obtain ⟨p, Hp⟩ : ∃ p, Hid (rdN st = p) := ⟨_, rfl⟩
    rw [Hp.out] at hN hI hle
    clear Hp
    go_enter Try.func88, Try.ntmps88
    go_wp2_with fail
    refine hN.mono ?_
    rintro e w1 ⟨rfl, hr1, ho1⟩
    clear hN
    have hB := bytesR_neg hr1 (n := -1) (Or.inl (by omega))
    clear hr1
    go_wp2_with fail
    refine hB.mono ?_
    rintro e w2 ⟨rfl, hr2, ho2⟩
    clear hB
    go_wp2
    go_ret
    exact ⟨by rw [hfin.out]; rfl, by rw [hfin.out]; exact hr2, ho1.trans ho2⟩
  · have hI : ¬ (lim : Int) < ((rdN st).1 : Int) := by omega
    have hfin : Hid (rdU lim st = rdN st) := by show _ = _; unfold rdU; rw [if_neg hlt]
    obtain ⟨p, Hp⟩ : ∃ p, Hid (rdN st = p) := ⟨_, rfl⟩
    rw [Hp.out] at hN hI hle
    go_enter Try.func88, Try.ntmps88
    go_wp2_with fail
    refine hN.mono ?_
    rintro e w1 ⟨rfl, hr1, ho1⟩
    clear hN
    go_wp2
    go_ret
    exact ⟨by rw [hfin.out, Hp.out]; rfl, by rw [hfin.out, Hp.out]; exact hr1, ho1⟩
/-- An int. -/
def rdI (st : Option (List UInt8)) : Int × Option (List UInt8) := (if (rdU 1 st).1 = 1 then -((rdN (rdU 1 st).2).1 : Int) - 1 else (rdN (rdU 1 st).2).1, (rdN (rdU 1 st).2).2)
set_option maxRecDepth 100000 in
set_option maxHeartbeats 1000000 in
theorem readInt_any {w : World} {r : Nat} {st : Option (List UInt8)} (h : RdS w r st) :
    Calls Try.prog 87 #[.pointer (some ⟨r, 0, none⟩)] w fun e w' => e = .returned (.int .i64 (rdI st).1) ∧ RdS w' r (rdI st).2 ∧ Only r w w' := by
  have hU := upTo_any h 1 (by omega)
  obtain ⟨p, Hp⟩ : ∃ p, Hid (rdU 1 st = p) := ⟨_, rfl⟩
  obtain ⟨q, Hq⟩ : ∃ q, Hid (rdN p.2 = q) := ⟨_, rfl⟩
  have hle := rdN_le p.2
  have hfin : Hid (rdI st = (if p.1 = 1 then -(q.1 : Int) - 1 else q.1, q.2)) := by show _ = _; unfold rdI; rw [Hp.out, Hq.out]
  rw [Hp.out] at hU
  rw [Hq.out] at hle
  have hU' : Calls Try.prog 88 #[.pointer (some ⟨r, 0, none⟩), .int .i64 1] w fun e w' => e = .returned (.int .i64 (p.1 : Nat)) ∧ RdS w' r p.2 ∧ Only r w w' := hU
  clear hU Hp
  by_cases h1 : p.1 = 1
  · have h1b : ((p.1 : Int) == 1) = true := by simp [h1]
    have hw1 : IntKind.i64.wrap (-(q.1 : Int)) = -(q.1 : Int) := by rw [IntKind.wrap_i64]; omega
    have hw2 : IntKind.i64.wrap (-(q.1 : Int) - 1) = -(q.1 : Int) - 1 := by rw [IntKind.wrap_i64]; omega
    have hfin2 : Hid (rdI st = (-(q.1 : Int) - 1, q.2)) := by show _ = _; rw [hfin.out, if_pos h1]
    clear h1 hfin
    go_enter Try.func87, Try.ntmps87
    go_wp2_with fail
    refine hU'.mono ?_
    rintro e w1 ⟨rfl, hr1, ho1⟩
    clear hU'
    have hN := number_any hr1
    rw [Hq.out] at hN
    go_wp2_with fail
    refine hN.mono ?_
    rintro e w2 ⟨rfl, hr2, ho2⟩
    clear hN
    go_wp2
    go_ret
    exact ⟨by rw [hfin2.out]; rfl, by rw [hfin2.out]; exact hr2, ho1.trans ho2⟩
  · have h1b : ((p.1 : Int) == 1) = false := by simp; omega
    have hfin2 : Hid (rdI st = ((q.1 : Int), q.2)) := by show _ = _; rw [hfin.out, if_neg h1]
    clear h1 hfin
    go_enter Try.func87, Try.ntmps87
    go_wp2_with fail
    refine hU'.mono ?_
    rintro e w1 ⟨rfl, hr1, ho1⟩
    clear hU'
    have hN := number_any hr1
    rw [Hq.out] at hN
    go_wp2_with fail
    refine hN.mono ?_
    rintro e w2 ⟨rfl, hr2, ho2⟩
    clear hN
    go_wp2
    go_ret
    exact ⟨by rw [hfin2.out]; rfl, by rw [hfin2.out]; exact hr2, ho1.trans ho2⟩
end Go.Proofs.Ytkbplffckkjbfaa
