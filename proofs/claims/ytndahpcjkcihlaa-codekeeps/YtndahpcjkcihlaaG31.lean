/- Texts of ours, joined: Dre, Vwn, Eb. -/
import Derived.Test.YtndahpcjkcihlaaG28
import Derived.Test.YtndahpcjkcihlaaG03
import Derived.Test.YtndahpcjkcihlaaG20
import Derived.Deep.LoopGhost
import Derived.Maps.AppendAt
import Derived.Deep.RegionHeld3
import Derived.Deep.DrawnRows
/- Bytes, New, End: the program's. -/
namespace Go.Proofs.Ytndahpcjkcihlaa
open Go.RowKit
set_option linter.unusedVariables false
set_option linter.unusedSimpArgs false

abbrev byteV (b : UInt8) : Value := .int .u8 b.toNat
theorem owns_b {w : World} {base : Nat} {v : Value} {bs : List UInt8} (h : w.ownsRow base 5 1 v bs.length (bs.map byteV)) : IsB (From base) w v bs := by
  rcases h.2 with ⟨rfl, h0⟩ | ⟨g, cap, cur, rfl, hb, hg, hn, hm, hs, ht⟩
  · have : bs = [] := List.length_eq_zero_iff.1 h0
    subst this
    exact IsB.nil
  · refine ⟨_, cap, rfl, hn, by unfold maxLen at hm; omega, (fun h => by cases h), fun _ => ⟨g, 0, rfl, hb, (Array.getElem?_eq_some_iff.1 hg).1, fun i b hi => ?_⟩⟩
    rw [cell_block hg, Nat.zero_add]
    have h1 : (bs.map byteV)[i]? = some (byteV b) := by rw [List.getElem?_map, hi]; rfl
    rw [← ht, List.getElem?_take] at h1
    split at h1
    · simpa using h1
    · cases h1
theorem eq_nil (w : World) : (binOp BinOp.eql 34 (.slice none 0 0) (.slice none 0 0)).run Try.prog w = .ok (.bool true) w := by kernel_rfl
theorem eq_some (ad : Addr) (n c : Nat) (w : World) : (binOp BinOp.eql 34 (.slice (some ad) n c) (.slice none 0 0)).run Try.prog w = .ok (.bool false) w := by kernel_rfl
set_option maxRecDepth 100000 in
set_option maxHeartbeats 1000000 in
theorem clone_any {B : Nat → Prop} {w : World} {sl : Value} {bs : List UInt8} (h : IsB B w sl bs) (hl : bs.length ≤ 1000000) :
    Calls Try.prog 74 #[sl] w fun e w' => (∃ sl', e = .returned sl' ∧ IsB (From w.heap.size) w' sl' bs) ∧ Below w.heap.size w w' := by
  obtain ⟨ao, cap, rfl, hc1, hc2, h5, hcell⟩ := h
  rcases ao with _ | ad
  · have hcap := h5 rfl
    subst hcap
    have hb0 : bs = [] := List.length_eq_zero_iff.1 (by omega)
    subst hb0
    show Calls Try.prog 74 #[.slice none 0 0] w _
    have heq := eq_nil
    go_enter Try.func74, Try.ntmps74
    go_wp2
    go_ret
    exact ⟨⟨_, rfl, IsB.nil⟩, Below.refl _ _⟩
  · have heq := eq_some ad bs.length cap
    obtain ⟨wa, hWa⟩ : ∃ wa, w.alloc (.cells #[] 5) = wa := ⟨_, rfl⟩
    have hba : Below w.heap.size w wa := by rw [← hWa]; exact (Below.refl _ _).alloc (Nat.le_refl _) _
    have hown : wa.ownsRow w.heap.size 5 1 (.slice (some ⟨w.heap.size, 0, none⟩) 0 0) 0 [] := by
      rw [← hWa]
      exact ⟨rfl, Or.inr ⟨w.heap.size, 0, #[], rfl, Nat.le_refl _, heap_new _ _, Nat.le_refl _, by unfold maxLen; omega, rfl, rfl⟩⟩
    obtain ⟨ao', cap', w', hr, ho, hb', _⟩ := app_run Try.underlying34 byteInfo rfl (by decide) 34 (c := cap) (m := bs.length) (ad := some ad) (news := bs.map byteV) hown (fun h => by cases h) (by simp) (fun b hb j u hu => by
      obtain rfl := Option.some.inj hb
      rw [List.getElem?_map] at hu
      obtain ⟨c, hc, rfl⟩ := Option.map_eq_some_iff.1 hu
      obtain ⟨g, o, e1, e2, e3, e4⟩ := hcell (by rintro rfl; simp at hc)
      obtain rfl := Option.some.inj e1
      have := e4 j c hc
      rw [← (bcell hba).1 g _ e3] at this
      by_cases h0 : j = 0
      · subst h0; simpa [Addr.add] using this
      · simpa [Addr.add, h0] using this) (by intro u hu; obtain ⟨c, _, rfl⟩ := List.mem_map.1 hu; rfl) (by omega) (by decide) hba.size
    have hz : 0 + bs.length = bs.length := by omega
    rw [hz] at hr ho
    have hfin := owns_b ho
    clear ho hown hcell
    go_enter Try.func74, Try.ntmps74
    go_wp2_with (at_builtin; refine Lib.wpList_append_run _ rfl _ _ 34 34 rfl _ _ rfl rfl _ _ hr ?_)
    go_ret
    exact ⟨⟨_, rfl, hfin⟩, hba.trans hb'⟩
/-- Bytes taken. -/
def rdB (n : Int) : Option (List UInt8) → List UInt8 × Option (List UInt8)
  | none => ([], none)
  | some bs => if n < 0 ∨ (bs.length : Int) < n then ([], none) else (bs.take n.toNat, some (bs.drop n.toNat))
set_option maxRecDepth 100000 in
set_option maxHeartbeats 1000000 in
theorem bytesR_neg {w : World} {r : Nat} {st : Option (List UInt8)} (h : RdS w r st) {n : Int} (hn : n < 0 ∨ ((st.getD []).length : Int) < n) :
    Calls Try.prog 80 #[.pointer (some ⟨r, 0, none⟩), .int .i64 n] w fun e w' => e = .returned (.slice none 0 0) ∧ RdS w' r none ∧ Only r w w' := by
  have hF := fail_any h
  obtain ⟨sl, h1, h2⟩ := h
  obtain ⟨c0, c1, f0, f1⟩ := cells_of2 h1
  have hrl : r < w.heap.size := (Array.getElem?_eq_some_iff.1 h1).1
  obtain ⟨ao, cap, rfl, hc1, hc2⟩ := h2.slice
  generalize (st.getD []).length = ln at *
  generalize st.isNone = nn at *
  clear h1 h2
  by_cases h0 : n < 0
  · have hd : decide (n < 0) = true := by simp [h0]
    go_enter Try.func80, Try.ntmps80
    go_wp2_with fail
    refine hF.mono ?_
    rintro e w2 ⟨⟨v, rfl⟩, hr2, ho2⟩
    clear hF
    go_wp2
    go_ret
    exact ⟨rfl, hr2, ho2⟩
  · have hd : decide (n < 0) = false := by simp; omega
    have hn2 : (ln : Int) < n := by omega
    go_enter Try.func80, Try.ntmps80
    go_wp2_with fail
    refine hF.mono ?_
    rintro e w2 ⟨⟨v, rfl⟩, hr2, ho2⟩
    clear hF
    go_wp2
    go_ret
    exact ⟨rfl, hr2, ho2⟩
set_option maxRecDepth 100000 in
set_option maxHeartbeats 1000000 in
theorem bytes_ok {w : World} {r : Nat} {st : Option (List UInt8)} (h : RdS w r st) {n : Nat} (hn : n ≤ (st.getD []).length) (hl : (st.getD []).length ≤ 1000000) :
    Calls Try.prog 80 #[.pointer (some ⟨r, 0, none⟩), .int .i64 n] w fun e w' => (∃ sl', e = .returned sl' ∧ IsB (From w.heap.size) w' sl' ((st.getD []).take n)) ∧ RdS w' r (st.map (·.drop n)) ∧ Only r w w' := by
  obtain ⟨sl, h1, h2⟩ := h
  obtain ⟨c0, c1, f0, f1⟩ := cells_of2 h1
  have hrl : r < w.heap.size := (Array.getElem?_eq_some_iff.1 h1).1
  obtain ⟨ao, cap, rfl, hc1, hc2⟩ := h2.slice
  have hst : Hid ((st.map (·.drop n)).getD [] = (st.getD []).drop n ∧ (st.map (·.drop n)).isNone = st.isNone) := by cases st <;> simp [Hid]
  have hcl := clone_any (h2.take hn) (by simp; omega)
  have hq1 := bcut_high ao (st.getD []).length cap n (by omega)
  have hq2 := bcut_low ao (st.getD []).length cap n hn
  have hdr := h2.drop hn
  have hn0 : ¬ (n : Int) < 0 := by omega
  have hn1 : ¬ ((st.getD []).length : Int) < (n : Int) := by omega
  generalize hbs : st.getD [] = bs at *
  generalize hnn : st.isNone = nn at *
  clear h2
  go_enter Try.func80, Try.ntmps80
  go_wp2_with fail
  refine hcl.mono ?_
  rintro e w1 ⟨⟨sl', rfl, hs'⟩, hb1⟩
  clear hcl c0 c1 f0 f1
  have h11 : w1.heap[r]? = some (.cells #[.slice ao bs.length cap, .bool nn] 101 (0, 0)) := (hb1.block _ hrl).trans h1
  obtain ⟨c0, c1, f0, f1⟩ := cells_of2 h11
  obtain ⟨ao', cap', rfl, _, _⟩ := hs'.slice
  have hrl1 : r < w1.heap.size := (Array.getElem?_eq_some_iff.1 h11).1
  obtain ⟨w2, hW2⟩ : ∃ w2, w1.setCell ⟨r, 0, none⟩ (.slice (cutB ao n cap) (bs.length - n) (cap - n)) = w2 := ⟨_, rfl⟩
  have hres : IsB (From w.heap.size) w2 (.slice ao' (bs.take n).length cap') (bs.take n) ∧ RdS w2 r (st.map (·.drop n)) ∧ Only r w w2 := by
    rw [← hW2]
    refine ⟨hs'.since ((only_set 0 _).since (by show ¬ (w.heap.size ≤ r); omega)), ⟨.slice (cutB ao n cap) (bs.length - n) (cap - n), ?_, ?_⟩, (Only.of_below hb1).trans (only_set 0 _)⟩
    · rw [hst.out.2]; exact set2_0 h11 _
    · rw [hst.out.1]; exact (hdr.since (Since.of_below hb1)).since ((only_set 0 _).since (by simp))
  have htl : (bs.take n).length = n := by simp; omega
  clear hs' hdr h11 h1 hst
  go_wp2
  go_ret
  exact ⟨⟨_, rfl, by have h9 := hres.1; rw [htl] at h9; exact h9⟩, hres.2.1, hres.2.2⟩
set_option maxRecDepth 100000 in
set_option maxHeartbeats 1000000 in
theorem new_any {B : Nat → Prop} {w : World} {sl : Value} {bs : List UInt8} (h : IsB B w sl bs) (hl : bs.length ≤ 1000000) :
    Calls Try.prog 47 #[sl] w fun e w' => (∃ r, e = .returned (.pointer (some ⟨r, 0, none⟩)) ∧ w.heap.size ≤ r ∧ RdS w' r (some bs)) ∧ Below w.heap.size w w' := by
  have hcl := clone_any h hl
  obtain ⟨ao, cap, rfl, hc1, hc2⟩ := h.slice
  clear h
  go_enter Try.func47, Try.ntmps47
  go_wp2_with fail
  refine hcl.mono ?_
  rintro e w1 ⟨⟨sl', rfl, hs'⟩, hb1⟩
  clear hcl
  have hba : Below w1.heap.size w1 (w1.alloc (.cells #[sl', .bool false] 101)) := (Below.refl _ _).alloc (Nat.le_refl _) _
  have hfin : RdS (w1.alloc (.cells #[sl', .bool false] 101)) w1.heap.size (some bs) := ⟨sl', heap_new _ _, (hs'.base (B' := fun j => j < w1.heap.size) (fun j _ h2 => h2)).since (Since.of_below hba)⟩
  have hs1 := hb1.size
  obtain ⟨ao', cap', rfl, _, _⟩ := hs'.slice
  clear hs'
  go_wp2
  go_ret
  exact ⟨⟨_, rfl, hs1, hfin⟩, hb1.trans (hba.mono hs1)⟩
theorem end_eq {st : Option (List UInt8)} : (st == some []) = (!st.isNone && ((st.getD []).length == 0)) := by
  rcases st with _ | _ | ⟨b, r⟩ <;> simp
set_option maxRecDepth 100000 in
set_option maxHeartbeats 1000000 in
theorem end_any {w : World} {r : Nat} {st : Option (List UInt8)} (h : RdS w r st) :
    Calls Try.prog 53 #[.pointer (some ⟨r, 0, none⟩)] w fun e w' => e = .returned (.bool (st == some [])) ∧ w' = w := by
  obtain ⟨sl, h1, h2⟩ := h
  obtain ⟨c0, c1, f0, f1⟩ := cells_of2 h1
  have hrl : r < w.heap.size := (Array.getElem?_eq_some_iff.1 h1).1
  obtain ⟨ao, cap, rfl, hc1, hc2⟩ := h2.slice
  rw [end_eq]
  clear h1 h2
  rcases st with _ | bs
  · simp only [Option.isNone_none, Option.getD_none] at *
    go_enter Try.func53, Try.ntmps53
    go_wp2
    go_ret
    exact ⟨rfl, rfl⟩
  · simp only [Option.isNone_some, Option.getD_some] at *
    by_cases h0 : bs.length = 0
    · have h0b : ((bs.length : Int) == 0) = true := by simp [h0]
      go_enter Try.func53, Try.ntmps53
      go_wp2
      go_ret
      exact ⟨ret_bool (by simp [h0]), rfl⟩
    · have h0b : ((bs.length : Int) == 0) = false := by rw [beq_eq_false_iff_ne]; omega
      go_enter Try.func53, Try.ntmps53
      go_wp2
      go_ret
      exact ⟨ret_bool (by simp [h0]), rfl⟩
/-- A number up to a limit. -/
def rdU (lim : Nat) (st : Option (List UInt8)) : Nat × Option (List UInt8) := if lim < (rdN st).1 then (0, none) else rdN st
theorem rdN_le (st : Option (List UInt8)) : (rdN st).1 ≤ 9223372036854775807 := by
  rcases st with _ | bs
  · simp [rdN]
  · simp only [rdN]
    split
    · simp
    · rename_i h
      exact (tk_back (bs := bs) (X := (tk bs).1) (k := (tk bs).2) rfl (by omega)).2.2
/-- An int. -/
def rdI (st : Option (List UInt8)) : Int × Option (List UInt8) := (if (rdU 1 st).1 = 1 then -((rdN (rdU 1 st).2).1 : Int) - 1 else (rdN (rdU 1 st).2).1, (rdN (rdU 1 st).2).2)
end Go.Proofs.Ytndahpcjkcihlaa
/- Values as bytes: the program's. -/
namespace Go.Proofs.Ytndahpcjkcihlaa
open Go.RowKit
set_option linter.unusedVariables false
set_option linter.unusedSimpArgs false
attribute [local go_sem ↓] Go.wp_at_zero Go.wp_at_succ

theorem owns_news {w : World} {base e n c : Nat} {ad : Option Addr} {xs : List Value} (h : w.ownsRow base e 1 (.slice ad n c) n xs) : (ad = none → n = 0 ∧ c = 0) ∧ ∀ b, ad = some b → ∀ j u, xs[j]? = some u → w.cell? (b.add j) = some u := by
  rcases h.2 with ⟨h1, h0⟩ | ⟨g, cap, cur, h1, h2, h3, h4, h5, h6, h7⟩
  · simp only [Value.slice.injEq] at h1
    obtain ⟨rfl, _, rfl⟩ := h1
    exact ⟨fun _ => ⟨h0, rfl⟩, fun b hb => by cases hb⟩
  · simp only [Value.slice.injEq] at h1
    obtain ⟨rfl, _, rfl⟩ := h1
    refine ⟨fun h => (by cases h), fun b hb j u hu => ?_⟩
    cases hb
    have e : (⟨g, 0, none⟩ : Addr).add j = ⟨g, j, none⟩ := by by_cases hj : j = 0 <;> simp [Addr.add, hj]
    rw [e, cell_block h3]
    rw [← h7, List.getElem?_take] at hu
    split at hu
    · simpa using hu
    · cases hu
/-- The same, with where the new row lies: where the old one lay, or in new memory. -/
theorem app_run_at {T E : TypeId} {z : Value} {size bytes : Nat} (ht : Try.prog.underlying T = some (.slice E)) (hinfo : (Try.prog.info? E).map (fun i => (i.zero, i.size, i.bytes)) = some (some z, size, bytes)) (hzs : z.cells.size = size) (hsz : 0 < size) (ty : TypeId)
    {w : World} {base n m c : Nat} {v : Value} {xs news : List Value} {ad : Option Addr} (hown : w.ownsRow base E size v n xs) (hnil : ad = none → m = 0 ∧ c = 0) (hl : news.length = m * size) (hnews : ∀ b, ad = some b → ∀ j u, news[j]? = some u → w.cell? (b.add j) = some u) (h1 : ∀ u ∈ news, u.oneCell' = true)
    (hn : n + m ≤ 100000000) (hby : bytes ≤ 1000) (hbase : base ≤ w.heap.size) :
    ∃ ao cap w', (Builtin.append_ #[T, T] ty #[v, .slice ad m c]).run Try.prog w = .ok (.slice ao (n + m) cap) w' ∧ w'.ownsRow base E size (.slice ao (n + m) cap) (n + m) (xs ++ news) ∧ Below base w w' ∧ w.grownBy w' v.ownBlock ∧ (Value.ownBlock (.slice ao (n + m) cap) = v.ownBlock ∨ Value.ownBlock (.slice ao (n + m) cap) = some w.heap.size) := by
  obtain ⟨i, hi, hz, hs, hb⟩ := info_parts hinfo
  cases ad with
  | none =>
    obtain ⟨rfl, rfl⟩ := hnil rfl
    have hne : news = [] := List.length_eq_zero_iff.1 (by omega)
    subst hne
    obtain ⟨ao, cap, rfl, h2, h3⟩ := owns_slice hown
    exact ⟨ao, cap, w, run_append_owned_none (P := Try.prog) (w := w) base T ty E i size ht hi _ n xs hown, by simpa using hown, Below.refl _ _, grown_same _ _, Or.inl rfl⟩
  | some b =>
    have hmul : (n + m) * bytes ≤ 100000000 * 1000 := Nat.mul_le_mul hn hby
    obtain ⟨v', w', hr, ho, hg, _, hat⟩ := run_append_own_at (P := Try.prog) w base T ty E i z size bytes ht hi hz hs hb hzs hsz v n xs hown b m c news hl (hnews b rfl) h1 (by unfold maxLen; omega) (by omega) hbase
    obtain ⟨ao, cap, rfl, _, _⟩ := owns_slice ho
    exact ⟨ao, cap, w', hr, ho, (Below.refl _ _).grown hg hbase (fun k hk => (hown.lt k hk).1), hg, hat⟩
theorem ret_slice {ao : Option Addr} {n m cap : Nat} (h : n = m) : Ending.returned (.slice ao n cap) = .returned (.slice ao m cap) := by rw [h]
/-- An own row of bytes. -/
abbrev Own8 (w : World) (base : Nat) (ao : Option Addr) (cap : Nat) (bs : List UInt8) : Prop := w.ownsRow base 5 1 (.slice ao bs.length cap) bs.length (c8 bs)
/-- It answers bytes in an own row. -/
def OutB (base : Nat) (w : World) (bs : List UInt8) (r : Ending) (w' : World) : Prop := (∃ ao cap, r = .returned (.slice ao bs.length cap) ∧ Own8 w' base ao cap bs) ∧ Below base w w'
set_option maxRecDepth 100000 in
set_option maxHeartbeats 1000000 in
theorem numbers_any {base g : Nat} {bs : List UInt8} {xs : List Int} {ao : Option Addr} {cap : Nat} {w : World} (hown : Own8 w base ao cap bs) (hbs : bs.length ≤ 900000) (hbase : base ≤ w.heap.size) (hxs : IntsAt w g xs) (hr : ∀ x ∈ xs, InR x) (hm : xs.length ≤ 2) :
    Calls Try.prog 72 #[.slice ao bs.length cap, .slice (some ⟨g, 0, none⟩) xs.length xs.length] w fun r w' => ((∃ ao' cap', r = .returned (.slice ao' (bs ++ nums xs).length cap') ∧ Own8 w' base ao' cap' (bs ++ nums xs) ∧ ∀ k, Value.ownBlock (.slice ao' (bs ++ nums xs).length cap') = some k → Value.ownBlock (.slice ao bs.length cap) = some k ∨ w.heap.size ≤ k) ∧ Below base w w') ∧ w.grownBy w' (Value.ownBlock (.slice ao bs.length cap)) := by
  have hP := put_nil hxs hr hm
  have hlen := nums_len xs hr
  have hA : ∀ w1 a1 c1, Below w.heap.size w w1 → w1.ownsRow w.heap.size 5 1 (.slice a1 (nums xs).length c1) (nums xs).length (c8 (nums xs)) → ∃ ao' cap' w', (Builtin.append_ #[34, 34] 34 #[.slice ao bs.length cap, .slice a1 (nums xs).length c1]).run Try.prog w1 = .ok (.slice ao' (bs ++ nums xs).length cap') w' ∧ Own8 w' base ao' cap' (bs ++ nums xs) ∧ Below base w w' ∧ w.grownBy w' (Value.ownBlock (.slice ao bs.length cap)) ∧ ∀ k, Value.ownBlock (.slice ao' (bs ++ nums xs).length cap') = some k → Value.ownBlock (.slice ao bs.length cap) = some k ∨ w.heap.size ≤ k := by
    intro w1 a1 c1 hb1 ho1
    obtain ⟨n1, n2⟩ := owns_news ho1
    obtain ⟨ao', cap', w', h1, h2, h3, h4, h5⟩ := app_run_at (news := c8 (nums xs)) Try.underlying34 byteInfo rfl (by decide) 34 (owns_below hown hb1) n1 (by rw [c8_len]; omega) n2 (c8_one _) (by omega) (by decide) (by have := hb1.size; omega)
    rw [← c8_append] at h2
    rw [← List.length_append] at h1 h2 h5
    exact ⟨ao', cap', w', h1, h2, (hb1.mono hbase).trans h3, ⟨h4.os.trans hb1.os, h4.tape.trans hb1.tape, h4.output.trans hb1.output, Nat.le_trans hb1.size h4.size, fun k hk hne => (h4.block k (by have := hb1.size; omega) hne).trans (hb1.block k hk)⟩, fun k hk => by
      rcases h5 with h5 | h5
      · exact Or.inl (by rw [← h5]; exact hk)
      · rw [h5] at hk; cases hk; exact Or.inr hb1.size⟩
  clear hown hxs hr
  go_enter Try.func72, Try.ntmps72
  go_wp2_with fail
  refine hP.mono ?_
  rintro e w1 ⟨⟨a1, c1, rfl, ho1⟩, hb1⟩
  obtain ⟨ao', cap', w', h1, h2, h3, h4, h5⟩ := hA w1 a1 c1 hb1 ho1
  clear hP hA ho1
  go_wp2_with (at_builtin; refine Lib.wpList_append_run _ rfl _ _ 34 34 rfl _ _ rfl rfl _ _ h1 ?_)
  go_ret
  exact ⟨⟨⟨ao', cap', ret_slice (by rw [List.length_append]), h2, h5⟩, h3⟩, h4⟩
/-- One number or two that were just laid down. -/
theorem ints_one {w : World} {x : Int} {T : TypeId} : IntsAt (w.alloc (.cells #[.int .i64 x] T)) w.heap.size [x] := ⟨by simp, fun q y hq => by
  have hj := (List.getElem?_eq_some_iff.1 hq).1
  simp at hj; subst hj
  simp at hq; subst hq
  exact cell_of_one (heap_new w _)⟩
theorem ints_two {w : World} {x y : Int} {T : TypeId} : IntsAt (w.alloc (.cells #[.int .i64 x, .int .i64 y] T)) w.heap.size [x, y] := ⟨by simp, fun q z hq => by
  rw [cell_block (heap_new w _)]
  have hj := (List.getElem?_eq_some_iff.1 hq).1
  simp only [List.length_cons, List.length_nil] at hj
  have : q = 0 ∨ q = 1 := by omega
  rcases this with rfl | rfl
  · simp at hq; subst hq; rfl
  · simp at hq; subst hq; rfl⟩
/-- written does what it should, of this value. -/
def WrOk (base : Nat) (v : V) : Prop := ∀ (bs : List UInt8) (ao asl : Option Addr) (cap cv : Nat) (w : World), Own8 w base ao cap bs → base ≤ w.heap.size → bs.length + (enc v).length ≤ 800000 → IsW (Lo base) w v (.slice asl v.l.length cv) →
    Calls Try.prog 46 #[.slice ao bs.length cap, .agg #[.int .i64 v.k, .int .i64 v.n, .string ⟨v.t.toArray⟩, .slice asl v.l.length cv]] w fun r w' => OutB base w (bs ++ enc v) r w'
/-- Behind what stands ahead: the parts. -/
theorem written_rest {base : Nat} {v : V} (hok : ∀ x ∈ v.l, WrOk base x) {bs : List UInt8} {w : World} (q : Nat) (hq : q < v.l.length) {wr : World} {asl ao : Option Addr} {cv cap : Nat} (hv : IsVs (Lo base) w v.l (.slice asl v.l.length cv)) (hB : Below base w wr) (hbase : base ≤ w.heap.size) (hown : Own8 wr base ao cap (bs ++ encs (v.l.take q))) (hlen : bs.length + (encs v.l).length ≤ 800000) :
    ∃ x g o ax cx, v.l[q]? = some x ∧ asl = some ⟨g, o, none⟩ ∧ g < wr.heap.size ∧ wr.cell? ⟨g, o + q * 4, none⟩ = some (.int .i64 x.k) ∧ wr.cell? ⟨g, o + q * 4 + 1, none⟩ = some (.int .i64 x.n) ∧ wr.cell? ⟨g, o + q * 4 + 2, none⟩ = some (.string ⟨x.t.toArray⟩) ∧ wr.cell? ⟨g, o + q * 4 + 3, none⟩ = some (.slice ax x.l.length cx) ∧
      ∀ w2, Below wr.heap.size wr w2 → Calls Try.prog 46 #[.slice ao (bs ++ encs (v.l.take q)).length cap, .agg #[.int .i64 x.k, .int .i64 x.n, .string ⟨x.t.toArray⟩, .slice ax x.l.length cx]] w2 fun r w' => OutB base w (bs ++ encs (v.l.take (q + 1))) r w' := by
  have hx : v.l[q]? = some v.l[q] := List.getElem?_eq_getElem hq
  obtain ⟨g, o, ax, cx, e, hlo, hg, c0, c1, c2, c3, hw⟩ := (hv.since ⟨hB.size, fun k h1 _ => hB.block k h1⟩).get hx
  refine ⟨v.l[q], g, o, ax, cx, hx, e, hg, c0, c1, c2, c3, fun w2 hb2 => ?_⟩
  have hs := hB.size
  have hs2 := hb2.size
  have e1 := encs_take_succ hx
  have hle : (encs (v.l.take (q + 1))).length ≤ (encs v.l).length := by
    have := congrArg List.length (congrArg encs (List.take_append_drop (q + 1) v.l))
    rw [encs_append, List.length_append] at this; omega
  have e2 : (encs (v.l.take (q + 1))).length = (encs (v.l.take q)).length + (enc v.l[q]).length := by rw [e1]; simp
  have hC := hok _ (List.getElem_mem hq) (bs ++ encs (v.l.take q)) ao ax cap cx w2 (owns_below hown hb2) (by omega) (by simp; omega) (hw.below hb2)
  refine hC.mono fun r w' h => ?_
  obtain ⟨⟨a1, c1', h1, h2⟩, h3⟩ := h
  rw [e1, ← List.append_assoc]
  exact ⟨⟨a1, c1', h1, h2⟩, hB.trans ((hb2.mono (by omega)).trans h3)⟩
end Go.Proofs.Ytndahpcjkcihlaa
/- Numbers as bytes: the document's. -/
namespace Go.Proofs.Ytndahpcjkcihlaa
open Go.RowKit
set_option linter.unusedVariables false
set_option linter.unusedSimpArgs false

/-- What append asks of a slice of bytes. -/
theorem IsB.news {B : Nat → Prop} {w : World} {ao : Option Addr} {n cap : Nat} {bs : List UInt8} (h : IsB B w (.slice ao n cap) bs) : (ao = none → bs.length = 0 ∧ cap = 0) ∧ ∀ b, ao = some b → ∀ j u, (c8 bs)[j]? = some u → w.cell? (b.add j) = some u := by
  obtain ⟨ao', cap', h1, h2, h3, h5, h4⟩ := h
  simp only [Value.slice.injEq] at h1
  obtain ⟨rfl, -, rfl⟩ := h1
  refine ⟨fun hn => ⟨by have := h5 hn; omega, h5 hn⟩, fun b hb j u hu => ?_⟩
  unfold c8 at hu
  rw [List.getElem?_map] at hu
  obtain ⟨c, hc, rfl⟩ := Option.map_eq_some_iff.1 hu
  obtain ⟨g, o, e1, e2, e3, e4⟩ := h4 (by rintro rfl; simp at hc)
  rw [hb] at e1
  obtain rfl := Option.some.inj e1
  have := e4 j c hc
  by_cases h0 : j = 0
  · subst h0; simpa [Addr.add] using this
  · simpa [Addr.add, h0] using this
theorem IsB.len {B : Nat → Prop} {w : World} {ao : Option Addr} {n cap : Nat} {bs : List UInt8} (h : IsB B w (.slice ao n cap) bs) : n = bs.length := by
  obtain ⟨ao', cap', h1, -⟩ := h
  simp only [Value.slice.injEq] at h1
  exact h1.2.1
/-- append([]byte{}, b...) behind the empty row that was just laid down. -/
theorem fresh8 {B : Nat → Prop} {w : World} {ao : Option Addr} {cap : Nat} {bs : List UInt8} (h : IsB B w (.slice ao bs.length cap) bs) (hl : bs.length ≤ 1000000) :
    ∃ wa a1 c1 w', w.alloc (.cells #[] 5) = wa ∧ (Builtin.append_ #[34, 34] 34 #[.slice (some ⟨w.heap.size, 0, none⟩) 0 0, .slice ao bs.length cap]).run Try.prog wa = .ok (.slice a1 bs.length c1) w' ∧ Own8 w' w.heap.size a1 c1 bs ∧ Below w.heap.size w w' := by
  obtain ⟨wa, hWa⟩ : ∃ wa, w.alloc (.cells #[] 5) = wa := ⟨_, rfl⟩
  have hba : Below w.heap.size w wa := by rw [← hWa]; exact (Below.refl _ _).alloc (Nat.le_refl _) _
  have hown : wa.ownsRow w.heap.size 5 1 (.slice (some ⟨w.heap.size, 0, none⟩) 0 0) 0 [] := by
    rw [← hWa]
    exact ⟨rfl, Or.inr ⟨w.heap.size, 0, #[], rfl, Nat.le_refl _, heap_new _ _, Nat.le_refl _, by unfold maxLen; omega, rfl, rfl⟩⟩
  obtain ⟨n1, n2⟩ := (h.since (Since.of_below hba)).news
  obtain ⟨ao', cap', w', hr, ho, hb', _⟩ := app_run Try.underlying34 byteInfo rfl (by decide) 34 (news := c8 bs) hown n1 (by rw [c8_len]; omega) n2 (c8_one _) (by omega) (by decide) hba.size
  have hz : 0 + bs.length = bs.length := by omega
  rw [hz] at hr ho
  exact ⟨wa, ao', cap', w', hWa, hr, ho, hba.trans hb'⟩
end Go.Proofs.Ytndahpcjkcihlaa
