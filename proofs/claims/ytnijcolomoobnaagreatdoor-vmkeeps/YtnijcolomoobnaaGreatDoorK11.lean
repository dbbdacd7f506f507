/- Texts of ours, joined: Drd, Vpk, Vpt, Vwn, Eb, Ven, Gv, Vz. -/
import Derived.Test.YtnijcolomoobnaaGreatDoorK10
import Derived.Deep.LoopGhost
import Derived.Laws.MakeOwn
import Derived.Maps.AppendAt
import Derived.Deep.RegionHeld3
import Derived.Deep.DrawnRows
import Derived.Test.YtnijcolomoobnaaGreatDoorK02
import Derived.Lib.AppendStr
import Derived.Test.YtnijcolomoobnaaGreatDoorK07
import Derived.Deep.AppendLies
namespace Go.Proofs.YtnijcolomoobnaaGreatDoor
open Go.RowKit
set_option linter.unusedVariables false
set_option linter.unusedSimpArgs false

structure Only (r : Nat) (w w' : World) : Prop where
  os : w'.os = w.os
  tape : w'.tape = w.tape
  output : w'.output = w.output
  size : w.heap.size ≤ w'.heap.size
  block : ∀ k, k < w.heap.size → k ≠ r → w'.heap[k]? = w.heap[k]?
theorem Only.refl (r : Nat) (w : World) : Only r w w := ⟨rfl, rfl, rfl, Nat.le_refl _, fun _ _ _ => rfl⟩
theorem Only.trans {r : Nat} {w w1 w2 : World} (a : Only r w w1) (b : Only r w1 w2) : Only r w w2 := ⟨b.os.trans a.os, b.tape.trans a.tape, b.output.trans a.output, Nat.le_trans a.size b.size, fun k h1 h2 => (b.block k (Nat.lt_of_lt_of_le h1 a.size) h2).trans (a.block k h1 h2)⟩
theorem Only.of_below {r : Nat} {w w' : World} (h : Below w.heap.size w w') : Only r w w' := ⟨h.os, h.tape, h.output, h.size, fun k h1 _ => h.block k h1⟩
theorem Only.below {r : Nat} {w w' : World} (h : Only r w w') {m : Nat} (hm : m ≤ w.heap.size) (hr : m ≤ r) : Below m w w' := ⟨h.os, h.tape, h.output, h.size, fun k hk => h.block k (by omega) (by omega)⟩
theorem Only.since {r : Nat} {B : Nat → Prop} {w w' : World} (h : Only r w w') (hB : ¬ B r) : Since B w w' := ⟨h.size, fun k h1 h2 => h.block k h2 (fun e => hB (by rw [← e]; exact h1))⟩
theorem IsB.since {B : Nat → Prop} {w w' : World} {sl : Value} {bs : List UInt8} (h : IsB B w sl bs) (s : Since B w w') : IsB B w' sl bs := by
  obtain ⟨ao, cap, h1, h2, h3, h5, h4⟩ := h
  refine ⟨ao, cap, h1, h2, h3, h5, fun hne => ?_⟩
  obtain ⟨g, o, e1, e2, e3, e4⟩ := h4 hne
  exact ⟨g, o, e1, e2, by have := s.size; omega, fun i b hi => by rw [World.cell?_of_block (w := w) (s.block g e2 e3)]; exact e4 i b hi⟩
theorem IsB.base {B B' : Nat → Prop} {w : World} {sl : Value} {bs : List UInt8} (h : IsB B w sl bs) (hb : ∀ k, B k → k < w.heap.size → B' k) : IsB B' w sl bs := by
  obtain ⟨ao, cap, h1, h2, h3, h5, h4⟩ := h
  refine ⟨ao, cap, h1, h2, h3, h5, fun hne => ?_⟩
  obtain ⟨g, o, e1, e2, e3, e4⟩ := h4 hne
  exact ⟨g, o, e1, hb g e2 e3, e3, e4⟩
theorem IsB.nil {B : Nat → Prop} {w : World} : IsB B w (.slice none 0 0) [] := ⟨none, 0, rfl, Nat.le_refl _, by omega, fun _ => rfl, fun h => absurd rfl h⟩
theorem IsB.take {B : Nat → Prop} {w : World} {ao : Option Addr} {n cap : Nat} {bs : List UInt8} (h : IsB B w (.slice ao n cap) bs) {k : Nat} (hk : k ≤ bs.length) : IsB B w (.slice ao k cap) (bs.take k) := by
  obtain ⟨ao', cap', h1, h2, h3, h5, h4⟩ := h
  simp only [Value.slice.injEq] at h1
  obtain ⟨rfl, _, rfl⟩ := h1
  have e : (bs.take k).length = k := by simp; omega
  refine ⟨ao, cap, by rw [e], by rw [e]; omega, h3, h5, fun hne => ?_⟩
  obtain ⟨g, o, e1, e2, e3, e4⟩ := h4 (by rintro rfl; exact hne (by simp))
  refine ⟨g, o, e1, e2, e3, fun i b hi => e4 i b ?_⟩
  rw [List.getElem?_take] at hi
  split at hi
  · exact hi
  · cases hi
theorem IsB.drop {B : Nat → Prop} {w : World} {ao : Option Addr} {n cap : Nat} {bs : List UInt8} (h : IsB B w (.slice ao n cap) bs) {k : Nat} (hk : k ≤ bs.length) : IsB B w (.slice (cutB ao k cap) (bs.length - k) (cap - k)) (bs.drop k) := by
  obtain ⟨ao', cap', h1, h2, h3, h5, h4⟩ := h
  simp only [Value.slice.injEq] at h1
  obtain ⟨rfl, _, rfl⟩ := h1
  have e : (bs.drop k).length = bs.length - k := by simp
  refine ⟨_, _, by rw [e], by rw [e]; omega, by omega, fun hn => ?_, fun hne => ?_⟩
  · have : ao = none := by
      unfold cutB at hn
      split at hn
      · exact hn
      · simpa using hn
    have := h5 this
    omega
  have hlt : k < bs.length := by
    rcases Nat.lt_or_ge k bs.length with h | h
    · exact h
    · exact absurd (List.drop_of_length_le h) hne
  obtain ⟨g, o, e1, e2, e3, e4⟩ := h4 (by rintro rfl; simp at hlt)
  refine ⟨g, o + k, ?_, e2, e3, fun i b hi => ?_⟩
  · unfold cutB
    rw [if_neg (by omega), e1]
    by_cases h0 : k = 0 <;> simp [Addr.add, h0]
  · rw [List.getElem?_drop] at hi
    rw [Nat.add_assoc]
    exact e4 _ b hi
theorem IsB.slice {B : Nat → Prop} {w : World} {sl : Value} {bs : List UInt8} (h : IsB B w sl bs) : ∃ ao cap, sl = .slice ao bs.length cap ∧ bs.length ≤ cap ∧ cap ≤ 9223372036854775807 := by
  obtain ⟨ao, cap, h1, h2, h3, _, _⟩ := h
  exact ⟨ao, cap, h1, h2, h3⟩
theorem set2_1 {w : World} {g : Nat} {y0 y1 : Value} {T : TypeId} (h : w.heap[g]? = some (.cells #[y0, y1] T (0, 0))) (x : Value) : (w.setCell ⟨g, 1, none⟩ x).heap[g]? = some (.cells #[y0, x] T (0, 0)) := by
  simp [World.setCell, Array.getElem?_modify, h]
theorem Only.setCell {r : Nat} {w w' : World} (h : Only r w w') {g : Nat} (hg : w.heap.size ≤ g) (o : Nat) (x : Value) : Only r w (w'.setCell ⟨g, o, none⟩ x) := ⟨h.os, h.tape, h.output, by simpa [World.setCell] using h.size, fun k h1 h2 => (Below.heap_setCell _ _ _ _ (by show k ≠ g; omega)).trans (h.block k h1 h2)⟩
end Go.Proofs.YtnijcolomoobnaaGreatDoor
namespace Go.Proofs.YtnijcolomoobnaaGreatDoor
open Go.RowKit
set_option linter.unusedVariables false
set_option linter.unusedSimpArgs false

def c8 (l : List UInt8) : List Value := l.map fun b => .int .u8 b.toNat
end Go.Proofs.YtnijcolomoobnaaGreatDoor
namespace Go.Proofs.YtnijcolomoobnaaGreatDoor
open Go.RowKit
set_option linter.unusedVariables false
set_option linter.unusedSimpArgs false

def IntsAt (w : World) (g : Nat) (xs : List Int) : Prop := g < w.heap.size ∧ ∀ q x, xs[q]? = some x → w.cell? ⟨g, q, none⟩ = some (.int .i64 x)
theorem IntsAt.below {w w' : World} {g : Nat} {xs : List Int} (h : IntsAt w g xs) (hb : Below w.heap.size w w') : IntsAt w' g xs := ⟨by have := hb.size; have := h.1; omega, fun q x hq => ((bcell hb).1 g q h.1).trans (h.2 q x hq)⟩
end Go.Proofs.YtnijcolomoobnaaGreatDoor
namespace Go.Proofs.YtnijcolomoobnaaGreatDoor
open Go.RowKit
set_option linter.unusedVariables false
set_option linter.unusedSimpArgs false
attribute [local go_sem ↓] Go.wp_at_zero Go.wp_at_succ

theorem app_run_at {T E : TypeId} {z : Value} {size bytes : Nat} (ht : Tryz.prog.underlying T = some (.slice E)) (hinfo : (Tryz.prog.info? E).map (fun i => (i.zero, i.size, i.bytes)) = some (some z, size, bytes)) (hzs : z.cells.size = size) (hsz : 0 < size) (ty : TypeId)
    {w : World} {base n m c : Nat} {v : Value} {xs news : List Value} {ad : Option Addr} (hown : w.ownsRow base E size v n xs) (hnil : ad = none → m = 0 ∧ c = 0) (hl : news.length = m * size) (hnews : ∀ b, ad = some b → ∀ j u, news[j]? = some u → w.cell? (b.add j) = some u) (h1 : ∀ u ∈ news, u.oneCell' = true)
    (hn : n + m ≤ 100000000) (hby : bytes ≤ 1000) (hbase : base ≤ w.heap.size) :
    ∃ ao cap w', (Builtin.append_ #[T, T] ty #[v, .slice ad m c]).run Tryz.prog w = .ok (.slice ao (n + m) cap) w' ∧ w'.ownsRow base E size (.slice ao (n + m) cap) (n + m) (xs ++ news) ∧ Below base w w' ∧ w.grownBy w' v.ownBlock ∧ (Value.ownBlock (.slice ao (n + m) cap) = v.ownBlock ∨ Value.ownBlock (.slice ao (n + m) cap) = some w.heap.size) := by
  obtain ⟨i, hi, hz, hs, hb⟩ := info_parts hinfo
  cases ad with
  | none =>
    obtain ⟨rfl, rfl⟩ := hnil rfl
    have hne : news = [] := List.length_eq_zero_iff.1 (by omega)
    subst hne
    obtain ⟨ao, cap, rfl, h2, h3⟩ := owns_slice hown
    exact ⟨ao, cap, w, run_append_owned_none (P := Tryz.prog) (w := w) base T ty E i size ht hi _ n xs hown, by simpa using hown, Below.refl _ _, grown_same _ _, Or.inl rfl⟩
  | some b =>
    have hmul : (n + m) * bytes ≤ 100000000 * 1000 := Nat.mul_le_mul hn hby
    obtain ⟨v', w', hr, ho, hg, _, hat⟩ := run_append_own_at (P := Tryz.prog) w base T ty E i z size bytes ht hi hz hs hb hzs hsz v n xs hown b m c news hl (hnews b rfl) h1 (by unfold maxLen; omega) (by omega) hbase
    obtain ⟨ao, cap, rfl, _, _⟩ := owns_slice ho
    exact ⟨ao, cap, w', hr, ho, (Below.refl _ _).grown hg hbase (fun k hk => (hown.lt k hk).1), hg, hat⟩
abbrev Own8 (w : World) (base : Nat) (ao : Option Addr) (cap : Nat) (bs : List UInt8) : Prop := w.ownsRow base 5 1 (.slice ao bs.length cap) bs.length (c8 bs)
def OutB (base : Nat) (w : World) (bs : List UInt8) (r : Ending) (w' : World) : Prop := (∃ ao cap, r = .returned (.slice ao bs.length cap) ∧ Own8 w' base ao cap bs) ∧ Below base w w'
end Go.Proofs.YtnijcolomoobnaaGreatDoor
namespace Go.Proofs.YtnijcolomoobnaaGreatDoor
open Go.RowKit
set_option linter.unusedVariables false
set_option linter.unusedSimpArgs false

theorem IsB.news {B : Nat → Prop} {w : World} {ao : Option Addr} {n cap : Nat} {bs : List UInt8} (h : IsB B w (.slice ao n cap) bs) : (ao = none → bs.length = 0 ∧ cap = 0) ∧ ∀ b, ao = some b → ∀ j u, (c8 bs)[j]? = some u → w.cell? (b.add j) = some u := by
  obtain ⟨ao', cap', h1, h2, h3, h5, h4⟩ := h
  simp only [Value.slice.injEq] at h1
  obtain ⟨rfl, -, rfl⟩ := h1
  refine ⟨fun hn => ⟨by have := h5 hn; omega, h5 hn⟩, fun b hb j u hu => ?_⟩
  unfold c8 at hu
  rw [List.getElem?_map] at hu
  obtain ⟨c, hc, rfl⟩ := Option.map_eq_some_iff.1 hu
  obtain ⟨g, o, e1, e2, e3, e4⟩ := h4 (by rintro rfl; simp at hc)
  rw [hb] at e1
  obtain rfl := Option.some.inj e1
  have := e4 j c hc
  by_cases h0 : j = 0
  · subst h0; simpa [Addr.add] using this
  · simpa [Addr.add, h0] using this
theorem IsB.len {B : Nat → Prop} {w : World} {ao : Option Addr} {n cap : Nat} {bs : List UInt8} (h : IsB B w (.slice ao n cap) bs) : n = bs.length := by
  obtain ⟨ao', cap', h1, -⟩ := h
  simp only [Value.slice.injEq] at h1
  exact h1.2.1
end Go.Proofs.YtnijcolomoobnaaGreatDoor
namespace Go.Proofs.YtnijcolomoobnaaGreatDoor
open Go.RowKit
set_option linter.unusedVariables false
set_option linter.unusedSimpArgs false

mutual
def OkV : V → Prop
  | .mk k n t l => InR n ∧ InR k ∧ t.length ≤ 9223372036854775807 ∧ l.length ≤ 9223372036854775807 ∧ OkVs l
def OkVs : List V → Prop
  | [] => True
  | v :: r => OkV v ∧ OkVs r
end
mutual
theorem okV_of {B : Nat → Prop} {w : World} : ∀ {v : V} {cs : List Value}, IsV B w v cs → OkV v
  | .mk k n t l, cs, h => by
    rw [IsV] at h
    obtain ⟨sl, row, _, h2, h3, h4, h5, h6⟩ := h
    obtain ⟨ao, cap, _, c1, c2⟩ := h5.slice
    unfold maxLen at h2 c2
    rw [OkV]; exact ⟨h4, h3, by omega, by omega, okVs_of h6⟩
theorem okVs_of {B : Nat → Prop} {w : World} : ∀ {l : List V} {row : List Value}, AllV B w l row → OkVs l
  | [], row, h => by rw [OkVs]; trivial
  | a :: r, row, h => by
    rw [AllV] at h
    obtain ⟨c1, c2, _, h1, h2⟩ := h
    rw [OkVs]; exact ⟨okV_of h1, okVs_of h2⟩
end
theorem IsW.ok {B : Nat → Prop} {w : World} {v : V} {sl : Value} (h : IsW B w v sl) : OkV v := okV_of (isV_iff.2 ⟨sl, rfl, h⟩)
theorem fit_wt {y : List UInt8} {v : V} (h : fitS y v = true) : wt v ≤ 16384 := by
  unfold fitS at h; simp at h; exact h.2
end Go.Proofs.YtnijcolomoobnaaGreatDoor
namespace Go.Proofs.YtnijcolomoobnaaGreatDoor
open Go.RowKit
set_option linter.unusedVariables false
set_option linter.unusedSimpArgs false

def Gv (P : Nat → Prop) (w : World) (sl : Value) (acc : List V) : Prop := ∃ row, w.ownsRow 0 31 4 sl acc.length row ∧ (∀ k, sl.ownBlock = some k → P k) ∧ AllV (fun k => P k ∧ sl.ownBlock ≠ some k) w acc row
theorem Gv.nil (P : Nat → Prop) (w : World) : Gv P w (.slice none 0 0) [] := ⟨[], ⟨rfl, Or.inl ⟨rfl, rfl⟩⟩, fun k h => by simp [Value.ownBlock] at h, by rw [AllV]⟩
theorem Gv.since {P : Nat → Prop} {w w' : World} {sl : Value} {acc : List V} (h : Gv P w sl acc) (s : Since P w w') : Gv P w' sl acc := by
  obtain ⟨row, h1, h0, h2⟩ := h
  refine ⟨row, ⟨h1.1, ?_⟩, h0, h2.since (s.mono (fun k hk => hk.1))⟩
  rcases h1.2 with h3 | ⟨g, cap, cur, h3, h4, h5, h6⟩
  · exact Or.inl h3
  · exact Or.inr ⟨g, cap, cur, h3, h4, by rw [s.block g (h0 g (by rw [h3]; rfl)) (Array.getElem?_eq_some_iff.1 h5).1]; exact h5, h6⟩
theorem Gv.below {P : Nat → Prop} {w w' : World} {sl : Value} {acc : List V} (h : Gv P w sl acc) (hb : Below w.heap.size w w') : Gv P w' sl acc := h.since (Since.of_below hb)
theorem Gv.slice {P : Nat → Prop} {w : World} {sl : Value} {acc : List V} (h : Gv P w sl acc) : ∃ ao cap, sl = .slice ao acc.length cap ∧ acc.length ≤ cap ∧ cap ≤ 9223372036854775807 := by
  obtain ⟨row, h1, _⟩ := h
  obtain ⟨ao, cap, e, a, b⟩ := owns_slice h1
  exact ⟨ao, cap, e, a, by unfold maxLen at b; omega⟩
theorem Gv.vs {P : Nat → Prop} {w : World} {sl : Value} {acc : List V} (h : Gv P w sl acc) : IsVs P w acc sl := by
  obtain ⟨row, h1, h0, h2⟩ := h
  refine ⟨row, ⟨h1.1, ?_⟩, h2.base (fun k hk _ => hk.1)⟩
  rcases h1.2 with ⟨h3, h4⟩ | ⟨g, cap, cur, h3, h4, h5, h6, h7, h8, h9⟩
  · exact Or.inl ⟨Or.inl h3, h4⟩
  · refine Or.inr ⟨g, 0, cap, h3, h6, h7, h0 g (by rw [h3]; rfl), (Array.getElem?_eq_some_iff.1 h5).1, fun j u hj => ?_⟩
    rw [cell_block h5, Nat.zero_add]
    rw [← h9, List.getElem?_take] at hj
    split at hj
    · simpa using hj
    · cases hj
theorem Gv.apart {P : Nat → Prop} {w : World} {sl : Value} {acc : List V} (h : Gv P w sl acc) {k : Nat} (hk : w.heap.size ≤ k) : sl.ownBlock ≠ some k := by
  obtain ⟨row, h1, _⟩ := h
  intro e
  have := (h1.lt k e).2
  omega
theorem Gv.base {P P' : Nat → Prop} {w : World} {sl : Value} {acc : List V} (h : Gv P w sl acc) (hb : ∀ k, P k → k < w.heap.size → P' k) : Gv P' w sl acc := by
  obtain ⟨row, h1, h0, h2⟩ := h
  exact ⟨row, h1, fun k hk => hb k (h0 k hk) (h1.lt k hk).2, h2.base (fun k hk hl => ⟨hb k hk.1 hl, hk.2⟩)⟩
theorem Gv.cells {P : Nat → Prop} {w : World} {ao : Option Addr} {cap n : Nat} {acc : List V} (h : Gv P w (.slice ao n cap) acc) {i : Nat} (hi : i < acc.length) : ∃ g y0 y1 y2 y3, ao = some ⟨g, 0, none⟩ ∧ P g ∧ g < w.heap.size ∧ w.cell? ⟨g, i * 4, none⟩ = some y0 ∧ w.cell? ⟨g, i * 4 + 1, none⟩ = some y1 ∧ w.cell? ⟨g, i * 4 + 2, none⟩ = some y2 ∧ w.cell? ⟨g, i * 4 + 3, none⟩ = some y3 ∧
    w.frozen? ⟨g, i * 4, none⟩ = false ∧ w.frozen? ⟨g, i * 4 + 1, none⟩ = false ∧ w.frozen? ⟨g, i * 4 + 2, none⟩ = false ∧ w.frozen? ⟨g, i * 4 + 3, none⟩ = false := by
  obtain ⟨row, h1, h0, h2⟩ := h
  rcases h1.2 with ⟨e, h0⟩ | ⟨g, cap', cur, e, hb, hg, hn, _, hs, ht⟩
  · omega
  · simp only [Value.slice.injEq] at e
    obtain ⟨rfl, _, rfl⟩ := e
    refine ⟨g, cur[i * 4]'(by omega), cur[i * 4 + 1]'(by omega), cur[i * 4 + 2]'(by omega), cur[i * 4 + 3]'(by omega), rfl, h0 g rfl, (Array.getElem?_eq_some_iff.1 hg).1, ?_, ?_, ?_, ?_, frozen_block hg _, frozen_block hg _, frozen_block hg _, frozen_block hg _⟩
    all_goals (rw [cell_block hg]; exact Array.getElem?_eq_getElem _)
theorem AllV.len_take {B : Nat → Prop} {w : World} {l : List V} {row : List Value} (h : AllV B w l row) {i : Nat} (hi : i ≤ l.length) : AllV B w (l.take i) (row.take (i * 4)) ∧ AllV B w (l.drop i) (row.drop (i * 4)) := by
  have hall := h
  rw [← List.take_append_drop i l] at hall
  obtain ⟨r1, r2, hr, k1, k2⟩ := AllV.split hall
  have hr1 := k1.len
  have e : (l.take i).length = i := by simp; omega
  rw [e] at hr1
  subst hr
  rw [List.take_left' hr1, List.drop_left' hr1]
  exact ⟨k1, k2⟩
theorem set4_list (cur : Array Value) (j : Nat) (x0 x1 x2 x3 : Value) (hj : j + 4 ≤ cur.size) : ((((cur.setIfInBounds j x0).setIfInBounds (j + 1) x1).setIfInBounds (j + 2) x2).setIfInBounds (j + 3) x3).toList = cur.toList.take j ++ [x0, x1, x2, x3] ++ cur.toList.drop (j + 4) := by
  apply List.ext_getElem?
  intro k
  simp only [Array.toList_setIfInBounds, List.append_assoc]
  by_cases hk : k < j
  · rw [List.getElem?_append_left (by simp; omega), List.getElem?_take, if_pos hk, List.getElem?_set_ne (by omega), List.getElem?_set_ne (by omega), List.getElem?_set_ne (by omega), List.getElem?_set_ne (by omega)]
  · have hl : (cur.toList.take j).length = j := by simp; omega
    rw [List.getElem?_append_right (by omega), hl]
    by_cases hk4 : k < j + 4
    · rw [List.getElem?_append_left (by simp; omega)]
      have hcases : k = j ∨ k = j + 1 ∨ k = j + 2 ∨ k = j + 3 := by omega
      rcases hcases with rfl | rfl | rfl | rfl
      · rw [List.getElem?_set_ne (by omega), List.getElem?_set_ne (by omega), List.getElem?_set_ne (by omega), List.getElem?_set_self (by simp; omega)]; simp
      · rw [List.getElem?_set_ne (by omega), List.getElem?_set_ne (by omega), List.getElem?_set_self (by simp; omega)]; simp
      · rw [List.getElem?_set_ne (by omega), List.getElem?_set_self (by simp; omega)]; simp
      · rw [List.getElem?_set_self (by simp; omega)]; simp
    · rw [List.getElem?_append_right (by simp; omega), List.getElem?_drop, List.getElem?_set_ne (by omega), List.getElem?_set_ne (by omega), List.getElem?_set_ne (by omega), List.getElem?_set_ne (by omega)]
      congr 1
      simp; omega
theorem take_mid (c X : List Value) (j n : Nat) (hX : X.length = 4) (h1 : j + 4 ≤ n) (h2 : n ≤ c.length) : (c.take j ++ X ++ c.drop (j + 4)).take n = (c.take n).take j ++ X ++ (c.take n).drop (j + 4) := by
  have hl : (c.take j ++ X).length = j + 4 := by simp; omega
  rw [List.take_append, hl, List.take_of_length_le (by omega), List.take_take, Nat.min_eq_left (by omega), List.drop_take]
theorem Gv.set {P : Nat → Prop} {w : World} {g cap n : Nat} {acc : List V} (h : Gv P w (.slice (some ⟨g, 0, none⟩) n cap) acc) {i : Nat} (hi : i < acc.length) {x : V} {x0 x1 x2 x3 : Value} (hx : IsV (fun k => P k ∧ k ≠ g) w x [x0, x1, x2, x3]) :
    Gv P (set4At w g (i * 4) x0 x1 x2 x3) (.slice (some ⟨g, 0, none⟩) n cap) (acc.take i ++ [x] ++ acc.drop (i + 1)) := by
  have hob : ∀ k, (Value.slice (some ⟨g, 0, none⟩) n cap).ownBlock ≠ some k → k ≠ g := fun k hk e => hk (by rw [e]; rfl)
  have hob' : ∀ k, k ≠ g → (Value.slice (some ⟨g, 0, none⟩) n cap).ownBlock ≠ some k := fun k hk e => hk (by simpa [Value.ownBlock] using e.symm)
  obtain ⟨row, h1, hP, h2⟩ := h
  have hs : Since (fun k => P k ∧ (Value.slice (some ⟨g, 0, none⟩) n cap).ownBlock ≠ some k) w (set4At w g (i * 4) x0 x1 x2 x3) := since_set4At (fun h => hob g h.2 rfl) _ _ _ _ _
  have hll : (acc.take i ++ [x] ++ acc.drop (i + 1)).length = acc.length := by simp; omega
  rcases h1.2 with ⟨e, h0⟩ | ⟨g', cap', cur, e, hb, hg, hn, hm, hsz, ht⟩
  · omega
  · simp only [Value.slice.injEq, Option.some.injEq, Addr.mk.injEq, and_true] at e
    obtain ⟨rfl, rfl, rfl⟩ := e
    have hle : acc.length * 4 ≤ cap * 4 := Nat.mul_le_mul_right _ hn
    have hlist := set4_list cur (i * 4) x0 x1 x2 x3 (by omega)
    have hrow : ((((cur.setIfInBounds (i * 4) x0).setIfInBounds (i * 4 + 1) x1).setIfInBounds (i * 4 + 2) x2).setIfInBounds (i * 4 + 3) x3).toList.take (acc.length * 4) = row.take (i * 4) ++ [x0, x1, x2, x3] ++ row.drop ((i + 1) * 4) := by
      rw [hlist, take_mid _ _ _ _ rfl (by omega) (by simp; omega), ht, show i * 4 + 4 = (i + 1) * 4 by omega]
    obtain ⟨a1, a2⟩ := h2.len_take (i := i) (by omega)
    obtain ⟨b1, b2⟩ := h2.len_take (i := i + 1) (by omega)
    refine ⟨row.take (i * 4) ++ [x0, x1, x2, x3] ++ row.drop ((i + 1) * 4), ⟨?_, Or.inr ⟨g, cap, _, by rw [hll], hb, setCell_block (setCell_block (setCell_block (setCell_block hg _ _) _ _) _ _) _ _, by omega, hm, by simp [hsz], by rw [hll]; exact hrow⟩⟩, hP, ((a1.since hs).append (AllV.one ((hx.base (fun k hk _ => ⟨hk.1, hob' k hk.2⟩)).since hs))).append (b2.since hs)⟩
    have := h1.1
    simp; omega
theorem Gv.push {P : Nat → Prop} {w : World} {sl : Value} {acc : List V} (h : Gv P w sl acc) {l2 : List V} {nrow : List Value} {ad : Addr} (hpos : 0 < l2.length) (hl : nrow.length = l2.length * 4) (hnews : ∀ (j : Nat) (u : Value), nrow[j]? = some u → w.cell? (ad.add j) = some u) (hall2 : AllV (fun k => P k ∧ sl.ownBlock ≠ some k) w l2 nrow) (hn : acc.length + l2.length ≤ 1000000) (hm : ∀ k, w.heap.size ≤ k → P k) (c : Nat) (ty : TypeId) :
    ∃ g cap w', (Builtin.append_ #[22, 22] ty #[sl, .slice (some ad) l2.length c]).run Tryz.prog w = .ok (.slice (some ⟨g, 0, none⟩) (acc.length + l2.length) cap) w' ∧ Gv P w' (.slice (some ⟨g, 0, none⟩) (acc.length + l2.length) cap) (acc ++ l2) ∧ (∀ m, m ≤ w.heap.size → (∀ k, P k → m ≤ k) → Below m w w') ∧ (∀ k, k < w.heap.size → sl.ownBlock ≠ some k → w'.heap[k]? = w.heap[k]?) ∧ w.heap.size ≤ w'.heap.size := by
  obtain ⟨row, hown, hP, hall⟩ := h
  obtain ⟨i, hi, hz, hs, hb⟩ := info_parts valInfo
  obtain ⟨g, cap, w', hr, ho, hg, hat, hlt⟩ := run_append_lies (P := Tryz.prog) w 22 ty 0 31 i _ 4 56 Tryz.underlying22 hi hz hs hb rfl (by decide) sl acc.length row hown ad l2.length c nrow hl hnews hall2.ones hpos (by unfold maxLen; omega) (by omega) (Nat.zero_le _) _ rfl
  have hne : ∀ k, P k ∧ sl.ownBlock ≠ some k → k < w.heap.size → k ≠ g := by
    intro k hk hl he
    subst he
    rcases hat with h | h
    · exact hk.2 h
    · omega
  have hlow : ∀ k, (P k ∧ sl.ownBlock ≠ some k) → k < w.heap.size → P k ∧ (Value.slice (some ⟨g, 0, none⟩) (acc.length + l2.length) cap).ownBlock ≠ some k ∧ (P k ∧ sl.ownBlock ≠ some k) := fun k h1 h2 => ⟨h1.1, fun e => hne k h1 h2 (by simpa [Value.ownBlock] using e.symm), h1⟩
  have hsince : Since (fun k => P k ∧ (Value.slice (some ⟨g, 0, none⟩) (acc.length + l2.length) cap).ownBlock ≠ some k ∧ (P k ∧ sl.ownBlock ≠ some k)) w w' := ⟨hg.size, fun k h1 h2 => hg.block k h2 (fun e => h1.2.2.2 e.symm)⟩
  refine ⟨g, cap, w', hr, ⟨row ++ nrow, by simpa using ho, ?_, ?_⟩, fun m hm1 hm2 => (Below.refl _ _).grown hg hm1 (fun k hk => hm2 k (hP k hk)), fun k h1 h2 => hg.block k h1 (fun e => h2 e.symm), hg.size⟩
  · intro k hk
    have hk' : g = k := by simpa [Value.ownBlock] using hk
    rw [← hk']
    rcases hat with h | h
    · exact hP g h
    · exact hm g (by omega)
  · exact (((hall.base hlow).since hsince).append ((hall2.base hlow).since hsince)).base (fun k h _ => ⟨h.1, h.2.1⟩)
end Go.Proofs.YtnijcolomoobnaaGreatDoor
namespace Go.Proofs.YtnijcolomoobnaaGreatDoor
open Go.RowKit
set_option linter.unusedVariables false
set_option linter.unusedSimpArgs false

def Wf (P : Nat → Prop) : Nat → World → Value → Prop
  | 0, _, sl => ∃ ao cap, sl = .slice ao 0 cap ∧ cap ≤ maxLen
  | n + 1, w, sl => (∃ ao cap, sl = .slice ao 0 cap ∧ cap ≤ maxLen) ∨ ∃ g len cap arr, sl = .slice (some ⟨g, 0, none⟩) len cap ∧ len ≤ cap ∧ (len ≤ 1000000 ∧ cap ≤ maxLen) ∧ P g ∧ w.heap[g]? = some (.cells arr 31 (0, 0)) ∧ len * 4 ≤ arr.size ∧
      ∀ i, i < len → ∃ a b s c, arr[i * 4]? = some (.int .i64 a) ∧ arr[i * 4 + 1]? = some (.int .i64 b) ∧ arr[i * 4 + 2]? = some (.string s) ∧ arr[i * 4 + 3]? = some c ∧ Wf P n w c
theorem Wf.nil {P : Nat → Prop} {n : Nat} {w : World} {ao : Option Addr} {cap : Nat} (h : cap ≤ maxLen) : Wf P n w (.slice ao 0 cap) := by
  cases n with
  | zero => exact ⟨ao, cap, rfl, h⟩
  | succ n => exact Or.inl ⟨ao, cap, rfl, h⟩
theorem Wf.since {P : Nat → Prop} {w w' : World} (s : Since P w w') : ∀ {n : Nat} {sl : Value}, Wf P n w sl → Wf P n w' sl
  | 0, sl, h => h
  | n + 1, sl, h => by
    rcases h with h | ⟨g, len, cap, arr, h1, h2, h3, h4, h5, h6, h7⟩
    · exact Or.inl h
    · refine Or.inr ⟨g, len, cap, arr, h1, h2, h3, h4, by rw [s.block g h4 (Array.getElem?_eq_some_iff.1 h5).1]; exact h5, h6, fun i hi => ?_⟩
      obtain ⟨a, b, s', c, e1, e2, e3, e4, e5⟩ := h7 i hi
      exact ⟨a, b, s', c, e1, e2, e3, e4, Wf.since s e5⟩
theorem Wf.below {P : Nat → Prop} {w w' : World} {n : Nat} {sl : Value} (h : Wf P n w sl) (s : Below w.heap.size w w') : Wf P n w' sl := h.since (Since.of_below s)
theorem Wf.base {P P' : Nat → Prop} {w : World} (hb : ∀ k, P k → k < w.heap.size → P' k) : ∀ {n : Nat} {sl : Value}, Wf P n w sl → Wf P' n w sl
  | 0, sl, h => h
  | n + 1, sl, h => by
    rcases h with h | ⟨g, len, cap, arr, h1, h2, h3, h4, h5, h6, h7⟩
    · exact Or.inl h
    · refine Or.inr ⟨g, len, cap, arr, h1, h2, h3, hb g h4 (Array.getElem?_eq_some_iff.1 h5).1, h5, h6, fun i hi => ?_⟩
      obtain ⟨a, b, s', c, e1, e2, e3, e4, e5⟩ := h7 i hi
      exact ⟨a, b, s', c, e1, e2, e3, e4, Wf.base hb e5⟩
theorem Wf.over {P : Nat → Prop} {w : World} {g j : Nat} {arr0 : Array Value} (hblk : w.heap[g]? = some (.cells arr0 31 (0, 0))) (hj : j * 4 + 4 ≤ arr0.size) {a b : Int} {s : ByteArray} {cap0 : Nat} (hc0 : cap0 ≤ maxLen) {ao0 : Option Addr} : ∀ {n : Nat} {sl : Value}, Wf P n w sl → Wf P n (set4At w g (j * 4) (.int .i64 a) (.int .i64 b) (.string s) (.slice ao0 0 cap0)) sl
  | 0, sl, h => h
  | n + 1, sl, h => by
    rcases h with h | ⟨g', len, cap, arr, h1, h2, h3, h4, h5, h6, h7⟩
    · exact Or.inl h
    · by_cases hg : g' = g
      · subst hg
        rw [hblk] at h5
        simp only [Option.some.injEq, Obj.cells.injEq, and_true] at h5
        subst h5
        refine Or.inr ⟨g', len, cap, _, h1, h2, h3, h4, setCell_block (setCell_block (setCell_block (setCell_block hblk _ _) _ _) _ _) _ _, by simpa using h6, fun i hi => ?_⟩
        obtain ⟨a', b', s', c, e1, e2, e3, e4, e5⟩ := h7 i hi
        by_cases hij : i = j
        · subst hij
          refine ⟨a, b, s, .slice ao0 0 cap0, ?_, ?_, ?_, ?_, Wf.nil hc0⟩
          all_goals simp only [Array.getElem?_setIfInBounds, Array.size_setIfInBounds]
          · rw [if_neg (by omega), if_neg (by omega), if_neg (by omega), if_pos trivial, if_pos (by omega)]
          · rw [if_neg (by omega), if_neg (by omega), if_pos trivial, if_pos (by omega)]
          · rw [if_neg (by omega), if_pos trivial, if_pos (by omega)]
          · rw [if_pos trivial, if_pos (by omega)]
        · refine ⟨a', b', s', c, ?_, ?_, ?_, ?_, Wf.over hblk hj hc0 e5⟩
          all_goals (simp only [Array.getElem?_setIfInBounds, Array.size_setIfInBounds]; rw [if_neg (by omega), if_neg (by omega), if_neg (by omega), if_neg (by omega)]; assumption)
      · refine Or.inr ⟨g', len, cap, arr, h1, h2, h3, h4, by rw [set4At_other hg]; exact h5, h6, fun i hi => ?_⟩
        obtain ⟨a', b', s', c, e1, e2, e3, e4, e5⟩ := h7 i hi
        exact ⟨a', b', s', c, e1, e2, e3, e4, Wf.over hblk hj hc0 e5⟩
def FillW (P : Nat → Prop) (N : Nat) (w : World) (G n q : Nat) : Prop := ∃ arr : Array Value, w.heap[G]? = some (.cells arr 31 (0, 0)) ∧ arr.size = n * 4 ∧ q ≤ n ∧
  ∀ i, i < q → ∃ a b s c, arr[i * 4]? = some (.int .i64 a) ∧ arr[i * 4 + 1]? = some (.int .i64 b) ∧ arr[i * 4 + 2]? = some (.string s) ∧ arr[i * 4 + 3]? = some c ∧ Wf P N w c
theorem FillW.new {P : Nat → Prop} {N : Nat} {w : World} {arr : Array Value} {n : Nat} (h : arr.size = n * 4) : FillW P N (w.alloc (.cells arr 31)) w.heap.size n 0 :=
  ⟨arr, heap_new _ _, h, Nat.zero_le _, fun i hi => by omega⟩
theorem FillW.since {P : Nat → Prop} {N : Nat} {w w' : World} {G n q : Nat} (h : FillW P N w G n q) (s : Since P w w') (hG : w'.heap[G]? = w.heap[G]?) : FillW P N w' G n q := by
  obtain ⟨arr, h1, h2, h3, h4⟩ := h
  refine ⟨arr, by rw [hG]; exact h1, h2, h3, fun i hi => ?_⟩
  obtain ⟨a, b, s', c, e1, e2, e3, e4, e5⟩ := h4 i hi
  exact ⟨a, b, s', c, e1, e2, e3, e4, e5.since s⟩
theorem FillW.below {P : Nat → Prop} {N : Nat} {w w' : World} {G n q : Nat} (h : FillW P N w G n q) (s : Below w.heap.size w w') : FillW P N w' G n q := h.since (Since.of_below s) (by
  obtain ⟨arr, h1, _⟩ := h
  exact s.block G (Array.getElem?_eq_some_iff.1 h1).1)
theorem FillW.step {P : Nat → Prop} {N : Nat} {w : World} {G n q : Nat} (h : FillW P N w G n q) (hB : ¬ P G) (hq : q < n) {a b : Int} {s : ByteArray} {c : Value} (hc : Wf P N w c) : FillW P N (set4At w G (q * 4) (.int .i64 a) (.int .i64 b) (.string s) c) G n (q + 1) := by
  have hs : Since P w (set4At w G (q * 4) (.int .i64 a) (.int .i64 b) (.string s) c) := since_set4At hB _ _ _ _ _
  obtain ⟨arr, h1, h2, h3, h4⟩ := h
  refine ⟨_, setCell_block (setCell_block (setCell_block (setCell_block h1 _ _) _ _) _ _) _ _, by simp [h2], by omega, fun i hi => ?_⟩
  by_cases hiq : i = q
  · subst hiq
    refine ⟨a, b, s, c, ?_, ?_, ?_, ?_, hc.since hs⟩
    all_goals simp only [Array.getElem?_setIfInBounds, Array.size_setIfInBounds]
    · rw [if_neg (by omega), if_neg (by omega), if_neg (by omega), if_pos trivial, if_pos (by omega)]
    · rw [if_neg (by omega), if_neg (by omega), if_pos trivial, if_pos (by omega)]
    · rw [if_neg (by omega), if_pos trivial, if_pos (by omega)]
    · rw [if_pos trivial, if_pos (by omega)]
  · obtain ⟨a', b', s', c', e1, e2, e3, e4, e5⟩ := h4 i (by omega)
    refine ⟨a', b', s', c', ?_, ?_, ?_, ?_, e5.since hs⟩
    all_goals (simp only [Array.getElem?_setIfInBounds, Array.size_setIfInBounds]; rw [if_neg (by omega), if_neg (by omega), if_neg (by omega), if_neg (by omega)]; assumption)
theorem FillW.done {P P' : Nat → Prop} {N : Nat} {w : World} {G n : Nat} (h : FillW P N w G n n) (hn : n ≤ 1000000) (hb : ∀ k, P k → k < w.heap.size → P' k) (hG : P' G) : Wf P' (N + 1) w (.slice (some ⟨G, 0, none⟩) n n) := by
  obtain ⟨arr, h1, h2, h3, h4⟩ := h
  refine Or.inr ⟨G, n, n, arr, rfl, Nat.le_refl _, ⟨hn, by unfold maxLen; omega⟩, hG, h1, by omega, fun i hi => ?_⟩
  obtain ⟨a, b, s, c, e1, e2, e3, e4, e5⟩ := h4 i hi
  exact ⟨a, b, s, c, e1, e2, e3, e4, e5.base hb⟩
end Go.Proofs.YtnijcolomoobnaaGreatDoor
