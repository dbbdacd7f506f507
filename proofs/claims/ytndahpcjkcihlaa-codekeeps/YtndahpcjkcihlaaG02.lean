/- Texts of ours, joined: Vg, Vo, Vpk. -/
import Derived.Test.YtndahpcjkcihlaaG01
import Derived.Laws.AppendOwn
import Derived.Laws.OwnMore
import Derived.Lib.AppendZeros
import Derived.Deep.LoopGhost
/- A row of values that is filled, place by place. -/
namespace Go.Proofs.Ytndahpcjkcihlaa
open Go.RowKit
set_option linter.unusedVariables false
set_option linter.unusedSimpArgs false

theorem setCell_block {w : World} {G : Nat} {arr : Array Value} {T : TypeId} (h : w.heap[G]? = some (.cells arr T (0, 0))) (i : Nat) (x : Value) : (w.setCell ⟨G, i, none⟩ x).heap[G]? = some (.cells (arr.setIfInBounds i x) T (0, 0)) := by
  simp [World.setCell, Array.getElem?_modify, h]
theorem cell_block {w : World} {G : Nat} {arr : Array Value} {T : TypeId} (h : w.heap[G]? = some (.cells arr T (0, 0))) (i : Nat) : w.cell? ⟨G, i, none⟩ = arr[i]? := by
  simp [World.cell?, h]
theorem frozen_block {w : World} {G : Nat} {arr : Array Value} {T : TypeId} (h : w.heap[G]? = some (.cells arr T (0, 0))) (i : Nat) : w.frozen? ⟨G, i, none⟩ = false := by
  simp [World.frozen?, h]
abbrev set4At (w : World) (g i : Nat) (x0 x1 x2 x3 : Value) : World := (((w.setCell ⟨g, i, none⟩ x0).setCell ⟨g, i + 1, none⟩ x1).setCell ⟨g, i + 2, none⟩ x2).setCell ⟨g, i + 3, none⟩ x3
theorem below_set4At {n : Nat} {w w' : World} (h : Below n w w') {g : Nat} (hg : n ≤ g) (i : Nat) (x0 x1 x2 x3 : Value) : Below n w (set4At w' g i x0 x1 x2 x3) := ((((h.setCell (p := ⟨g, i, none⟩) hg x0).setCell (p := ⟨g, i + 1, none⟩) hg x1).setCell (p := ⟨g, i + 2, none⟩) hg x2).setCell (p := ⟨g, i + 3, none⟩) hg x3)
theorem set4At_other {w : World} {g k : Nat} (hk : k ≠ g) (i : Nat) (x0 x1 x2 x3 : Value) : (set4At w g i x0 x1 x2 x3).heap[k]? = w.heap[k]? := by
  simp only [set4At]
  rw [Below.heap_setCell _ _ _ _ hk, Below.heap_setCell _ _ _ _ hk, Below.heap_setCell _ _ _ _ hk, Below.heap_setCell _ _ _ _ hk]
theorem set4At_size (w : World) (g i : Nat) (x0 x1 x2 x3 : Value) : (set4At w g i x0 x1 x2 x3).heap.size = w.heap.size := by simp [set4At, World.setCell]
theorem since_set4At {w : World} {g : Nat} {B : Nat → Prop} (hg : ¬ B g) (i : Nat) (x0 x1 x2 x3 : Value) : Since B w (set4At w g i x0 x1 x2 x3) := ⟨by rw [set4At_size]; exact Nat.le_refl _, fun k h1 _ => set4At_other (fun e => hg (by rw [← e]; exact h1)) i x0 x1 x2 x3⟩
theorem set4_blk {w : World} {g : Nat} {y0 y1 y2 y3 : Value} {T : TypeId} (h : w.heap[g]? = some (.cells #[y0, y1, y2, y3] T (0, 0))) (x0 x1 x2 x3 : Value) : (set4 w g x0 x1 x2 x3).heap[g]? = some (.cells #[x0, x1, x2, x3] T (0, 0)) := by
  simp [set4, World.setCell, Array.getElem?_modify, h]
theorem rbox_blk {w w0 w3 : World} {o : Obj} (hW : w.alloc o = w0) (hb : Below w0.heap.size w0 w3) : w3.heap[w.heap.size]? = some o := by
  subst hW
  rw [hb.block _ (by simp)]
  exact heap_new w o
theorem set_3 {w : World} {g : Nat} {y0 y1 y2 y3 : Value} {T : TypeId} (h : w.heap[g]? = some (.cells #[y0, y1, y2, y3] T (0, 0))) (x : Value) : (w.setCell ⟨g, 3, none⟩ x).heap[g]? = some (.cells #[y0, y1, y2, x] T (0, 0)) := by
  simp [World.setCell, Array.getElem?_modify, h]
theorem set4At_cell {w : World} {g b o i : Nat} {x0 x1 x2 x3 : Value} (h : b ≠ g) : (set4At w g i x0 x1 x2 x3).cell? ⟨b, o, none⟩ = w.cell? ⟨b, o, none⟩ := World.cell?_of_block (set4At_other h i x0 x1 x2 x3)
/-- Block G is a row for n values, the first of which are l, whose parts lie in blocks of B. -/
def Fill (B : Nat → Prop) (w : World) (G n : Nat) (l : List V) : Prop := ∃ arr : Array Value, w.heap[G]? = some (.cells arr 29 (0, 0)) ∧ arr.size = n * 4 ∧ l.length ≤ n ∧ AllV B w l (arr.toList.take (l.length * 4))
theorem Fill.lt {B : Nat → Prop} {w : World} {G n : Nat} {l : List V} (h : Fill B w G n l) : G < w.heap.size := by
  obtain ⟨arr, h1, _⟩ := h
  exact (Array.getElem?_eq_some_iff.1 h1).1
theorem Fill.new {B : Nat → Prop} {w : World} {arr : Array Value} {n : Nat} (h : arr.size = n * 4) : Fill B (w.alloc (.cells arr 29)) w.heap.size n [] :=
  ⟨arr, heap_new _ _, h, Nat.zero_le _, by simp [AllV]⟩
theorem Fill.since {B : Nat → Prop} {w w' : World} {G n : Nat} {l : List V} (h : Fill B w G n l) (s : Since B w w') (hG : w'.heap[G]? = w.heap[G]?) : Fill B w' G n l := by
  obtain ⟨arr, h1, h2, h3, h4⟩ := h
  exact ⟨arr, by rw [hG]; exact h1, h2, h3, h4.since s⟩
theorem Fill.below {B : Nat → Prop} {w w' : World} {G n : Nat} {l : List V} (h : Fill B w G n l) (s : Below w.heap.size w w') : Fill B w' G n l := h.since (Since.of_below s) (s.block G h.lt)
/-- The place that is filled next. -/
theorem Fill.cells {B : Nat → Prop} {w : World} {G n : Nat} {l : List V} (h : Fill B w G n l) {q : Nat} (hq : q < n) : ∃ y0 y1 y2 y3, w.cell? ⟨G, q * 4, none⟩ = some y0 ∧ w.cell? ⟨G, q * 4 + 1, none⟩ = some y1 ∧ w.cell? ⟨G, q * 4 + 2, none⟩ = some y2 ∧ w.cell? ⟨G, q * 4 + 3, none⟩ = some y3 ∧
    w.frozen? ⟨G, q * 4, none⟩ = false ∧ w.frozen? ⟨G, q * 4 + 1, none⟩ = false ∧ w.frozen? ⟨G, q * 4 + 2, none⟩ = false ∧ w.frozen? ⟨G, q * 4 + 3, none⟩ = false := by
  obtain ⟨arr, h1, h2, h3, h4⟩ := h
  refine ⟨arr[q * 4]'(by omega), arr[q * 4 + 1]'(by omega), arr[q * 4 + 2]'(by omega), arr[q * 4 + 3]'(by omega), ?_, ?_, ?_, ?_, frozen_block h1 _, frozen_block h1 _, frozen_block h1 _, frozen_block h1 _⟩
  all_goals (rw [cell_block h1]; exact Array.getElem?_eq_getElem _)
theorem Fill.step {B : Nat → Prop} {w : World} {G n : Nat} {l : List V} (h : Fill B w G n l) (hB : ¬ B G) (hq : l.length < n) {x : V} {x0 x1 x2 x3 : Value} (hx : IsV B w x [x0, x1, x2, x3]) : Fill B (set4At w G (l.length * 4) x0 x1 x2 x3) G n (l ++ [x]) := by
  have hs : Since B w (set4At w G (l.length * 4) x0 x1 x2 x3) := since_set4At hB _ _ _ _ _
  obtain ⟨arr, h1, h2, h3, h4⟩ := h
  refine ⟨_, setCell_block (setCell_block (setCell_block (setCell_block h1 _ _) _ _) _ _) _ _, by simp [h2], by simp; omega, ?_⟩
  have hl := h4.len
  have e : (((((arr.setIfInBounds (l.length * 4) x0).setIfInBounds (l.length * 4 + 1) x1).setIfInBounds (l.length * 4 + 2) x2).setIfInBounds (l.length * 4 + 3) x3).toList.take ((l ++ [x]).length * 4)) = arr.toList.take (l.length * 4) ++ [x0, x1, x2, x3] := by
    apply List.ext_getElem?
    intro j
    have hlen : (l ++ [x]).length * 4 = l.length * 4 + 4 := by simp; omega
    rw [hlen, List.getElem?_take]
    by_cases hj : j < l.length * 4
    · rw [if_pos (by omega), List.getElem?_append_left (by simp; omega), List.getElem?_take, if_pos hj]
      simp only [Array.toList_setIfInBounds]
      rw [List.getElem?_set_ne (by omega), List.getElem?_set_ne (by omega), List.getElem?_set_ne (by omega), List.getElem?_set_ne (by omega)]
    · by_cases hj4 : j < l.length * 4 + 4
      · rw [if_pos hj4, List.getElem?_append_right (by simp; omega)]
        have hl2 : (arr.toList.take (l.length * 4)).length = l.length * 4 := by simp; omega
        rw [hl2]
        simp only [Array.toList_setIfInBounds]
        have hcases : j = l.length * 4 ∨ j = l.length * 4 + 1 ∨ j = l.length * 4 + 2 ∨ j = l.length * 4 + 3 := by omega
        rcases hcases with rfl | rfl | rfl | rfl
        · rw [List.getElem?_set_ne (by omega), List.getElem?_set_ne (by omega), List.getElem?_set_ne (by omega), List.getElem?_set_self (by simp; omega)]; simp
        · rw [List.getElem?_set_ne (by omega), List.getElem?_set_ne (by omega), List.getElem?_set_self (by simp; omega)]; simp
        · rw [List.getElem?_set_ne (by omega), List.getElem?_set_self (by simp; omega)]; simp
        · rw [List.getElem?_set_self (by simp; omega)]; simp
      · rw [if_neg hj4, List.getElem?_eq_none (by simp; omega)]
  rw [e]
  exact (h4.since hs).append (AllV.one (hx.since hs))
/-- All are there. -/
theorem Fill.done {B B' : Nat → Prop} {w : World} {G n : Nat} {l : List V} (h : Fill B w G n l) (hn : l.length = n) (hb : ∀ k, B k → k < w.heap.size → B' k) (hG : B' G) (hm : n ≤ maxLen) : IsVs B' w l (.slice (some ⟨G, 0, none⟩) l.length n) := by
  have hlt := h.lt
  obtain ⟨arr, h1, h2, h3, h4⟩ := h
  refine ⟨arr.toList.take (l.length * 4), ⟨h4.len, Or.inr ⟨G, 0, n, rfl, by omega, hm, hG, hlt, fun j u hj => ?_⟩⟩, h4.base hb⟩
  rw [cell_block h1, Nat.zero_add]
  rw [List.getElem?_take] at hj
  split at hj
  · simpa using hj
  · cases hj
end Go.Proofs.Ytndahpcjkcihlaa
/- Appending to a row of one's own. -/
namespace Go.Proofs.Ytndahpcjkcihlaa
open Go.RowKit
set_option linter.unusedVariables false
set_option linter.unusedSimpArgs false

theorem info_parts {T : TypeId} {z : Value} {size bytes : Nat} (h : (Try.prog.info? T).map (fun i => (i.zero, i.size, i.bytes)) = some (some z, size, bytes)) : ∃ i, Try.prog.info? T = some i ∧ i.zero = some z ∧ i.size = size ∧ i.bytes = bytes := by
  rcases hi : Try.prog.info? T with _ | i
  · rw [hi] at h; cases h
  · rw [hi] at h
    simp only [Option.map_some, Option.some.injEq, Prod.mk.injEq] at h
    exact ⟨i, rfl, h.1, h.2.1, h.2.2⟩
theorem valInfo : (Try.prog.info? 29).map (fun i => (i.zero, i.size, i.bytes)) = some (some (.agg #[.int .i64 0, .int .i64 0, .string ⟨#[]⟩, .slice none 0 0]), 4, 56) := by kernel_rfl
theorem byteInfo : (Try.prog.info? 5).map (fun i => (i.zero, i.size, i.bytes)) = some (some (.int .u8 0), 1, 1) := by kernel_rfl
theorem grown_same (w : World) (row : Option Nat) : w.grownBy w row := ⟨rfl, rfl, rfl, Nat.le_refl _, fun _ _ _ => rfl⟩
theorem owns_slice {w : World} {base e size n : Nat} {v : Value} {xs : List Value} (h : w.ownsRow base e size v n xs) : ∃ ao cap, v = .slice ao n cap ∧ n ≤ cap ∧ cap ≤ maxLen := by
  rcases h.2 with ⟨h1, h0⟩ | ⟨g, cap, cur, h1, h2, h3, h4, h5, _⟩
  · exact ⟨none, 0, by rw [h1, h0], by omega, by unfold maxLen; omega⟩
  · exact ⟨_, cap, h1, h4, h5⟩
theorem owns_base {w : World} {base base' e size n : Nat} {v : Value} {xs : List Value} (h : w.ownsRow base e size v n xs) (hb : base' ≤ base) : w.ownsRow base' e size v n xs := by
  refine ⟨h.1, ?_⟩
  rcases h.2 with h1 | ⟨g, cap, cur, h1, h2, h3⟩
  · exact Or.inl h1
  · exact Or.inr ⟨g, cap, cur, h1, by omega, h3⟩
/-- What lies from its block on is as it was. -/
theorem owns_below {w w' : World} {base e size n : Nat} {v : Value} {xs : List Value} (h : w.ownsRow base e size v n xs) (hb : Below w.heap.size w w') : w'.ownsRow base e size v n xs := by
  refine ⟨h.1, ?_⟩
  rcases h.2 with h1 | ⟨g, cap, cur, h1, h2, h3, h4⟩
  · exact Or.inl h1
  · exact Or.inr ⟨g, cap, cur, h1, h2, by rw [hb.block g (Array.getElem?_eq_some_iff.1 h3).1]; exact h3, h4⟩
/-- All of a slice, nil or not, behind what one owns. -/
theorem app_run {T E : TypeId} {z : Value} {size bytes : Nat} (ht : Try.prog.underlying T = some (.slice E)) (hinfo : (Try.prog.info? E).map (fun i => (i.zero, i.size, i.bytes)) = some (some z, size, bytes)) (hzs : z.cells.size = size) (hsz : 0 < size) (ty : TypeId)
    {w : World} {base n m c : Nat} {v : Value} {xs news : List Value} {ad : Option Addr} (hown : w.ownsRow base E size v n xs) (hnil : ad = none → m = 0 ∧ c = 0) (hl : news.length = m * size) (hnews : ∀ b, ad = some b → ∀ j u, news[j]? = some u → w.cell? (b.add j) = some u) (h1 : ∀ u ∈ news, u.oneCell' = true)
    (hn : n + m ≤ 100000000) (hby : bytes ≤ 1000) (hbase : base ≤ w.heap.size) :
    ∃ ao cap w', (Builtin.append_ #[T, T] ty #[v, .slice ad m c]).run Try.prog w = .ok (.slice ao (n + m) cap) w' ∧ w'.ownsRow base E size (.slice ao (n + m) cap) (n + m) (xs ++ news) ∧ Below base w w' ∧ w.grownBy w' v.ownBlock := by
  obtain ⟨i, hi, hz, hs, hb⟩ := info_parts hinfo
  cases ad with
  | none =>
    obtain ⟨rfl, rfl⟩ := hnil rfl
    have hne : news = [] := List.length_eq_zero_iff.1 (by omega)
    subst hne
    obtain ⟨ao, cap, rfl, h2, h3⟩ := owns_slice hown
    refine ⟨ao, cap, w, ?_, by simpa using hown, Below.refl _ _, grown_same _ _⟩
    exact run_append_owned_none (P := Try.prog) (w := w) base T ty E i size ht hi _ n xs hown
  | some b =>
    have hmul : (n + m) * bytes ≤ 100000000 * 1000 := Nat.mul_le_mul hn hby
    obtain ⟨v', w', hr, ho, hg, _⟩ := run_append_own (P := Try.prog) w base T ty E i z size bytes ht hi hz hs hb hzs hsz v n xs hown b m c news hl (hnews b rfl) h1 (by unfold maxLen; omega) (by omega) hbase
    obtain ⟨ao, cap, rfl, _, _⟩ := owns_slice ho
    exact ⟨ao, cap, w', hr, ho, (Below.refl _ _).grown hg hbase (fun k hk => (hown.lt k hk).1), hg⟩
end Go.Proofs.Ytndahpcjkcihlaa
/- Numbers as bytes: the program's. -/
namespace Go.Proofs.Ytndahpcjkcihlaa
open Go.RowKit
set_option linter.unusedVariables false
set_option linter.unusedSimpArgs false

/-- Bytes' cells. -/
def c8 (l : List UInt8) : List Value := l.map fun b => .int .u8 b.toNat
theorem c8_len (l : List UInt8) : (c8 l).length = l.length := by simp [c8]
theorem c8_append (a b : List UInt8) : c8 (a ++ b) = c8 a ++ c8 b := by simp [c8]
theorem c8_one (l : List UInt8) : ∀ u ∈ c8 l, u.oneCell' = true := by
  intro u hu
  obtain ⟨b, _, rfl⟩ := List.mem_map.1 hu
  rfl
/-- One byte behind what one owns. -/
theorem app8 {w : World} {base n : Nat} {v : Value} {bs : List UInt8} {b : UInt8} (hown : w.ownsRow base 5 1 v n (c8 bs)) (hn : n ≤ 1000000) (hbase : base ≤ w.heap.size) :
    ∃ ao cap w', (Builtin.append_ #[34, 34] 34 #[v, .slice (some ⟨w.heap.size, 0, none⟩) 1 1]).run Try.prog (w.alloc (.cells #[.int .u8 b.toNat] 5)) = .ok (.slice ao (n + 1) cap) w' ∧ w'.ownsRow base 5 1 (.slice ao (n + 1) cap) (n + 1) (c8 (bs ++ [b])) ∧ Below base w w' := by
  have hba : Below w.heap.size w (w.alloc (.cells #[.int .u8 b.toNat] 5)) := (Below.refl _ _).alloc (Nat.le_refl _) _
  obtain ⟨ao, cap, w', hr, ho, hb, _⟩ := app_run (news := c8 [b]) Try.underlying34 byteInfo rfl (by decide) 34 (m := 1) (c := 1) (ad := some ⟨w.heap.size, 0, none⟩) (owns_below hown hba) (by simp) (by simp [c8]) (by
    intro b' hb' j u hu
    cases hb'
    have hj := (List.getElem?_eq_some_iff.1 hu).1
    simp [c8] at hj
    subst hj
    simp [c8] at hu
    subst hu
    have hc := cell_of_one (heap_new w (.cells #[.int .u8 b.toNat] 5))
    rw [show (⟨w.heap.size, 0, none⟩ : Addr).add 0 = ⟨w.heap.size, 0, none⟩ from by simp [Addr.add]]
    exact hc) (c8_one _) (by omega) (by decide) (by have := hba.size; omega)
  rw [← c8_append] at ho
  exact ⟨ao, cap, w', hr, ho, (hba.mono hbase).trans hb⟩
set_option maxRecDepth 100000 in
set_option maxHeartbeats 1000000 in
theorem putOne_any {base n x : Nat} {bs : List UInt8} {ao : Option Addr} {cap : Nat} {w : World} (hown : w.ownsRow base 5 1 (.slice ao n cap) n (c8 bs)) (hn : n ≤ 900000) (hx : x ≤ 9223372036854775807) (hbase : base ≤ w.heap.size) :
    Calls Try.prog 45 #[.slice ao n cap, .int .i64 x] w fun r w' => (∃ ao' cap', r = .returned (.slice ao' (n + (num x).length) cap') ∧ w'.ownsRow base 5 1 (.slice ao' (n + (num x).length) cap') (n + (num x).length) (c8 (bs ++ num x))) ∧ Below base w w' := by
  have hlen := num_len10 hx
  go_enter Try.func45, Try.ntmps45
  go_wp2_with fail
  go_loopg [0, 1] x (fun g s i wr => ∃ (pre : List UInt8) (z : Nat) (ao : Option Addr) (cap : Nat), z = g ∧ z ≤ 9223372036854775807 ∧ Hid (num x = pre ++ num z) ∧ pre.length ≤ 8 ∧ s = .slice ao (n + pre.length) cap ∧ i = .int .i64 z ∧ Hid (wr.ownsRow base 5 1 (.slice ao (n + pre.length) cap) (n + pre.length) (c8 (bs ++ pre))) ∧ Below base w wr)
  case atStart => exact ⟨[], x, ao, cap, rfl, hx, rfl, by simp, rfl, rfl, by show w.ownsRow _ _ _ _ _ _; simpa using hown, Below.refl _ _⟩
  case round =>
    clear hown
    obtain ⟨pre, z, ao, cap, rfl, hz, HN, hpl, rfl, rfl, HO, hB⟩ := hrel
    by_cases hlt : z < 128
    · have hzI : ¬ (128 : Int) ≤ (z : Int) := by omega
      obtain ⟨ao', cap', w', hr, ho, hb⟩ := app8 (b := UInt8.ofNat z) HO.out (by omega) (by have := hB.size; omega)
      clear HO
      have hbyte : ((UInt8.ofNat z).toNat : Int) = (z : Int) := by
        rw [UInt8.toNat_ofNat_of_lt' (by show z < 256; omega)]
      rw [hbyte] at hr
      have hl1 : (num x).length = pre.length + 1 := by rw [HN.out, num_lt hlt]; simp
      have hfin : w'.ownsRow base 5 1 (.slice ao' (n + (num x).length) cap') (n + (num x).length) (c8 (bs ++ num x)) := by
        rw [hl1, ← Nat.add_assoc, HN.out, num_lt hlt, ← List.append_assoc]
        exact ho
      go_wp2_with (at_builtin; refine Lib.wpList_append_run _ rfl _ _ 34 34 rfl _ _ rfl rfl _ _ hr ?_)
      go_ret
      exact ⟨⟨ao', cap', by rw [← Nat.add_assoc]; rfl, by rw [← hl1]; exact hfin⟩, hB.trans hb⟩
    · have hzI : (128 : Int) ≤ (z : Int) := by omega
      obtain ⟨ao', cap', w', hr, ho, hb⟩ := app8 (b := UInt8.ofNat (z % 128 + 128)) HO.out (by omega) (by have := hB.size; omega)
      clear HO
      have hbyte : ((UInt8.ofNat (z % 128 + 128)).toNat : Int) = (z : Int) % 128 + 128 := by
        rw [UInt8.toNat_ofNat_of_lt' (by show z % 128 + 128 < 256; omega)]; omega
      rw [hbyte] at hr
      have hm1 : (0 : Int) ≤ (z : Int) % 128 := by omega
      have hm2 : (z : Int) % 128 < 128 := by omega
      go_wp2_with (at_builtin; refine Lib.wpList_append_run _ rfl _ _ 34 34 rfl _ _ rfl rfl _ _ hr ?_)
      have hl1 : (num x).length = pre.length + (num z).length := by rw [HN.out]; simp
      have hl2 : 2 ≤ (num z).length := by
        have := num_len10 (n := z / 128) (by omega)
        rw [num_ge hlt]; simp; omega
      have HN2 : Hid (num x = (pre ++ [UInt8.ofNat (z % 128 + 128)]) ++ num (z / 128)) := by
        show _ = _
        rw [HN.out, num_ge hlt]; simp
      have HO2 : Hid (w'.ownsRow base 5 1 (.slice ao' (n + (pre ++ [UInt8.ofNat (z % 128 + 128)]).length) cap') (n + (pre ++ [UInt8.ofNat (z % 128 + 128)]).length) (c8 (bs ++ (pre ++ [UInt8.ofNat (z % 128 + 128)])))) := by
        show w'.ownsRow _ _ _ _ _ _
        rw [List.length_append, List.length_singleton, ← List.append_assoc]
        exact ho
      have hdiv : ((z / 128 : Nat) : Int) = (z : Int) / 128 := by omega
      go_roundg (z / 128)
      case measure => omega
      case rel => exact ⟨pre ++ [UInt8.ofNat (z % 128 + 128)], z / 128, ao', cap', rfl, by omega, HN2, by simp; omega, by simp; omega, by rw [hdiv], HO2, hB.trans hb⟩
set_option maxRecDepth 100000 in
set_option maxHeartbeats 1000000 in
theorem size_any (x : Int) (hx : InR x) (w : World) : Calls Try.prog 44 #[.int .i64 x] w fun r w' => (∃ m : Nat, r = .returned (.int .i64 m) ∧ m ≤ 9) ∧ w' = w := by
  obtain ⟨hx1, hx2⟩ := hx
  have hlen := num_len10 (n := x.toNat) (by omega)
  go_enter Try.func44, Try.ntmps44
  go_wp2_with fail
  go_loopg [0, 3] (num x.toNat).length (fun g i s wr => ∃ (z : Int) (m : Nat), (num z.toNat).length = g ∧ m + g = 1 + (num x.toNat).length ∧ z ≤ 9223372036854775807 ∧ -9223372036854775808 ≤ z ∧ i = .int .i64 z ∧ s = .int .i64 m ∧ w = wr)
  case atStart => exact ⟨x, 1, rfl, rfl, hx2, hx1, rfl, rfl, rfl⟩
  case round =>
    obtain ⟨z, m, hg, hm, hz, hz2, rfl, rfl, rfl⟩ := hrel
    by_cases hlt : 128 ≤ z
    · have hn := num_ge (n := z.toNat) (by omega)
      have h1 : (num (z.toNat / 128)).length + 1 = gk := by rw [← hg, hn]; simp
      have e : (z / 128).toNat = z.toNat / 128 := by omega
      clear hn
      have hz0 : 0 ≤ z := by omega
      go_wp2_with fail
      go_roundg ((num (z.toNat / 128)).length)
      case measure => omega
      case rel => exact ⟨z / 128, m + 1, by rw [e], by omega, by omega, by omega, rfl, by go_num, rfl⟩
    · have h1 : (num z.toNat).length = 1 := by rw [num_lt (by omega)]; rfl
      go_wp2
      go_ret
      exact ⟨⟨m, rfl, by omega⟩, rfl⟩
end Go.Proofs.Ytndahpcjkcihlaa
