/- What crc.Parts answers of every list of lists of bytes; and what the statement's function CrcParts does. -/
import Derived.Test.YtpplhafbmcgahaaDoorRef
import Derived.Deep.Matrix
namespace Go.Proofs.YtpplhafbmcgahaaDoor
open Go.RowKit

/-- How a list of lists of bytes lies in memory. -/
structure Lists (w : World) (a : Option Addr) (len : Nat) (ls : List (List Int)) : Prop where
  size : ls.length = len
  most : len ≤ maxLen
  cell : ∀ i, i < len → ∃ b o x n c, a = some ⟨b, o, none⟩ ∧ w.cell? ⟨b, o + i, none⟩ = some (.slice x n c) ∧ Bytes w x n (ls.getD i [])

theorem Lists.below {w w' : World} {a : Option Addr} {len : Nat} {ls : List (List Int)} (h : Lists w a len ls) (hb : Below w.heap.size w w') : Lists w' a len ls := by
  refine ⟨h.size, h.most, ?_⟩
  intro i hi
  obtain ⟨b, o, x, n, c, e, hx, hy⟩ := h.cell i hi
  refine ⟨b, o, x, n, c, e, ?_, hy.below hb⟩
  have hlt : b < w.heap.size := by
    rcases Nat.lt_or_ge b w.heap.size with hz | hz
    · exact hz
    · simp [World.cell?, hz] at hx
  rw [hb.cell (p := ⟨b, o + i, none⟩) hlt]
  exact hx

/-- The sum behind the first k lists. -/
def upTo (ls : List (List Int)) (k : Nat) : Int := Crc.add 0 (ls.take k).flatten
theorem upTo_range (ls : List (List Int)) (k : Nat) : 0 ≤ upTo ls k ∧ upTo ls k < 4294967296 := Crc.add_range _ _
theorem upTo_zero (ls : List (List Int)) : upTo ls 0 = 0 := by
  show Crc.add 0 [] = 0
  exact Crc.add_nil (by omega) (by omega)
theorem upTo_succ (ls : List (List Int)) (k : Nat) (hk : k < ls.length) : Crc.add (upTo ls k) (ls.getD k []) = upTo ls (k + 1) := by
  unfold upTo
  rw [← Crc.add_append, List.take_succ_eq_append_getElem hk, List.flatten_append]
  simp [List.getD, hk]

set_option maxHeartbeats 400000 in
theorem parts_raw (b o len cap : Nat) (ls : List (List Int)) (X : Nat → Option Addr) (N C : Nat → Nat) (w : World) (hc : TabOk w) (hm : len ≤ maxLen) (hl : len = ls.length)
    (hcell : ∀ i, i < len → w.cell? ⟨b, o + i, none⟩ = some (.slice (X i) (N i) (C i))) (hb : ∀ i, i < len → Bytes w (X i) (N i) (ls.getD i [])) :
    Calls Tryd.prog 14 #[.slice (some ⟨b, o, none⟩) len cap] w fun e w' => e = .returned (.int .u32 (upTo ls len)) ∧ w' = w := by
  unfold maxLen at hm
  have Hl : Hid (len = ls.length) := hl
  clear hl
  go_enter Tryd.func14, Tryd.ntmps14
  go_wp2_with fail
  go_loop [3, 8] (fun r i => ∃ k : Nat, k ≤ len ∧ i = .int .i64 k ∧ r = .int .u32 (upTo ls k)) (fun _ i => len - (intOf i).toNat)
  case atStart => exact ⟨0, Nat.zero_le _, rfl, by rw [upTo_zero]⟩
  case round =>
    obtain ⟨k, hk, rfl, rfl⟩ := hrel
    have hr := upTo_range ls k
    by_cases hlt : k < len
    · have hck := hcell k hlt
      go_wp2_with fail
      refine (add_any _ _ _ _ (ls.getD k []) _ hr.1 hr.2 hc (hb k hlt)).mono ?_
      rintro e w' ⟨rfl, rfl⟩
      go_wp2_with fail
      refine ⟨⟨k + 1, by omega, by go_num, ?_⟩, by simp [intOf]; omega⟩
      rw [← List.getD_eq_getElem?_getD, upTo_succ ls k (by rw [← Hl.out]; exact hlt)]
    · go_wp2
      go_ret
      have ek : k = len := by omega
      subst ek
      exact ⟨rfl, rfl⟩

set_option maxHeartbeats 400000 in
theorem parts_none (a : Option Addr) (cap : Nat) (w : World) :
    Calls Tryd.prog 14 #[.slice a 0 cap] w fun e w' => e = .returned (.int .u32 0) ∧ w' = w := by
  go_enter Tryd.func14, Tryd.ntmps14
  go_wp2_with fail
  go_loop [3, 8] (fun r i => i = .int .i64 0 ∧ r = .int .u32 0) (fun _ _ => 0)
  case atStart => exact ⟨rfl, rfl⟩
  case round =>
    obtain ⟨rfl, rfl⟩ := hrel
    go_wp2
    go_ret
    exact ⟨rfl, rfl⟩

theorem Lists.open {w : World} {a : Option Addr} {len : Nat} {ls : List (List Int)} (h : Lists w a len ls) (hz : len ≠ 0) :
    ∃ (b o : Nat) (X : Nat → Option Addr) (N C : Nat → Nat), a = some ⟨b, o, none⟩ ∧ (∀ i, i < len → w.cell? ⟨b, o + i, none⟩ = some (.slice (X i) (N i) (C i))) ∧ ∀ i, i < len → Bytes w (X i) (N i) (ls.getD i []) := by
  obtain ⟨b, o, _, _, _, ea, _⟩ := h.cell 0 (by omega)
  have each : ∀ i, i < len → ∃ y : Option Addr × Nat × Nat, w.cell? ⟨b, o + i, none⟩ = some (.slice y.1 y.2.1 y.2.2) ∧ Bytes w y.1 y.2.1 (ls.getD i []) := by
    intro i hi
    obtain ⟨b', o', x, n, c, e, hx, hy⟩ := h.cell i hi
    rw [ea] at e
    simp only [Option.some.injEq, Addr.mk.injEq, and_true] at e
    obtain ⟨rfl, rfl⟩ := e
    exact ⟨(x, n, c), hx, hy⟩
  obtain ⟨y, hy⟩ := Deep.choose_lt each
  exact ⟨b, o, fun i => (y i).1, fun i => (y i).2.1, fun i => (y i).2.2, ea, fun i hi => (hy i hi).1, fun i hi => (hy i hi).2⟩

theorem parts_any (a : Option Addr) (len cap : Nat) (ls : List (List Int)) (w : World) (hc : TabOk w) (h : Lists w a len ls) :
    Calls Tryd.prog 14 #[.slice a len cap] w fun e w' => e = .returned (.int .u32 (Crc.add 0 ls.flatten)) ∧ w' = w := by
  have hs := h.size
  have ee : upTo ls len = Crc.add 0 ls.flatten := by unfold upTo; rw [List.take_of_length_le (by omega)]
  rw [← ee]
  by_cases hz : len = 0
  · subst hz
    rw [upTo_zero]
    exact parts_none a cap w
  · obtain ⟨b, o, X, N, C, rfl, h1, h2⟩ := h.open hz
    exact parts_raw b o len cap ls X N C w hc h.most hs.symm h1 h2

set_option maxHeartbeats 400000 in
theorem partslaw_raw (b o len cap : Nat) (ls : List (List Int)) (X : Nat → Option Addr) (N C : Nat → Nat) (w : World) (hc : TabOk w) (hm : len ≤ maxLen) (hl : len = ls.length)
    (hcell : ∀ i, i < len → w.cell? ⟨b, o + i, none⟩ = some (.slice (X i) (N i) (C i))) (hb : ∀ i, i < len → Bytes w (X i) (N i) (ls.getD i [])) (h : Lists w (some ⟨b, o, none⟩) len ls) :
    Calls Tryd.prog 4 #[.slice (some ⟨b, o, none⟩) len cap] w fun e w' => e = .returned (.bool true) ∧ Below w.heap.size w w' := by
  unfold maxLen at hm
  have Hl : Hid (len = ls.length) := hl
  clear hl
  go_enter Tryd.func4, Tryd.ntmps4
  go_wp2_with fail
  go_loop [3, 8] (fun r i => ∃ k : Nat, k ≤ len ∧ i = .int .i64 k ∧ r = .int .u32 (upTo ls k)) (fun _ i => len - (intOf i).toNat)
  case atStart => exact ⟨0, Nat.zero_le _, rfl, by rw [upTo_zero]⟩
  case round =>
    obtain ⟨k, hk, rfl, rfl⟩ := hrel
    have hr := upTo_range ls k
    by_cases hlt : k < len
    · have hck := hcell k hlt
      go_wp2_with fail
      refine (ref_any _ _ _ _ (ls.getD k []) _ hr.1 hr.2 (hb k hlt)).mono ?_
      rintro e w' ⟨rfl, rfl⟩
      go_wp2_with fail
      refine ⟨⟨k + 1, by omega, by go_num, ?_⟩, by simp [intOf]; omega⟩
      rw [← List.getD_eq_getElem?_getD, upTo_succ ls k (by rw [← Hl.out]; exact hlt)]
    · have ek : k = len := by omega
      subst ek
      go_wp2_with fail
      refine (wakes_any _ hc).mono ?_
      rintro e w1 ⟨rfl, hw⟩
      go_wp2_with fail
      refine (parts_any _ _ _ ls _ (hc.below hw) (h.below hw)).mono ?_
      rintro e w' ⟨rfl, rfl⟩
      have ee : upTo ls k = Crc.add 0 ls.flatten := by unfold upTo; rw [List.take_of_length_le (by rw [Hl.out]; exact Nat.le_refl _)]
      rw [← ee]
      go_wp2_with fail
      go_ret
      exact ⟨by simp, hw⟩

set_option maxHeartbeats 400000 in
theorem partslaw_none (a : Option Addr) (cap : Nat) (w : World) (hc : TabOk w) :
    Calls Tryd.prog 4 #[.slice a 0 cap] w fun e w' => e = .returned (.bool true) ∧ Below w.heap.size w w' := by
  go_enter Tryd.func4, Tryd.ntmps4
  go_wp2_with fail
  go_loop [3, 8] (fun r i => i = .int .i64 0 ∧ r = .int .u32 0) (fun _ _ => 0)
  case atStart => exact ⟨rfl, rfl⟩
  case round =>
    obtain ⟨rfl, rfl⟩ := hrel
    go_wp2_with fail
    refine (wakes_any _ hc).mono ?_
    rintro e w1 ⟨rfl, hw⟩
    go_wp2_with fail
    refine (parts_none _ _ _).mono ?_
    rintro e w' ⟨rfl, rfl⟩
    go_wp2_with fail
    go_ret
    exact ⟨by simp, hw⟩

theorem partslaw_any (a : Option Addr) (len cap : Nat) (ls : List (List Int)) (w : World) (hc : TabOk w) (h : Lists w a len ls) :
    Calls Tryd.prog 4 #[.slice a len cap] w fun e w' => e = .returned (.bool true) ∧ Below w.heap.size w w' := by
  by_cases hz : len = 0
  · subst hz
    exact partslaw_none a cap w hc
  · obtain ⟨b, o, X, N, C, rfl, h1, h2⟩ := h.open hz
    exact partslaw_raw b o len cap ls X N C w hc h.most h.size.symm h1 h2 h

/-- From the argument's reading to how it lies. -/
theorem lists_of_trod {H : Type} {enc : TypeId × Value → H} {w : World} {fuel : Nat} {a : Option Addr} {len cap : Nat} {x : DataW H × List MemPlace}
    (h : DataW.trod enc Tryd.prog w 0 (fun _ => true) true fuel 28 [.slice a len cap] = some x) : ∃ ls, Lists w a len ls := by
  rcases Deep.open_int_rows Tryd.underlying28 Tryd.underlying23 Tryd.underlying5 (by kernel_rfl) (by kernel_rfl) h with ⟨hcs, _⟩ | ⟨⟨b, o, sp⟩, l, c, A, L, C, Z, hcs, _, hl, hm, _, hr⟩
  · simp only [List.cons.injEq, Value.slice.injEq, and_true] at hcs
    obtain ⟨rfl, rfl, rfl⟩ := hcs
    exact ⟨[], rfl, by unfold maxLen; omega, fun i hi => by omega⟩
  · simp only [List.cons.injEq, Value.slice.injEq, and_true] at hcs
    obtain ⟨rfl, rfl, rfl⟩ := hcs
    refine ⟨(List.range len).map fun r => (Z r).take (L r), by simp, by omega, ?_⟩
    intro i hi
    have hsp : sp = none := by simpa [Addr.add] using World.cell?_spot (hr 0 (by omega)).1
    subst hsp
    obtain ⟨h1, h2, h3, h4, h5, h6, h7⟩ := hr i (by omega)
    have e : (⟨b, o, none⟩ : Addr).add i = ⟨b, o + i, none⟩ := by
      by_cases h : i = 0 <;> simp [Addr.add, h]
    refine ⟨b, o, A i, L i, C i, rfl, by rw [← e]; exact h1, ?_⟩
    have eg : ((List.range len).map fun r => (Z r).take (L r)).getD i [] = (Z i).take (L i) := by simp [List.getD, hi]
    rw [eg]
    apply IsRow.bytes (cap := C i)
    cases hA : A i with
    | none =>
      have hC := h6 hA
      exact .inl ⟨rfl, by omega, hC, List.length_eq_zero_iff.1 (by omega)⟩
    | some x => exact .inr ⟨x, rfl, h2, h3, h4, fun j hj => (h7 x hA).2 j (by omega), h5⟩
end Go.Proofs.YtpplhafbmcgahaaDoor
