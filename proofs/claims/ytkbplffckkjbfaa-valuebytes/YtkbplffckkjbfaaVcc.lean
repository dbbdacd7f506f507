/- Three slices one behind the other: the library's Concat. -/
import Derived.Test.YtkbplffckkjbfaaVo
import Derived.Deep.LoopGhost
namespace Go.Proofs.Ytkbplffckkjbfaa
open Go.RowKit
set_option linter.unusedVariables false
set_option linter.unusedSimpArgs false

abbrev Any : Nat → Prop := fun _ => True
abbrev Lo (n : Nat) : Nat → Prop := fun k => k < n
abbrev Lob (B : Nat → Prop) (n : Nat) : Nat → Prop := fun k => B k ∧ k < n
/-- Those of B below n, and all from n on. -/
abbrev Up (B : Nat → Prop) (n : Nat) : Nat → Prop := fun k => (B k ∧ k < n) ∨ n ≤ k
theorem since_lo {B : Nat → Prop} {n : Nat} {w w' : World} (h : Below n w w') : Since (Lob B n) w w' := ⟨h.size, fun k h1 _ => h.block k h1.2⟩
theorem owns_vs {B : Nat → Prop} {w : World} {base n : Nat} {v : Value} {row : List Value} {l : List V} (h : w.ownsRow base 24 4 v n row) (hl : l.length = n) (ha : AllV B w l row) {B' : Nat → Prop} (hb : ∀ k, B k → k < w.heap.size → B' k) (hB' : ∀ k, base ≤ k → B' k) : IsVs B' w l v := by
  refine ⟨row, ⟨by rw [hl]; exact h.1, ?_⟩, ha.base hb⟩
  rcases h.2 with ⟨h1, h0⟩ | ⟨g, cap, cur, h1, h2, h3, h4, h5, h6, h7⟩
  · exact Or.inl ⟨Or.inl h1, by omega⟩
  · refine Or.inr ⟨g, 0, cap, by rw [hl]; exact h1, by omega, h5, hB' g h2, (Array.getElem?_eq_some_iff.1 h3).1, fun j u hj => ?_⟩
    rw [cell_block h3, Nat.zero_add]
    rw [← h7, List.getElem?_take] at hj
    split at hj
    · simpa using hj
    · cases hj
theorem AllV.ones {B : Nat → Prop} {w : World} : ∀ {l : List V} {row : List Value}, AllV B w l row → ∀ u ∈ row, u.oneCell' = true
  | [], row, h => by rw [AllV] at h; subst h; simp
  | a :: r, row, h => by
    rw [AllV] at h
    obtain ⟨c1, c2, rfl, h1, h2⟩ := h
    obtain ⟨sl, rfl, hw⟩ := isV_iff.1 h1
    obtain ⟨ao, cap, rfl, _, _⟩ := hw.vs.slice
    have ih := AllV.ones h2
    intro u hu
    rcases List.mem_append.1 hu with hu | hu
    · simp only [List.mem_cons, List.not_mem_nil, or_false] at hu
      rcases hu with rfl | rfl | rfl | rfl <;> rfl
    · exact ih u hu
/-- What append asks of a slice of values. -/
theorem IsVs.news {B : Nat → Prop} {w : World} {l : List V} {ad : Option Addr} {n c : Nat} (h : IsVs B w l (.slice ad n c)) : ∃ row, row.length = l.length * 4 ∧ AllV B w l row ∧ (ad = none → l.length = 0 ∧ c = 0) ∧ ∀ b, ad = some b → ∀ j u, row[j]? = some u → w.cell? (b.add j) = some u := by
  obtain ⟨row, ⟨h1, h2⟩, h3⟩ := h
  refine ⟨row, h1, h3, ?_, ?_⟩
  · rintro rfl
    rcases h2 with ⟨e | ⟨a, cap, e, _⟩, h0⟩ | ⟨g, o, cap, e, _⟩
    · simp only [Value.slice.injEq] at e; exact ⟨h0, e.2.2⟩
    · simp at e
    · simp at e
  · rintro b rfl j u hu
    rcases h2 with ⟨-, h0⟩ | ⟨g, o, cap, e, _, _, _, _, hc⟩
    · have := (List.getElem?_eq_some_iff.1 hu).1
      omega
    · simp only [Value.slice.injEq, Option.some.injEq] at e
      obtain ⟨rfl, _, _⟩ := e
      have := hc j u hu
      by_cases hj : j = 0
      · subst hj; simpa [Addr.add] using this
      · simpa [Addr.add, hj] using this
def catL (L : Nat → List V) : Nat → List V
  | 0 => []
  | q + 1 => catL L q ++ L q
theorem catL_len (L : Nat → List V) (q : Nat) : (catL L (q + 1)).length = (catL L q).length + (L q).length := by simp [catL]
theorem catL_le (L : Nat → List V) (q : Nat) (h : q ≤ 3) : (catL L q).length ≤ (catL L 3).length := by
  have h1 : (catL L 1).length = _ := catL_len L 0
  have h2 : (catL L 2).length = _ := catL_len L 1
  have h3 : (catL L 3).length = _ := catL_len L 2
  have : q = 0 ∨ q = 1 ∨ q = 2 ∨ q = 3 := by omega
  rcases this with rfl | rfl | rfl | rfl <;> omega
set_option maxRecDepth 100000 in
set_option maxHeartbeats 2000000 in
theorem concat_any {B : Nat → Prop} {L : Nat → List V} {a : Nat → Option Addr} {c : Nat → Nat} {g0 : Nat} {w : World} (hcell : ∀ q, q < 3 → w.cell? ⟨g0, q, none⟩ = some (.slice (a q) (L q).length (c q))) (hg0 : g0 < w.heap.size)
    (hvs : ∀ q, q < 3 → IsVs B w (L q) (.slice (a q) (L q).length (c q))) (hsum : (catL L 3).length ≤ 1000000) :
    Calls Try.prog 82 #[.slice (some ⟨g0, 0, none⟩) 3 3] w fun r w' => (∃ ao cap, r = .returned (.slice ao (catL L 3).length cap) ∧ IsVs (Up B w.heap.size) w' (catL L 3) (.slice ao (catL L 3).length cap)) ∧ Below w.heap.size w w' := by
  have hvs' : ∀ q, q < 3 → IsVs (Lob B w.heap.size) w (L q) (.slice (a q) (L q).length (c q)) := fun q hq => (hvs q hq).base (fun k h1 h => ⟨h1, h⟩)
  have hG := grow_nil (catL L 3).length (by omega) w
  have hround : ∀ (q : Nat) (wr : World) (v : Value) (row : List Value), q < 3 → Below w.heap.size w wr → wr.ownsRow w.heap.size 24 4 v (catL L q).length row → AllV (Lob B w.heap.size) wr (catL L q) row →
      ∃ ao cap w', (Builtin.append_ #[22, 22] 22 #[v, .slice (a q) (L q).length (c q)]).run Try.prog wr = .ok (.slice ao (catL L (q + 1)).length cap) w' ∧ (∃ row', w'.ownsRow w.heap.size 24 4 (.slice ao (catL L (q + 1)).length cap) (catL L (q + 1)).length row' ∧ AllV (Lob B w.heap.size) w' (catL L (q + 1)) row') ∧ Below w.heap.size w w' := by
    intro q wr v row hq hB hown hall
    obtain ⟨nrow, n1, n2, n3, n4⟩ := ((hvs' q hq).since (since_lo hB)).news
    have hle := catL_le L (q + 1) (by omega)
    have hll := catL_len L q
    obtain ⟨ao, cap, w', hr, ho, hb, _⟩ := app_run Try.underlying22 valInfo rfl (by decide) 22 hown n3 n1 n4 n2.ones (by omega) (by decide) hB.size
    rw [← hll] at hr ho
    exact ⟨ao, cap, w', hr, ⟨_, ho, (hall.since (since_lo hb)).append (n2.since (since_lo hb))⟩, hB.trans hb⟩
  have hcl : ∀ (q : Nat) (wr : World), q < 3 → Below w.heap.size w wr → wr.cell? ⟨g0, q, none⟩ = some (.slice (a q) (L q).length (c q)) := fun q wr hq hB => ((bcell hB).1 _ _ hg0).trans (hcell q hq)
  clear hvs hvs' hcell
  go_enter Try.func82, Try.ntmps82
  go_wp2_with fail
  go_loopg [3, 11] 3 (fun g s i wr => ∃ q : Nat, q ≤ 3 ∧ g = 3 - q ∧ i = .int .i64 q ∧ s = .int .i64 (catL L q).length ∧ w = wr)
  case atStart => exact ⟨0, by omega, rfl, rfl, rfl, rfl⟩
  case round =>
    obtain ⟨q, hq, rfl, rfl, rfl, rfl⟩ := hrel
    by_cases hlt : q < 3
    · have hltI : (q : Int) < 3 := by omega
      have hc := hcl q w hlt (Below.refl _ _)
      have hle := catL_le L (q + 1) (by omega)
      have hll := catL_len L q
      have Hll : Hid ((catL L (q + 1)).length = (catL L q).length + (L q).length) := hll
      have hb1 : ((catL L q).length : Int) + ((L q).length : Int) ≤ 1000000 := by omega
      have hb2 : ¬ ((catL L q).length : Int) + ((L q).length : Int) < 0 := by omega
      clear hround hcl hG hll hle
      go_wp2_with fail
      go_roundg (3 - (q + 1))
      case measure => omega
      case rel => exact ⟨q + 1, by omega, rfl, by go_num, by rw [Hll.out]; go_num, rfl⟩
    · have hq3 : q = 3 := by omega
      subst hq3
      go_wp2_with fail
      refine hG.mono ?_
      rintro e w1 ⟨⟨ao, cap, rfl, hown⟩, hb1⟩
      clear hG
      go_wp2_with fail
      go_loopg [6, 27] 3 (fun g s i wr => ∃ (q : Nat) (ao : Option Addr) (cap : Nat), q ≤ 3 ∧ g = 3 - q ∧ i = .int .i64 q ∧ s = .slice ao (catL L q).length cap ∧ Hid (∃ row, wr.ownsRow w.heap.size 24 4 (.slice ao (catL L q).length cap) (catL L q).length row ∧ AllV (Lob B w.heap.size) wr (catL L q) row) ∧ Below w.heap.size w wr)
      case atStart => exact ⟨0, ao, cap, by omega, rfl, rfl, rfl, ⟨[], hown, by simp [catL, AllV]⟩, hb1⟩
      case round =>
        clear hown hb1
        obtain ⟨q, ao, cap, hq, rfl, rfl, rfl, HO, hB⟩ := hrel
        by_cases hlt : q < 3
        · have hltI : (q : Int) < 3 := by omega
          have hc := hcl q wr hlt hB
          obtain ⟨row, ho, ha⟩ := HO.out
          obtain ⟨ao', cap', w', hr, HO', hB'⟩ := hround q wr _ row hlt hB ho ha
          have HO2 : Hid (∃ row, w'.ownsRow w.heap.size 24 4 (.slice ao' (catL L (q + 1)).length cap') (catL L (q + 1)).length row ∧ AllV (Lob B w.heap.size) w' (catL L (q + 1)) row) := HO'
          clear HO HO' hround hcl
          go_wp2_with (at_builtin; refine Lib.wpList_append_run _ rfl _ _ 22 22 rfl _ _ rfl rfl _ _ hr ?_)
          go_roundg (3 - (q + 1))
          case measure => omega
          case rel => exact ⟨q + 1, ao', cap', by omega, rfl, by go_num, rfl, HO2, hB'⟩
        · have hq3 : q = 3 := by omega
          subst hq3
          obtain ⟨row, ho, ha⟩ := HO.out
          have hfin := owns_vs (B' := Up B w.heap.size) ho rfl ha (fun k h _ => Or.inl h) (fun k h => Or.inr h)
          clear HO hround hcl ho ha
          go_wp2
          go_ret
          exact ⟨⟨ao, cap, rfl, hfin⟩, hB⟩
end Go.Proofs.Ytkbplffckkjbfaa
