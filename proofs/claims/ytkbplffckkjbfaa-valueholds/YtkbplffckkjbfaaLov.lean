/- From how an argument that is a list of values is read to what the walks ask. -/
import Derived.Test.YtkbplffckkjbfaaLop
namespace Go.Proofs.Ytkbplffckkjbfaa
open Go.ChangeShapes Go.WideShapes Go.ChangeAt Go.RowKit
set_option linter.unusedVariables false
set_option linter.unusedSimpArgs false

set_option maxRecDepth 100000 in
theorem vals_of_trod {H : Type} {enc : TypeId × Value → H} {w : World} (fuel : Nat) (cs : List Value) (x : DataW H × List MemPlace) (h : DataW.trod enc Try.prog w 0 (fun _ => true) true fuel 22 cs = some x) : ∃ (l : List V) (ao : Option Addr) (cap : Nat), cs = [.slice ao l.length cap] ∧ IsVs Any' w l (.slice ao l.length cap) ∧ ((x.1.weights Try.prog 22).all (· ≤ reachBytes) = true → ∀ y ∈ l, SzV y) := by
  rcases DataW.trod_slice Try.underlying22 h with ⟨e3, e3'⟩ | ⟨a, len, cap, elems, rest, n', rfl, e3, e3', _, hlc, hcm, hel, hcell, _, _⟩
  · exact ⟨[], none, 0, e3, IsVs.nil, fun _ y hy => by simp at hy⟩
  · rw [vfields] at hcell
    have hP : ∀ i, i < len → ∃ v, ∃ cs', w.cells? 0 (a.add (i * 4)) 4 = some cs' ∧ IsV Any' w v cs' ∧ ((x.1.weights Try.prog 22).all (· ≤ reachBytes) = true → SzV v) := by
      intro i hi
      obtain ⟨z, hz⟩ : ∃ z, elems[i]? = some z := ⟨_, List.getElem?_eq_getElem (by omega)⟩
      have hb := hcell i hi
      rw [hz, Option.bind_eq_some_iff] at hb
      obtain ⟨cs', h1, h2⟩ := hb
      obtain ⟨v, h3, h4⟩ := val_of_trod n' cs' z h2
      refine ⟨v, cs', h1, h3, fun hw => h4 ?_⟩
      rw [e3'] at hw
      simp only [DataW.weights, Try.underlying22, List.all_cons, List.all_append, Bool.and_eq_true] at hw
      rw [List.all_eq_true]
      intro q hq
      exact List.all_eq_true.1 hw.2.1 q (weightsAll_mem (List.mem_map.2 ⟨z, List.mem_of_getElem? hz, rfl⟩) q hq)
    obtain ⟨l, hl, hall⟩ := list_of len hP
    obtain ⟨c, hc⟩ : ∃ c : Nat → List Value, ∀ i, c i = (w.cells? 0 (a.add (i * 4)) 4).getD [] := ⟨_, fun _ => rfl⟩
    have hci : ∀ i, i < len → w.cells? 0 (a.add (i * 4)) 4 = some (c i) ∧ ∃ v, l[i]? = some v ∧ IsV Any' w v (c i) := by
      intro i hi
      obtain ⟨v, hv⟩ : ∃ v, l[i]? = some v := ⟨_, List.getElem?_eq_getElem (by omega)⟩
      obtain ⟨cs', h1, h2, _⟩ := hall i v hv
      have e : c i = cs' := by rw [hc, h1]; rfl
      rw [e]
      exact ⟨h1, v, hv, h2⟩
    have hc4 : ∀ i, i < len → (c i).length = 4 := fun i hi => (cells4 (hci i hi).1).1
    have hvs : IsVs Any' w l (.slice (some a) len cap) := by
      subst hl
      refine ⟨(List.range l.length).flatMap c, ⟨range_len _ c hc4, ?_⟩, allV_range l c (fun i v hi => ?_)⟩
      · by_cases h0 : l.length = 0
        · exact Or.inl ⟨Or.inr ⟨a, cap, by rw [h0], hcm⟩, h0⟩
        · obtain ⟨b, o, sp⟩ := a
          have hfirst := (cells4 (hci 0 (by omega)).1).2
          obtain ⟨u0, hu0⟩ : ∃ u, (c 0)[0]? = some u := ⟨_, List.getElem?_eq_getElem (by rw [hc4 0 (by omega)]; omega)⟩
          have hz0 := hfirst 0 u0 hu0
          have hspn : sp = none := by simpa [Addr.add] using World.cell?_spot hz0
          subst hspn
          refine Or.inr ⟨b, o, cap, rfl, hlc, hcm, trivial, ?_, fun j u hj => ?_⟩
          · rw [addr_add4, addr_add4] at hz0
            exact World.block_lt_of_cell? w _ hz0
          · obtain ⟨g1, g2⟩ := range_get _ c j u hc4 hj
            have := (cells4 (hci (j / 4) g1).1).2 (j % 4) u g2
            rw [addr_add4, addr_add4] at this
            rw [show o + j = o + j / 4 * 4 + j % 4 by omega]
            exact this
      · obtain ⟨_, v', hv', hi'⟩ := hci i (List.getElem?_eq_some_iff.1 hi).1
        rw [hi] at hv'
        cases hv'
        exact hi'
    refine ⟨l, some a, cap, by rw [e3, hl], by rw [hl]; exact hvs, fun hw y hy => ?_⟩
    obtain ⟨i, hi⟩ := List.mem_iff_getElem?.1 hy
    obtain ⟨_, _, _, h5⟩ := hall i y hi
    exact h5 hw
set_option maxRecDepth 100000 in
/-- An argument that is a list of values. -/
theorem vals_open {H : Type} {enc : TypeId × Value → H} {W : World} {base : Nat} {v : Value} {d : DataW H} {p : List MemPlace} (hv : Value.okWide Try.prog W .any base 22 v) (h : DataW.Trod enc Try.prog W 0 (fun _ => true) true 22 v d p) :
    ∃ (l : List V) (ao : Option Addr) (cap : Nat), v = .slice ao l.length cap ∧ IsVs Any' W l (.slice ao l.length cap) ∧ ((d.weights Try.prog 22).all (· ≤ reachBytes) = true → ∀ y ∈ l, SzV y) := by
  obtain ⟨fuel, hf⟩ := h
  obtain ⟨l, ao, cap, h1, h2, h3⟩ := vals_of_trod fuel _ _ hf
  unfold Value.okWide at hv
  rw [Try.underlying22] at hv
  have hv' : Cell.okWide Try.prog W .any base 22 v := hv
  by_cases hc : v.cells = #[v]
  · rw [hc] at h1
    have h4 : v = .slice ao l.length cap := by simpa using h1
    exact ⟨l, ao, cap, h4, h2, h3⟩
  · exfalso
    cases v with
    | agg cs =>
      unfold Cell.okWide at hv'
      rw [Try.underlying22] at hv'
      have hv2 : Cell.ok Try.prog W .any base 22 (.agg cs) := hv'
      unfold Cell.ok at hv2
      rw [Try.underlying22] at hv2
      first | exact hv2 | (simp at hv2)
    | _ => exact hc rfl
end Go.Proofs.Ytkbplffckkjbfaa
