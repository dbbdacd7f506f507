/- From how an argument that is bytes is read to what the walks ask. -/
import Derived.Test.YtkbplffckkjbfaaLop
import Derived.Test.YtkbplffckkjbfaaDa
import Derived.ChangeSlices
import Derived.WideShapes
namespace Go.Proofs.Ytkbplffckkjbfaa
open Go.ChangeShapes Go.WideShapes Go.ChangeAt Go.RowKit
set_option linter.unusedVariables false
set_option linter.unusedSimpArgs false

set_option maxRecDepth 100000 in
theorem bytes_open {H : Type} {enc : TypeId × Value → H} {W : World} {base : Nat} {v : Value} {d : DataW H} {p : List MemPlace} (hv : Value.okWide Try.prog W .any base 52 v) (h : DataW.Trod enc Try.prog W 0 (fun _ => true) true 52 v d p) :
    ∃ (bs : List UInt8) (ao : Option Addr) (cap : Nat), v = .slice ao bs.length cap ∧ IsB Any W (.slice ao bs.length cap) bs ∧ bs.length ≤ 9223372036854775807 := by
  obtain ⟨a, len, cap, rfl⟩ := okWide_slice Try.underlying52 hv
  obtain ⟨fuel, hf⟩ := h
  rcases open_ints Try.underlying52 Try.underlying5 (by kernel_rfl) (by simpa [Value.cells] using hf) with ⟨e, _⟩ | ⟨a', len', cap', zs, e, _, hlc, hcm, hzl, _, hcell, hwf⟩
  · simp only [List.cons.injEq, Value.slice.injEq, and_true] at e
    obtain ⟨rfl, rfl, rfl⟩ := e
    exact ⟨[], none, 0, rfl, IsB.nil, Nat.zero_le _⟩
  · simp only [List.cons.injEq, Value.slice.injEq, and_true] at e
    obtain ⟨rfl, rfl, rfl⟩ := e
    have hzl' : zs.length = cap := hzl
    have hbl : ((zs.take len).map (fun n => UInt8.ofNat n.toNat)).length = len := by simp; omega
    unfold maxLen at hcm
    refine ⟨(zs.take len).map (fun n => UInt8.ofNat n.toNat), some a', cap, by rw [hbl], ⟨some a', cap, rfl, by rw [hbl]; omega, by omega, fun h => (by cases h), fun hne => ?_⟩, by rw [hbl]; omega⟩
    have h0 : 0 < zs.length := by
      rcases zs with _ | ⟨z, r⟩
      · simp at hne
      · simp
    obtain ⟨g, o, sp⟩ := a'
    have hz0 := hcell 0 h0
    have hspn : sp = none := by simpa [Addr.add] using World.cell?_spot hz0
    subst hspn
    refine ⟨g, o, rfl, trivial, ?_, fun i b hi => ?_⟩
    · have := World.block_lt_of_cell? W _ hz0
      simpa [Addr.add] using this
    · rw [List.getElem?_map, List.getElem?_take] at hi
      split at hi
      · obtain ⟨z, hz, rfl⟩ := Option.map_eq_some_iff.1 hi
        have hil : i < zs.length := (List.getElem?_eq_some_iff.1 hz).1
        have hc := hcell i hil
        have hzd : zs.getD i 0 = z := by rw [List.getD_eq_getElem?_getD, hz]; rfl
        rw [hzd] at hc
        have hw := hwf z (List.mem_of_getElem? hz)
        have hb : 0 ≤ z ∧ z < 256 := by
          simp [Lit.wf, IntKind.min, IntKind.max, IntKind.bits, IntKind.signed] at hw
          omega
        have e1 : ((UInt8.ofNat z.toNat).toNat : Int) = z := by rw [UInt8.toNat_ofNat']; omega
        rw [e1]
        by_cases hi0 : i = 0
        · subst hi0; simpa [Addr.add] using hc
        · simpa [Addr.add, hi0] using hc
      · simp at hi
end Go.Proofs.Ytkbplffckkjbfaa
