/- How programs lie in memory, from a lower block on. -/
import Derived.Test.YtifebbdjdllfpaaGreatDoorRep
namespace Go.Proofs.YtifebbdjdllfpaaGreatDoor
open Go.RowKit
set_option linter.unusedVariables false

mutual
theorem IsEx.base {B B' : Nat → Prop} {w : World} (hb : ∀ k, B k → B' k) : ∀ {e : Px.Ex} {cs : List Value}, IsEx B w e cs → IsEx B' w e cs
  | .mk k o n t args p, cs, h => by
    rw [IsEx] at h ⊢
    obtain ⟨sl, row, hc, hr, ha⟩ := h
    exact ⟨sl, row, hc, hr.base hb, AllEx.base hb ha⟩
theorem AllEx.base {B B' : Nat → Prop} {w : World} (hb : ∀ k, B k → B' k) : ∀ {l : List Px.Ex} {cs : List Value}, AllEx B w l cs → AllEx B' w l cs
  | [], cs, h => by rw [AllEx] at h ⊢; exact h
  | e :: r, cs, h => by
    rw [AllEx] at h ⊢
    obtain ⟨c1, c2, hc, h1, h2⟩ := h
    exact ⟨c1, c2, hc, IsEx.base hb h1, AllEx.base hb h2⟩
end
mutual
theorem IsSt.base {B B' : Nat → Prop} {w : World} (hb : ∀ k, B k → B' k) : ∀ {e : Px.St} {cs : List Value}, IsSt B w e cs → IsSt B' w e cs
  | .mk k n es b c p, cs, h => by
    rw [IsSt] at h ⊢
    obtain ⟨s1, s2, s3, r1, r2, r3, hc, a1, a2, a3, a4, a5, a6⟩ := h
    exact ⟨s1, s2, s3, r1, r2, r3, hc, a1.base hb, a2.base hb, a3.base hb, AllSt.base hb a4, a5.base hb, AllSt.base hb a6⟩
theorem AllSt.base {B B' : Nat → Prop} {w : World} (hb : ∀ k, B k → B' k) : ∀ {l : List Px.St} {cs : List Value}, AllSt B w l cs → AllSt B' w l cs
  | [], cs, h => by rw [AllSt] at h ⊢; exact h
  | e :: r, cs, h => by
    rw [AllSt] at h ⊢
    obtain ⟨c1, c2, hc, h1, h2⟩ := h
    exact ⟨c1, c2, hc, IsSt.base hb h1, AllSt.base hb h2⟩
end
theorem AllFn.base {B B' : Nat → Prop} {w : World} (hb : ∀ k, B k → B' k) : ∀ {l : List Px.Fn} {cs : List Value}, AllFn B w l cs → AllFn B' w l cs
  | [], cs, h => h
  | e :: r, cs, h => by
    obtain ⟨c1, c2, hc, ⟨ps, bs, h1, h2, row, h3, h4⟩, h5⟩ := h
    exact ⟨c1, c2, hc, ⟨ps, bs, h1, SlRow.base h2 hb, row, h3.base hb, h4.base hb⟩, AllFn.base hb h5⟩
theorem IsPr.base {B B' : Nat → Prop} {w : World} (hb : ∀ k, B k → B' k) {p : Px.Pr} {v : Value} (h : IsPr B w p v) : IsPr B' w p v := by
  obtain ⟨ss, fs, hv, h1, row, h2, h3⟩ := h
  exact ⟨ss, fs, hv, SlRow.base h1 hb, row, h2.base hb, h3.base hb⟩
end Go.Proofs.YtifebbdjdllfpaaGreatDoor
