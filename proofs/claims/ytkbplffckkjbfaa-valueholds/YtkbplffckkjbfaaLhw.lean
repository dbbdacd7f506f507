/- What is put is found: the statement, walked. -/
import Derived.Test.YtkbplffckkjbfaaLhnone
import Derived.Test.YtkbplffckkjbfaaLhother
import Derived.Test.YtkbplffckkjbfaaLhlist
import Derived.Test.YtkbplffckkjbfaaLhmap
namespace Go.Proofs.Ytkbplffckkjbfaa
open Go.RowKit
set_option linter.unusedVariables false

theorem holds_walk {v : V} {lst : List V} {t : List UInt8} {av al : Option Addr} {cv cl : Nat} {w : World} (hv : IsW Any w v (.slice av v.l.length cv)) (hl : IsVs Any w lst (.slice al lst.length cl)) (htl : t.length ≤ 9223372036854775807) (zv : SzV v) (zl : ∀ x ∈ lst, SzV x) :
    Calls Try.prog 8 #[.agg #[.int .i64 v.k, .int .i64 v.n, .string ⟨v.t.toArray⟩, .slice av v.l.length cv], .string ⟨t.toArray⟩, .slice al lst.length cl] w fun r w' => r = .returned (.bool true) ∧ Below w.heap.size w w' := by
  rcases hT : tyOf t with _ | T
  · exact holds_none hv hl htl zv zl hT
  · have hd := ((tyOf_iff t T).1 hT).2
    cases T with
    | int => exact holds_other hv hl htl zv zl hT (by unfold elT; rw [hT]) (by unfold mpT; rw [hT])
    | bool => exact holds_other hv hl htl zv zl hT (by unfold elT; rw [hT]) (by unfold mpT; rw [hT])
    | text => exact holds_other hv hl htl zv zl hT (by unfold elT; rw [hT]) (by unfold mpT; rw [hT])
    | list E => exact holds_list hv hl htl zv zl (by simp only [Ty.dp] at hd; omega) hT (by unfold elT; rw [hT]) (by unfold mpT; rw [hT])
    | map kb E => exact holds_map hv hl htl zv zl (by simp only [Ty.dp] at hd; omega) hT (by unfold elT; rw [hT]) (by unfold mpT; rw [hT])
end Go.Proofs.Ytkbplffckkjbfaa
