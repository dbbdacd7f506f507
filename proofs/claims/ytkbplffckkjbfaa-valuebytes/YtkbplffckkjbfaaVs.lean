/- Which values a type has. Plain mathematics. -/
import Derived.Test.YtkbplffckkjbfaaVt
namespace Go.Proofs.Ytkbplffckkjbfaa
set_option linter.unusedVariables false
set_option linter.unusedSimpArgs false

def kd : Ty → Int
  | .int => 1 | .bool => 2 | .text => 3 | .list _ => 4 | .map _ _ => 5
def kdOf (s : List UInt8) : Int := match tyOf s with
  | none => 0
  | some T => kd T
/-- The type of a list's elements. -/
def elT (s : List UInt8) : List UInt8 × Bool := match tyOf s with
  | some (.list T) => (tyT T, true)
  | _ => ([], false)
/-- Those of a map's keys and values. -/
def mpT (s : List UInt8) : List UInt8 × List UInt8 × Bool := match tyOf s with
  | some (.map k T) => (keyT k, tyT T, true)
  | _ => ([], [], false)
def keyTy (k : Bool) : Ty := if k then .int else .text
theorem keyTy_T (k : Bool) : tyT (keyTy k) = keyT k := by cases k <;> rfl
theorem keyTy_dp (k : Bool) : (keyTy k).dp = 1 := by cases k <;> rfl
def bareB (v : V) : Bool := ((v.k == 1 || v.k == 2) || v.n == 0) && ((v.k == 3) || v.t == []) && ((v.k == 4 || v.k == 5) || v.l.length == 0)
/-- A key of a map. -/
def KeyS : Bool → V → Prop
  | true, v => v.k = 1 ∧ v.t = [] ∧ v.l = []
  | false, v => v.k = 3 ∧ v.n = 0 ∧ v.l = [] ∧ v.t.length ≤ 256
/-- Is it one of the type, whatever it weighs? -/
def Shp : Ty → V → Prop
  | .int, v => v.k = 1 ∧ v.t = [] ∧ v.l = []
  | .bool, v => v.k = 2 ∧ v.t = [] ∧ v.l = [] ∧ (v.n = 0 ∨ v.n = 1)
  | .text, v => v.k = 3 ∧ v.n = 0 ∧ v.l = [] ∧ v.t.length ≤ 256
  | .list T, v => v.k = 4 ∧ v.n = 0 ∧ v.t = [] ∧ v.l.length ≤ 64 ∧ ∀ x ∈ v.l, Shp T x
  | .map k T, v => v.k = 5 ∧ v.n = 0 ∧ v.t = [] ∧ v.l.length % 2 = 0 ∧ v.l.length ≤ 128 ∧
      (∀ i x, v.l[2 * i]? = some x → KeyS k x) ∧ (∀ i x, v.l[2 * i + 1]? = some x → Shp T x) ∧ (∀ i x y, v.l[2 * i]? = some x → v.l[2 * i + 2]? = some y → cmpV x y < 0)
theorem keyS_shp (k : Bool) (v : V) : KeyS k v ↔ Shp (keyTy k) v := by
  cases k
  · show _ ↔ Shp .text v
    rw [Shp, KeyS]
  · show _ ↔ Shp .int v
    rw [Shp, KeyS]
noncomputable def shpB (T : Ty) (v : V) : Bool := @decide (Shp T v) (Classical.propDecidable _)
theorem shpB_iff {T : Ty} {v : V} : shpB T v = true ↔ Shp T v := by unfold shpB; simp
theorem shpB_false {T : Ty} {v : V} : shpB T v = false ↔ ¬ Shp T v := by unfold shpB; simp
/-- A text's. -/
noncomputable def shpS (s : List UInt8) (v : V) : Bool := match tyOf s with
  | none => false
  | some T => shpB T v
noncomputable def fitS (s : List UInt8) (v : V) : Bool := shpS s v && decide (wt v ≤ 16384)
theorem Shp.kind : ∀ {T : Ty} {v : V}, Shp T v → v.k = kd T
  | .int, v, h => by rw [Shp] at h; exact h.1
  | .bool, v, h => by rw [Shp] at h; exact h.1
  | .text, v, h => by rw [Shp] at h; exact h.1
  | .list T, v, h => by rw [Shp] at h; exact h.1
  | .map k T, v, h => by rw [Shp] at h; exact h.1
theorem Shp.bare : ∀ {T : Ty} {v : V}, Shp T v → bareB v = true
  | .int, v, h => by rw [Shp] at h; simp [bareB, h]
  | .bool, v, h => by rw [Shp] at h; simp [bareB, h.1, h.2.1, h.2.2.1]
  | .text, v, h => by rw [Shp] at h; simp [bareB, h.1, h.2.1, h.2.2.1]
  | .list T, v, h => by rw [Shp] at h; simp [bareB, h.1, h.2.1, h.2.2.1]
  | .map k T, v, h => by rw [Shp] at h; simp [bareB, h.1, h.2.1, h.2.2.1]
theorem shp_int {v : V} (h1 : v.k = 1) (h2 : bareB v = true) : Shp .int v := by
  rw [Shp]; simp [bareB, h1] at h2; exact ⟨h1, h2.1, h2.2⟩
theorem shp_bool {v : V} (h1 : v.k = 2) (h2 : bareB v = true) : Shp .bool v ↔ (v.n = 0 ∨ v.n = 1) := by
  rw [Shp]; simp [bareB, h1] at h2; exact ⟨fun h => h.2.2.2, fun h => ⟨h1, h2.1, h2.2, h⟩⟩
theorem shp_text {v : V} (h1 : v.k = 3) (h2 : bareB v = true) : Shp .text v ↔ v.t.length ≤ 256 := by
  rw [Shp]; simp [bareB, h1] at h2; exact ⟨fun h => h.2.2.2, fun h => ⟨h1, h2.1, h2.2, h⟩⟩
theorem shp_list {T : Ty} {v : V} (h1 : v.k = 4) (h2 : bareB v = true) : Shp (.list T) v ↔ v.l.length ≤ 64 ∧ ∀ x ∈ v.l, Shp T x := by
  rw [Shp]; simp [bareB, h1] at h2; exact ⟨fun h => h.2.2.2, fun h => ⟨h1, h2.1, h2.2, h⟩⟩
theorem shp_map {k : Bool} {T : Ty} {v : V} (h1 : v.k = 5) (h2 : bareB v = true) : Shp (.map k T) v ↔ v.l.length % 2 = 0 ∧ v.l.length ≤ 128 ∧
      (∀ i x, v.l[2 * i]? = some x → KeyS k x) ∧ (∀ i x, v.l[2 * i + 1]? = some x → Shp T x) ∧ (∀ i x y, v.l[2 * i]? = some x → v.l[2 * i + 2]? = some y → cmpV x y < 0) := by
  rw [Shp]; simp [bareB, h1] at h2; exact ⟨fun h => h.2.2.2, fun h => ⟨h1, h2.1, h2.2, h⟩⟩
theorem shpS_ty {T : Ty} (h : T.dp ≤ 4) (v : V) : shpS (tyT T) v = shpB T v := by unfold shpS; rw [tyOf_ty h]
end Go.Proofs.Ytkbplffckkjbfaa
