/- Texts of ours, joined: Vs, Vnm, Vr. -/
import Derived.Test.YtndahpcjkcihlaaG00
import Derived.Test.YtndahpcjkcihlaaProg
import Derived.WalkKit
import Derived.Below
import Derived.WalkSpells
import Derived.WalkLawsBesides
/- Which values a type has. Plain mathematics. -/
namespace Go.Proofs.Ytndahpcjkcihlaa
set_option linter.unusedVariables false
set_option linter.unusedSimpArgs false

def kd : Ty → Int
  | .int => 1 | .bool => 2 | .text => 3 | .list _ => 4 | .map _ _ => 5
def kdOf (s : List UInt8) : Int := match tyOf s with
  | none => 0
  | some T => kd T
/-- The type of a list's elements. -/
def elT (s : List UInt8) : List UInt8 × Bool := match tyOf s with
  | some (.list T) => (tyT T, true)
  | _ => ([], false)
/-- Those of a map's keys and values. -/
def mpT (s : List UInt8) : List UInt8 × List UInt8 × Bool := match tyOf s with
  | some (.map k T) => (keyT k, tyT T, true)
  | _ => ([], [], false)
def keyTy (k : Bool) : Ty := if k then .int else .text
theorem keyTy_T (k : Bool) : tyT (keyTy k) = keyT k := by cases k <;> rfl
theorem keyTy_dp (k : Bool) : (keyTy k).dp = 1 := by cases k <;> rfl
def bareB (v : V) : Bool := ((v.k == 1 || v.k == 2) || v.n == 0) && ((v.k == 3) || v.t == []) && ((v.k == 4 || v.k == 5) || v.l.length == 0)
/-- A key of a map. -/
def KeyS : Bool → V → Prop
  | true, v => v.k = 1 ∧ v.t = [] ∧ v.l = []
  | false, v => v.k = 3 ∧ v.n = 0 ∧ v.l = [] ∧ v.t.length ≤ 256
/-- Is it one of the type, whatever it weighs? -/
def Shp : Ty → V → Prop
  | .int, v => v.k = 1 ∧ v.t = [] ∧ v.l = []
  | .bool, v => v.k = 2 ∧ v.t = [] ∧ v.l = [] ∧ (v.n = 0 ∨ v.n = 1)
  | .text, v => v.k = 3 ∧ v.n = 0 ∧ v.l = [] ∧ v.t.length ≤ 256
  | .list T, v => v.k = 4 ∧ v.n = 0 ∧ v.t = [] ∧ v.l.length ≤ 64 ∧ ∀ x ∈ v.l, Shp T x
  | .map k T, v => v.k = 5 ∧ v.n = 0 ∧ v.t = [] ∧ v.l.length % 2 = 0 ∧ v.l.length ≤ 128 ∧
      (∀ i x, v.l[2 * i]? = some x → KeyS k x) ∧ (∀ i x, v.l[2 * i + 1]? = some x → Shp T x) ∧ (∀ i x y, v.l[2 * i]? = some x → v.l[2 * i + 2]? = some y → cmpV x y < 0)
theorem keyS_shp (k : Bool) (v : V) : KeyS k v ↔ Shp (keyTy k) v := by
  cases k
  · show _ ↔ Shp .text v
    rw [Shp, KeyS]
  · show _ ↔ Shp .int v
    rw [Shp, KeyS]
noncomputable def shpB (T : Ty) (v : V) : Bool := @decide (Shp T v) (Classical.propDecidable _)
theorem shpB_iff {T : Ty} {v : V} : shpB T v = true ↔ Shp T v := by unfold shpB; simp
theorem shpB_false {T : Ty} {v : V} : shpB T v = false ↔ ¬ Shp T v := by unfold shpB; simp
/-- A text's. -/
noncomputable def shpS (s : List UInt8) (v : V) : Bool := match tyOf s with
  | none => false
  | some T => shpB T v
noncomputable def fitS (s : List UInt8) (v : V) : Bool := shpS s v && decide (wt v ≤ 16384)
theorem Shp.kind : ∀ {T : Ty} {v : V}, Shp T v → v.k = kd T
  | .int, v, h => by rw [Shp] at h; exact h.1
  | .bool, v, h => by rw [Shp] at h; exact h.1
  | .text, v, h => by rw [Shp] at h; exact h.1
  | .list T, v, h => by rw [Shp] at h; exact h.1
  | .map k T, v, h => by rw [Shp] at h; exact h.1
theorem Shp.bare : ∀ {T : Ty} {v : V}, Shp T v → bareB v = true
  | .int, v, h => by rw [Shp] at h; simp [bareB, h]
  | .bool, v, h => by rw [Shp] at h; simp [bareB, h.1, h.2.1, h.2.2.1]
  | .text, v, h => by rw [Shp] at h; simp [bareB, h.1, h.2.1, h.2.2.1]
  | .list T, v, h => by rw [Shp] at h; simp [bareB, h.1, h.2.1, h.2.2.1]
  | .map k T, v, h => by rw [Shp] at h; simp [bareB, h.1, h.2.1, h.2.2.1]
theorem shp_int {v : V} (h1 : v.k = 1) (h2 : bareB v = true) : Shp .int v := by
  rw [Shp]; simp [bareB, h1] at h2; exact ⟨h1, h2.1, h2.2⟩
theorem shp_bool {v : V} (h1 : v.k = 2) (h2 : bareB v = true) : Shp .bool v ↔ (v.n = 0 ∨ v.n = 1) := by
  rw [Shp]; simp [bareB, h1] at h2; exact ⟨fun h => h.2.2.2, fun h => ⟨h1, h2.1, h2.2, h⟩⟩
theorem shp_text {v : V} (h1 : v.k = 3) (h2 : bareB v = true) : Shp .text v ↔ v.t.length ≤ 256 := by
  rw [Shp]; simp [bareB, h1] at h2; exact ⟨fun h => h.2.2.2, fun h => ⟨h1, h2.1, h2.2, h⟩⟩
theorem shp_list {T : Ty} {v : V} (h1 : v.k = 4) (h2 : bareB v = true) : Shp (.list T) v ↔ v.l.length ≤ 64 ∧ ∀ x ∈ v.l, Shp T x := by
  rw [Shp]; simp [bareB, h1] at h2; exact ⟨fun h => h.2.2.2, fun h => ⟨h1, h2.1, h2.2, h⟩⟩
theorem shp_map {k : Bool} {T : Ty} {v : V} (h1 : v.k = 5) (h2 : bareB v = true) : Shp (.map k T) v ↔ v.l.length % 2 = 0 ∧ v.l.length ≤ 128 ∧
      (∀ i x, v.l[2 * i]? = some x → KeyS k x) ∧ (∀ i x, v.l[2 * i + 1]? = some x → Shp T x) ∧ (∀ i x y, v.l[2 * i]? = some x → v.l[2 * i + 2]? = some y → cmpV x y < 0) := by
  rw [Shp]; simp [bareB, h1] at h2; exact ⟨fun h => h.2.2.2, fun h => ⟨h1, h2.1, h2.2, h⟩⟩
theorem shpS_ty {T : Ty} (h : T.dp ≤ 4) (v : V) : shpS (tyT T) v = shpB T v := by unfold shpS; rw [tyOf_ty h]
end Go.Proofs.Ytndahpcjkcihlaa
/- Numbers and values as bytes. Plain mathematics. -/
namespace Go.Proofs.Ytndahpcjkcihlaa
set_option linter.unusedVariables false
set_option linter.unusedSimpArgs false

/-- A number's bytes. -/
def num (n : Nat) : List UInt8 := if h : n < 128 then [UInt8.ofNat n] else UInt8.ofNat (n % 128 + 128) :: num (n / 128)
termination_by n
decreasing_by omega
theorem num_lt {n : Nat} (h : n < 128) : num n = [UInt8.ofNat n] := by rw [num, dif_pos h]
theorem num_ge {n : Nat} (h : ¬ n < 128) : num n = UInt8.ofNat (n % 128 + 128) :: num (n / 128) := by rw [num, dif_neg h]
theorem num_len : ∀ (f n : Nat), n < 128 ^ (f + 1) → 1 ≤ (num n).length ∧ (num n).length ≤ f + 1
  | 0, n, h => by rw [num_lt (by omega)]; simp
  | f + 1, n, h => by
    by_cases hn : n < 128
    · rw [num_lt hn]; simp
    · rw [num_ge hn]
      have := num_len f (n / 128) (by rw [Nat.div_lt_iff_lt_mul (by omega)]; rw [Nat.pow_succ] at h; exact h)
      simp; omega
theorem num_len10 {n : Nat} (h : n ≤ 9223372036854775807) : 1 ≤ (num n).length ∧ (num n).length ≤ 9 := by
  refine num_len 8 n ?_
  have : (128 : Nat) ^ (8 + 1) = 9223372036854775808 := by decide
  omega
def nums (xs : List Int) : List UInt8 := xs.flatMap fun x => num x.toNat
mutual
/-- A value's bytes. -/
def enc : V → List UInt8
  | .mk k n t l => (if k = 1 then (if n < 0 then num 1 ++ num (-(n + 1)).toNat else num 0 ++ num n.toNat) else if k = 2 then num n.toNat else if k = 3 then num t.length ++ t else if k = 4 then num l.length else if k = 5 then num (l.length / 2) else []) ++ encs l
def encs : List V → List UInt8
  | [] => []
  | v :: r => enc v ++ encs r
end
/-- What stands ahead of a value's parts. -/
def encH (v : V) : List UInt8 := if v.k = 1 then (if v.n < 0 then num 1 ++ num (-(v.n + 1)).toNat else num 0 ++ num v.n.toNat) else if v.k = 2 then num v.n.toNat else if v.k = 3 then num v.t.length ++ v.t else if v.k = 4 then num v.l.length else if v.k = 5 then num (v.l.length / 2) else []
theorem enc_eq (v : V) : enc v = encH v ++ encs v.l := by cases v; rw [enc]; rfl
theorem encs_append : ∀ a b : List V, encs (a ++ b) = encs a ++ encs b
  | [], b => by simp [encs]
  | x :: r, b => by simp [encs, encs_append r b]
theorem encs_take_succ {l : List V} {i : Nat} {x : V} (h : l[i]? = some x) : encs (l.take (i + 1)) = encs (l.take i) ++ enc x := by
  obtain ⟨hi, rfl⟩ := List.getElem?_eq_some_iff.1 h
  rw [List.take_succ_eq_append_getElem hi, encs_append]; simp [encs]
end Go.Proofs.Ytndahpcjkcihlaa
/- How values lie in memory. -/
namespace Go.Proofs.Ytndahpcjkcihlaa
open Go.RowKit
set_option linter.unusedVariables false
set_option linter.unusedSimpArgs false

abbrev From (n : Nat) : Nat → Prop := fun g => n ≤ g
/-- A slice without elements. -/
def Nil0 (v : Value) : Prop := v = .slice none 0 0 ∨ ∃ a cap, v = .slice (some a) 0 cap ∧ cap ≤ maxLen
/-- A slice of n elements of sz cells each, which are row: none, or in a block of those that B names. -/
def SlRow (B : Nat → Prop) (w : World) (sz : Nat) (v : Value) (n : Nat) (row : List Value) : Prop :=
  row.length = n * sz ∧ ((Nil0 v ∧ n = 0) ∨ ∃ g o cap, v = .slice (some ⟨g, o, none⟩) n cap ∧ n ≤ cap ∧ cap ≤ maxLen ∧ B g ∧ g < w.heap.size ∧ ∀ (j : Nat) (u : Value), row[j]? = some u → w.cell? ⟨g, o + j, none⟩ = some u)
/-- A number of 64 bits. -/
def InR (n : Int) : Prop := -9223372036854775808 ≤ n ∧ n ≤ 9223372036854775807
mutual
/-- The four cells of a value. -/
def IsV (B : Nat → Prop) (w : World) : V → List Value → Prop
  | .mk k n t l, cs => ∃ sl row, cs = [.int .i64 k, .int .i64 n, .string ⟨t.toArray⟩, sl] ∧ t.length ≤ maxLen ∧ InR k ∧ InR n ∧ SlRow B w 4 sl l.length row ∧ AllV B w l row
def AllV (B : Nat → Prop) (w : World) : List V → List Value → Prop
  | [], cs => cs = []
  | e :: r, cs => ∃ c1 c2, cs = c1 ++ c2 ∧ IsV B w e c1 ∧ AllV B w r c2
end
/-- A slice of values. -/
def IsVs (B : Nat → Prop) (w : World) (l : List V) (sl : Value) : Prop := ∃ row, SlRow B w 4 sl l.length row ∧ AllV B w l row
/-- A value whose list is that slice. -/
structure IsW (B : Nat → Prop) (w : World) (v : V) (sl : Value) : Prop where
  txt : v.t.length ≤ maxLen
  kr : InR v.k
  nr : InR v.n
  vs : IsVs B w v.l sl
theorem isV_iff {B : Nat → Prop} {w : World} {v : V} {cs : List Value} : IsV B w v cs ↔ ∃ sl, cs = [.int .i64 v.k, .int .i64 v.n, .string ⟨v.t.toArray⟩, sl] ∧ IsW B w v sl := by
  obtain ⟨k, n, t, l⟩ := v
  rw [IsV]
  constructor
  · rintro ⟨sl, row, h1, h2, h3, h4, h5, h6⟩
    exact ⟨sl, h1, h2, h3, h4, row, h5, h6⟩
  · rintro ⟨sl, h1, h2, h3, h4, row, h5, h6⟩
    exact ⟨sl, row, h1, h2, h3, h4, h5, h6⟩
/-- The blocks that B names are as they were. -/
structure Since (B : Nat → Prop) (w w' : World) : Prop where
  size : w.heap.size ≤ w'.heap.size
  block : ∀ k, B k → k < w.heap.size → w'.heap[k]? = w.heap[k]?
theorem Since.refl (B : Nat → Prop) (w : World) : Since B w w := ⟨Nat.le_refl _, fun _ _ _ => rfl⟩
theorem Since.trans {B : Nat → Prop} {w w1 w2 : World} (a : Since B w w1) (b : Since B w1 w2) : Since B w w2 := ⟨Nat.le_trans a.size b.size, fun k h1 h2 => (b.block k h1 (by have := a.size; omega)).trans (a.block k h1 h2)⟩
theorem Since.of_below {B : Nat → Prop} {w w' : World} (h : Below w.heap.size w w') : Since B w w' := ⟨h.size, fun k _ h2 => h.block k h2⟩
theorem Since.drewN (B : Nat → Prop) (w : World) (n : Nat) : Since B w (w.drewN n) := ⟨Nat.le_refl _, fun _ _ _ => rfl⟩
theorem Since.mono {B B' : Nat → Prop} {w w' : World} (h : Since B w w') (hb : ∀ k, B' k → B k) : Since B' w w' := ⟨h.size, fun k h1 h2 => h.block k (hb k h1) h2⟩
theorem SlRow.since {B : Nat → Prop} {w w' : World} {sz : Nat} {v : Value} {n : Nat} {row : List Value} (h : SlRow B w sz v n row) (s : Since B w w') : SlRow B w' sz v n row := by
  obtain ⟨h1, h2⟩ := h
  refine ⟨h1, ?_⟩
  rcases h2 with h2 | ⟨g, o, cap, hv, hc, hm, hB, hg, hcell⟩
  · exact Or.inl h2
  · refine Or.inr ⟨g, o, cap, hv, hc, hm, hB, by have := s.size; omega, fun j u hj => ?_⟩
    rw [World.cell?_of_block (w := w) (s.block g hB hg)]
    exact hcell j u hj
theorem SlRow.base {B B' : Nat → Prop} {w : World} {sz : Nat} {v : Value} {n : Nat} {row : List Value} (h : SlRow B w sz v n row) (hb : ∀ k, B k → k < w.heap.size → B' k) : SlRow B' w sz v n row := by
  obtain ⟨h1, h2⟩ := h
  refine ⟨h1, ?_⟩
  rcases h2 with h2 | ⟨g, o, cap, hv, hc, hm, hB, hg, r⟩
  · exact Or.inl h2
  · exact Or.inr ⟨g, o, cap, hv, hc, hm, hb _ hB hg, hg, r⟩
mutual
theorem IsV.since {B : Nat → Prop} {w w' : World} (s : Since B w w') : ∀ {e : V} {cs : List Value}, IsV B w e cs → IsV B w' e cs
  | .mk k n t l, cs, h => by
    rw [IsV] at h ⊢
    obtain ⟨sl, row, hc, h1, h2, h3, hr, ha⟩ := h
    exact ⟨sl, row, hc, h1, h2, h3, hr.since s, AllV.since s ha⟩
theorem AllV.since {B : Nat → Prop} {w w' : World} (s : Since B w w') : ∀ {l : List V} {cs : List Value}, AllV B w l cs → AllV B w' l cs
  | [], cs, h => by rw [AllV] at h ⊢; exact h
  | e :: r, cs, h => by
    rw [AllV] at h ⊢
    obtain ⟨c1, c2, hc, h1, h2⟩ := h
    exact ⟨c1, c2, hc, IsV.since s h1, AllV.since s h2⟩
end
mutual
theorem IsV.base {B B' : Nat → Prop} {w : World} (hb : ∀ k, B k → k < w.heap.size → B' k) : ∀ {e : V} {cs : List Value}, IsV B w e cs → IsV B' w e cs
  | .mk k n t l, cs, h => by
    rw [IsV] at h ⊢
    obtain ⟨sl, row, hc, h1, h2, h3, hr, ha⟩ := h
    exact ⟨sl, row, hc, h1, h2, h3, hr.base hb, AllV.base hb ha⟩
theorem AllV.base {B B' : Nat → Prop} {w : World} (hb : ∀ k, B k → k < w.heap.size → B' k) : ∀ {l : List V} {cs : List Value}, AllV B w l cs → AllV B' w l cs
  | [], cs, h => by rw [AllV] at h ⊢; exact h
  | e :: r, cs, h => by
    rw [AllV] at h ⊢
    obtain ⟨c1, c2, hc, h1, h2⟩ := h
    exact ⟨c1, c2, hc, IsV.base hb h1, AllV.base hb h2⟩
end
theorem IsVs.since {B : Nat → Prop} {w w' : World} {l : List V} {sl : Value} (h : IsVs B w l sl) (s : Since B w w') : IsVs B w' l sl := by
  obtain ⟨row, h1, h2⟩ := h
  exact ⟨row, h1.since s, h2.since s⟩
theorem IsVs.below {B : Nat → Prop} {w w' : World} {l : List V} {sl : Value} (h : IsVs B w l sl) (s : Below w.heap.size w w') : IsVs B w' l sl := h.since (Since.of_below s)
theorem IsVs.base {B B' : Nat → Prop} {w : World} {l : List V} {sl : Value} (h : IsVs B w l sl) (hb : ∀ k, B k → k < w.heap.size → B' k) : IsVs B' w l sl := by
  obtain ⟨row, h1, h2⟩ := h
  exact ⟨row, h1.base hb, h2.base hb⟩
theorem IsW.since {B : Nat → Prop} {w w' : World} {v : V} {sl : Value} (h : IsW B w v sl) (s : Since B w w') : IsW B w' v sl := ⟨h.txt, h.kr, h.nr, h.vs.since s⟩
theorem IsW.below {B : Nat → Prop} {w w' : World} {v : V} {sl : Value} (h : IsW B w v sl) (s : Below w.heap.size w w') : IsW B w' v sl := h.since (Since.of_below s)
theorem IsW.base {B B' : Nat → Prop} {w : World} {v : V} {sl : Value} (h : IsW B w v sl) (hb : ∀ k, B k → k < w.heap.size → B' k) : IsW B' w v sl := ⟨h.txt, h.kr, h.nr, h.vs.base hb⟩
theorem IsV.len {B : Nat → Prop} {w : World} {e : V} {cs : List Value} (h : IsV B w e cs) : cs.length = 4 := by
  obtain ⟨sl, rfl, _⟩ := isV_iff.1 h; rfl
theorem AllV.get {B : Nat → Prop} {w : World} : ∀ {l : List V} {row : List Value} {i : Nat} {e : V}, AllV B w l row → l[i]? = some e → ∃ cs, IsV B w e cs ∧ ∀ j, j < 4 → row[i * 4 + j]? = cs[j]?
  | [], row, i, e, h, hi => by simp at hi
  | a :: r, row, 0, e, h, hi => by
    rw [AllV] at h
    obtain ⟨c1, c2, hc, h1, h2⟩ := h
    simp at hi; subst hi
    exact ⟨c1, h1, fun j hj => by rw [hc, List.getElem?_append_left (by have := h1.len; omega)]; simp⟩
  | a :: r, row, i + 1, e, h, hi => by
    rw [AllV] at h
    obtain ⟨c1, c2, hc, h1, h2⟩ := h
    obtain ⟨cs, k1, k2⟩ := AllV.get h2 (by simpa using hi)
    refine ⟨cs, k1, fun j hj => ?_⟩
    have := h1.len
    rw [hc, List.getElem?_append_right (by omega), ← k2 j hj]
    congr 1
    omega
theorem AllV.append {B : Nat → Prop} {w : World} : ∀ {l m : List V} {row row' : List Value}, AllV B w l row → AllV B w m row' → AllV B w (l ++ m) (row ++ row')
  | [], m, row, row', h, he => by
    rw [AllV] at h; subst h; exact he
  | a :: r, m, row, row', h, he => by
    rw [AllV] at h
    obtain ⟨c1, c2, hc, h1, h2⟩ := h
    rw [List.cons_append, AllV]
    exact ⟨c1, c2 ++ row', by rw [hc]; simp, h1, AllV.append h2 he⟩
theorem AllV.one {B : Nat → Prop} {w : World} {e : V} {cs : List Value} (h : IsV B w e cs) : AllV B w [e] cs := by
  rw [AllV]; exact ⟨cs, [], by simp, h, by rw [AllV]⟩
theorem AllV.split {B : Nat → Prop} {w : World} : ∀ {l m : List V} {row : List Value}, AllV B w (l ++ m) row → ∃ r1 r2, row = r1 ++ r2 ∧ AllV B w l r1 ∧ AllV B w m r2
  | [], m, row, h => ⟨[], row, rfl, by rw [AllV], h⟩
  | a :: r, m, row, h => by
    rw [List.cons_append, AllV] at h
    obtain ⟨c1, c2, hc, h1, h2⟩ := h
    obtain ⟨r1, r2, e, k1, k2⟩ := AllV.split h2
    refine ⟨c1 ++ r1, r2, by rw [hc, e]; simp, ?_, k2⟩
    rw [AllV]; exact ⟨c1, r1, rfl, h1, k1⟩
theorem AllV.len {B : Nat → Prop} {w : World} : ∀ {l : List V} {row : List Value}, AllV B w l row → row.length = l.length * 4
  | [], row, h => by rw [AllV] at h; subst h; rfl
  | a :: r, row, h => by
    rw [AllV] at h
    obtain ⟨c1, c2, hc, h1, h2⟩ := h
    have := h1.len; have := AllV.len h2
    rw [hc]; simp; omega
theorem SlRow.slice {B : Nat → Prop} {w : World} {sz : Nat} {v : Value} {n : Nat} {row : List Value} (h : SlRow B w sz v n row) : ∃ ao cap, v = .slice ao n cap ∧ n ≤ cap ∧ cap ≤ maxLen := by
  rcases h.2 with ⟨h1 | ⟨a, cap, h1, h2⟩, h0⟩ | ⟨g, o, cap, h1, h2, h3, _⟩
  · exact ⟨none, 0, by rw [h1, h0], by omega, by unfold maxLen; omega⟩
  · exact ⟨some a, cap, by rw [h1, h0], by omega, h2⟩
  · exact ⟨_, cap, h1, h2, h3⟩
theorem IsVs.slice {B : Nat → Prop} {w : World} {l : List V} {sl : Value} (h : IsVs B w l sl) : ∃ ao cap, sl = .slice ao l.length cap ∧ l.length ≤ cap ∧ cap ≤ 9223372036854775807 := by
  obtain ⟨row, h1, _⟩ := h
  obtain ⟨ao, cap, e, a, b⟩ := h1.slice
  exact ⟨ao, cap, e, a, by unfold maxLen at b; omega⟩
theorem IsVs.nil {B : Nat → Prop} {w : World} : IsVs B w [] (.slice none 0 0) := ⟨[], ⟨rfl, Or.inl ⟨Or.inl rfl, rfl⟩⟩, by rw [AllV]⟩
/-- One element's cells. -/
theorem IsVs.get {B : Nat → Prop} {w : World} {l : List V} {ao : Option Addr} {n cap : Nat} {i : Nat} {x : V} (h : IsVs B w l (.slice ao n cap)) (hi : l[i]? = some x) :
    ∃ g o ax cx, ao = some ⟨g, o, none⟩ ∧ B g ∧ g < w.heap.size ∧ w.cell? ⟨g, o + i * 4, none⟩ = some (.int .i64 x.k) ∧ w.cell? ⟨g, o + i * 4 + 1, none⟩ = some (.int .i64 x.n) ∧ w.cell? ⟨g, o + i * 4 + 2, none⟩ = some (.string ⟨x.t.toArray⟩) ∧ w.cell? ⟨g, o + i * 4 + 3, none⟩ = some (.slice ax x.l.length cx) ∧ IsW B w x (.slice ax x.l.length cx) := by
  obtain ⟨row, ⟨h1, h2⟩, h3⟩ := h
  obtain ⟨cs, k1, k2⟩ := h3.get hi
  obtain ⟨sx, rfl, hx⟩ := isV_iff.1 k1
  obtain ⟨ax, cx, rfl, _, _⟩ := hx.vs.slice
  have hl : i < l.length := (List.getElem?_eq_some_iff.1 hi).1
  rcases h2 with ⟨_, h0⟩ | ⟨g, o, cap', e, _, _, hB, hg, hc⟩
  · omega
  · simp only [Value.slice.injEq] at e
    obtain ⟨rfl, _, _⟩ := e
    refine ⟨g, o, ax, cx, rfl, hB, hg, hc (i * 4) _ (k2 0 (by omega)), ?_, ?_, ?_, hx⟩
    · rw [Nat.add_assoc]; exact hc (i * 4 + 1) _ (k2 1 (by omega))
    · rw [Nat.add_assoc]; exact hc (i * 4 + 2) _ (k2 2 (by omega))
    · rw [Nat.add_assoc]; exact hc (i * 4 + 3) _ (k2 3 (by omega))
theorem heap_new (w : World) (o : Obj) : (w.alloc o).heap[w.heap.size]? = some o := by
  show (w.heap.push _)[w.heap.size]? = _
  rw [Array.getElem?_push, if_pos rfl]
theorem cells_of4 {w : World} {g : Nat} {y0 y1 y2 y3 : Value} {T : TypeId} (h : w.heap[g]? = some (.cells #[y0, y1, y2, y3] T (0, 0))) : w.cell? ⟨g, 0, none⟩ = some y0 ∧ w.cell? ⟨g, 1, none⟩ = some y1 ∧ w.cell? ⟨g, 2, none⟩ = some y2 ∧ w.cell? ⟨g, 3, none⟩ = some y3 ∧ w.frozen? ⟨g, 0, none⟩ = false ∧ w.frozen? ⟨g, 1, none⟩ = false ∧ w.frozen? ⟨g, 2, none⟩ = false ∧ w.frozen? ⟨g, 3, none⟩ = false := by
  refine ⟨?_, ?_, ?_, ?_, ?_, ?_, ?_, ?_⟩
  all_goals first | simp [World.cell?, h] | simp [World.frozen?, h]
theorem cell_of_one {w : World} {g : Nat} {y : Value} {T : TypeId} (h : w.heap[g]? = some (.cells #[y] T (0, 0))) : w.cell? ⟨g, 0, none⟩ = some y := by simp [World.cell?, h]
theorem bcell {W w1 : World} (hb : Below W.heap.size W w1) : (∀ b o, b < W.heap.size → w1.cell? ⟨b, o, none⟩ = W.cell? ⟨b, o, none⟩) ∧ (∀ b o, b < W.heap.size → w1.frozen? ⟨b, o, none⟩ = W.frozen? ⟨b, o, none⟩) :=
  ⟨fun b o h => hb.cell (p := ⟨b, o, none⟩) h, fun b o h => hb.frozen (p := ⟨b, o, none⟩) h⟩
/-- The box that a parameter is put into. -/
theorem boxed (w : World) (v : V) (sl : Value) : ∃ w0, w.alloc (.cells #[.int .i64 v.k, .int .i64 v.n, .string ⟨v.t.toArray⟩, sl] 29) = w0 ∧ Below w.heap.size w w0 ∧ w0.heap.size = w.heap.size + 1 ∧ w0.cell? ⟨w.heap.size, 0, none⟩ = some (.int .i64 v.k) ∧ w0.cell? ⟨w.heap.size, 1, none⟩ = some (.int .i64 v.n) ∧ w0.cell? ⟨w.heap.size, 2, none⟩ = some (.string ⟨v.t.toArray⟩) ∧ w0.cell? ⟨w.heap.size, 3, none⟩ = some sl := by
  obtain ⟨h0, h1, h2, h3, _⟩ := cells_of4 (heap_new w (.cells #[.int .i64 v.k, .int .i64 v.n, .string ⟨v.t.toArray⟩, sl] 29))
  exact ⟨_, rfl, (Below.refl _ _).alloc (Nat.le_refl _) _, by simp, h0, h1, h2, h3⟩
theorem boxed2 (w : World) (a : V) (sa : Value) (b : V) (sb : Value) : ∃ w0 w1, w.alloc (.cells #[.int .i64 a.k, .int .i64 a.n, .string ⟨a.t.toArray⟩, sa] 29) = w0 ∧ w0.alloc (.cells #[.int .i64 b.k, .int .i64 b.n, .string ⟨b.t.toArray⟩, sb] 29) = w1 ∧ w0.heap.size = w.heap.size + 1 ∧ w1.heap.size = w.heap.size + 2 ∧ Below w.heap.size w w1 ∧
    w1.cell? ⟨w.heap.size, 0, none⟩ = some (.int .i64 a.k) ∧ w1.cell? ⟨w.heap.size, 1, none⟩ = some (.int .i64 a.n) ∧ w1.cell? ⟨w.heap.size, 2, none⟩ = some (.string ⟨a.t.toArray⟩) ∧ w1.cell? ⟨w.heap.size, 3, none⟩ = some sa ∧
    w1.cell? ⟨w.heap.size + 1, 0, none⟩ = some (.int .i64 b.k) ∧ w1.cell? ⟨w.heap.size + 1, 1, none⟩ = some (.int .i64 b.n) ∧ w1.cell? ⟨w.heap.size + 1, 2, none⟩ = some (.string ⟨b.t.toArray⟩) ∧ w1.cell? ⟨w.heap.size + 1, 3, none⟩ = some sb := by
  obtain ⟨w0, hW, hb0, hsz, d0, d1, d2, d3⟩ := boxed w a sa
  obtain ⟨w1, hW1, hb1, hsz1, e0, e1, e2, e3⟩ := boxed w0 b sb
  obtain ⟨f1, -⟩ := bcell hb1
  rw [← f1 w.heap.size _ (by omega)] at d0 d1 d2 d3
  rw [hsz] at e0 e1 e2 e3
  exact ⟨w0, w1, hW, hW1, hsz, by omega, hb0.trans (hb1.mono (by omega)), d0, d1, d2, d3, e0, e1, e2, e3⟩
theorem wt_eq (v : V) : wt v = 1 + v.t.length + wts v.l := by cases v; rw [wt]; rfl
theorem below_undrew {w w' : World} (h : Below w.drew.heap.size w.drew w') : Below w.heap.size w w' := ((Below.refl w.heap.size w).drew).trans h
theorem below_undrewN {w w' : World} {n : Nat} (h : Below (w.drewN n).heap.size (w.drewN n) w') : Below w.heap.size w w' := Below.trans (b := w.drewN n) ⟨rfl, rfl, rfl, Nat.le_refl _, fun _ _ => rfl⟩ h
theorem below_drewN (w : World) (n : Nat) : Below w.heap.size w (w.drewN n) := ⟨rfl, rfl, rfl, Nat.le_refl _, fun _ _ => rfl⟩
/-- The box for a value that is answered. -/
theorem rbox (w : World) : ∃ w0, w.alloc (.cells #[.int .i64 0, .int .i64 0, .string ⟨#[]⟩, .slice none 0 0] 29) = w0 ∧ Below w.heap.size w w0 ∧ w0.heap.size = w.heap.size + 1 ∧
    ∀ w3, Below w0.heap.size w0 w3 → w3.cell? ⟨w.heap.size, 0, none⟩ = some (.int .i64 0) ∧ w3.cell? ⟨w.heap.size, 1, none⟩ = some (.int .i64 0) ∧ w3.cell? ⟨w.heap.size, 2, none⟩ = some (.string ⟨#[]⟩) ∧ w3.cell? ⟨w.heap.size, 3, none⟩ = some (.slice none 0 0) ∧
      w3.frozen? ⟨w.heap.size, 0, none⟩ = false ∧ w3.frozen? ⟨w.heap.size, 1, none⟩ = false ∧ w3.frozen? ⟨w.heap.size, 2, none⟩ = false ∧ w3.frozen? ⟨w.heap.size, 3, none⟩ = false ∧ w.heap.size < w3.heap.size := by
  obtain ⟨h0, h1, h2, h3, f0, f1, f2, f3⟩ := cells_of4 (heap_new w (.cells #[.int .i64 0, .int .i64 0, .string ⟨#[]⟩, .slice none 0 0] 29))
  refine ⟨_, rfl, (Below.refl _ _).alloc (Nat.le_refl _) _, by simp, fun w3 hb => ?_⟩
  obtain ⟨c, f⟩ := bcell hb
  have hz : w.heap.size < (w.alloc (.cells #[.int .i64 0, .int .i64 0, .string ⟨#[]⟩, .slice none 0 0] 29)).heap.size := by simp
  have hs := hb.size
  exact ⟨by rw [c _ _ hz]; exact h0, by rw [c _ _ hz]; exact h1, by rw [c _ _ hz]; exact h2, by rw [c _ _ hz]; exact h3, by rw [f _ _ hz]; exact f0, by rw [f _ _ hz]; exact f1, by rw [f _ _ hz]; exact f2, by rw [f _ _ hz]; exact f3, by omega⟩
abbrev set4 (w : World) (g : Nat) (x0 x1 x2 x3 : Value) : World := (((w.setCell ⟨g, 0, none⟩ x0).setCell ⟨g, 1, none⟩ x1).setCell ⟨g, 2, none⟩ x2).setCell ⟨g, 3, none⟩ x3
theorem below_set4 {n : Nat} {w w' : World} (h : Below n w w') {g : Nat} (hg : n ≤ g) (x0 x1 x2 x3 : Value) : Below n w (set4 w' g x0 x1 x2 x3) := ((((h.setCell (p := ⟨g, 0, none⟩) hg x0).setCell (p := ⟨g, 1, none⟩) hg x1).setCell (p := ⟨g, 2, none⟩) hg x2).setCell (p := ⟨g, 3, none⟩) hg x3)
theorem set4_other {w : World} {g k : Nat} (hk : k ≠ g) (x0 x1 x2 x3 : Value) : (set4 w g x0 x1 x2 x3).heap[k]? = w.heap[k]? := by
  simp only [set4]
  rw [Below.heap_setCell _ _ _ _ hk, Below.heap_setCell _ _ _ _ hk, Below.heap_setCell _ _ _ _ hk, Below.heap_setCell _ _ _ _ hk]
theorem set4_size (w : World) (g : Nat) (x0 x1 x2 x3 : Value) : (set4 w g x0 x1 x2 x3).heap.size = w.heap.size := by simp [set4, World.setCell]
theorem since_set4 {w : World} {g : Nat} {B : Nat → Prop} (hg : ¬ B g) (x0 x1 x2 x3 : Value) : Since B w (set4 w g x0 x1 x2 x3) := ⟨by rw [set4_size]; exact Nat.le_refl _, fun k h1 _ => set4_other (fun e => hg (by rw [← e]; exact h1)) x0 x1 x2 x3⟩
theorem ret_int {k : IntKind} {a b : Int} (h : a = b) : Ending.returned (.int k a) = .returned (.int k b) := by rw [h]
theorem ret_bool {a b : Bool} (h : a = b) : Ending.returned (.bool a) = .returned (.bool b) := by rw [h]
end Go.Proofs.Ytndahpcjkcihlaa
