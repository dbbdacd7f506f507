/- Texts of ours, joined: Vx, Vr. -/
import Derived.Lib.Bytealg
import Derived.Lib.Small
import Derived.Test.YtnijcolomoobnaaGreatDoorProg
import Derived.WalkKit
import Derived.Below
import Derived.WalkSpells
import Derived.WalkLawsBesides
namespace Go.Proofs.YtnijcolomoobnaaGreatDoor
set_option linter.unusedVariables false
set_option linter.unusedSimpArgs false

inductive V where
  | mk (k n : Int) (t : List UInt8) (l : List V)
namespace V
def k : V → Int | .mk k _ _ _ => k
def n : V → Int | .mk _ n _ _ => n
def t : V → List UInt8 | .mk _ _ t _ => t
def l : V → List V | .mk _ _ _ l => l
def zero : V := .mk 0 0 [] []
end V
mutual
def wt : V → Nat | .mk _ _ t l => 1 + t.length + wts l
def wts : List V → Nat | [] => 0 | v :: r => wt v + wts r
end
def lx2 (c d : Int) : Int := if c = 0 then d else c
mutual
def cmpV : V → V → Int
  | .mk k n t l, .mk k' n' t' l' => lx2 (Lib.compareInt k k') (lx2 (Lib.compareInt n n') (lx2 (Lib.compareBytes t t') (cmpVs l l')))
def cmpVs : List V → List V → Int
  | [], [] => 0
  | [], _ :: _ => -1
  | _ :: _, [] => 1
  | a :: r, b :: s => lx2 (cmpV a b) (cmpVs r s)
end
def Sg (c : Int) : Prop := c = -1 ∨ c = 0 ∨ c = 1
theorem bytes_sg : ∀ a b : List UInt8, Sg (Lib.compareBytes a b)
  | [], [] => by simp [Lib.compareBytes, Sg]
  | [], _ :: _ => by simp [Lib.compareBytes, Sg]
  | _ :: _, [] => by simp [Lib.compareBytes, Sg]
  | a :: r, b :: s => by
    rw [Lib.compareBytes]
    split
    · simp [Sg]
    · split
      · simp [Sg]
      · exact bytes_sg r s
theorem lx2_neg {c d c' d' : Int} (h1 : c = -c') (h2 : d = -d') : lx2 c d = - lx2 c' d' := by
  unfold lx2; split <;> split <;> omega
theorem int_neg (a b : Int) : Lib.compareInt a b = - Lib.compareInt b a := by unfold Lib.compareInt; repeat' split <;> omega
theorem bytes_neg : ∀ a b : List UInt8, Lib.compareBytes a b = - Lib.compareBytes b a
  | [], [] => by simp [Lib.compareBytes]
  | [], _ :: _ => by simp [Lib.compareBytes]
  | _ :: _, [] => by simp [Lib.compareBytes]
  | a :: r, b :: s => by
    rw [Lib.compareBytes, Lib.compareBytes]
    by_cases h1 : a < b
    · have h2 : ¬ b < a := by rw [UInt8.lt_iff_toNat_lt] at *; omega
      rw [if_pos h1, if_neg h2, if_pos h1]
    · by_cases h2 : b < a
      · rw [if_neg h1, if_pos h2, if_pos h2]; rfl
      · rw [if_neg h1, if_neg h2, if_neg h2, if_neg h1]; exact bytes_neg r s
mutual
theorem cmpV_neg : ∀ a b : V, cmpV a b = - cmpV b a
  | .mk k n t l, .mk k' n' t' l' => by
    rw [cmpV, cmpV]; exact lx2_neg (int_neg _ _) (lx2_neg (int_neg _ _) (lx2_neg (bytes_neg _ _) (cmpVs_neg _ _)))
theorem cmpVs_neg : ∀ a b : List V, cmpVs a b = - cmpVs b a
  | [], [] => by simp [cmpVs]
  | [], _ :: _ => by simp [cmpVs]
  | _ :: _, [] => by simp [cmpVs]
  | a :: r, b :: s => by rw [cmpVs, cmpVs]; exact lx2_neg (cmpV_neg a b) (cmpVs_neg r s)
end
theorem lx2_zero {c d : Int} : lx2 c d = 0 ↔ c = 0 ∧ d = 0 := by unfold lx2; split <;> omega
theorem int_zero (a b : Int) : Lib.compareInt a b = 0 ↔ a = b := by unfold Lib.compareInt; repeat' split <;> omega
theorem bytes_zero : ∀ a b : List UInt8, Lib.compareBytes a b = 0 ↔ a = b
  | [], [] => by simp [Lib.compareBytes]
  | [], _ :: _ => by simp [Lib.compareBytes]
  | _ :: _, [] => by simp [Lib.compareBytes]
  | a :: r, b :: s => by
    rw [Lib.compareBytes]
    by_cases h1 : a < b
    · rw [if_pos h1]
      have : a ≠ b := by rintro rfl; rw [UInt8.lt_iff_toNat_lt] at h1; omega
      simp [this]
    · by_cases h2 : b < a
      · rw [if_neg h1, if_pos h2]
        have : a ≠ b := by rintro rfl; rw [UInt8.lt_iff_toNat_lt] at h2; omega
        simp [this]
      · rw [if_neg h1, if_neg h2]
        have : a = b := by rw [UInt8.lt_iff_toNat_lt] at h1 h2; exact UInt8.toNat_inj.mp (by omega)
        subst this
        rw [bytes_zero r s]
        simp
mutual
theorem cmpV_zero : ∀ a b : V, cmpV a b = 0 ↔ a = b
  | .mk k n t l, .mk k' n' t' l' => by
    rw [cmpV, lx2_zero, lx2_zero, lx2_zero, int_zero, int_zero, bytes_zero, cmpVs_zero]; simp
theorem cmpVs_zero : ∀ a b : List V, cmpVs a b = 0 ↔ a = b
  | [], [] => by simp [cmpVs]
  | [], _ :: _ => by simp [cmpVs]
  | _ :: _, [] => by simp [cmpVs]
  | a :: r, b :: s => by rw [cmpVs, lx2_zero, cmpV_zero, cmpVs_zero]; simp
end
theorem cmpV_self (a : V) : cmpV a a = 0 := (cmpV_zero a a).2 rfl
def Tri (x y z : Int) : Prop := x ≤ 0 → y ≤ 0 → z ≤ 0 ∧ (z = 0 → x = 0 ∧ y = 0)
theorem lx2_tri {x y z x' y' z' : Int} (h1 : Tri x y z) (h2 : Tri x' y' z') : Tri (lx2 x x') (lx2 y y') (lx2 z z') := by
  unfold Tri lx2 at *
  intro hx hy
  have hx1 : x ≤ 0 := by split at hx <;> omega
  have hy1 : y ≤ 0 := by split at hy <;> omega
  have h := h1 hx1 hy1
  by_cases hz : z = 0
  · obtain ⟨hx0, hy0⟩ := h.2 hz
    rw [if_pos hx0] at hx ⊢
    rw [if_pos hy0] at hy ⊢
    rw [if_pos hz]
    exact h2 hx hy
  · rw [if_neg hz]
    exact ⟨h.1, fun e => absurd e hz⟩
theorem int_tri (a b c : Int) : Tri (Lib.compareInt a b) (Lib.compareInt b c) (Lib.compareInt a c) := by
  unfold Tri Lib.compareInt; repeat' split <;> omega
theorem bytes_tri : ∀ a b c : List UInt8, Tri (Lib.compareBytes a b) (Lib.compareBytes b c) (Lib.compareBytes a c)
  | [], [], [] => by simp [Lib.compareBytes, Tri]
  | [], [], _ :: _ => by simp [Lib.compareBytes, Tri]
  | [], _ :: _, [] => by simp [Lib.compareBytes, Tri]
  | [], b :: s, c :: u => by
    intro h1 h2
    simp [Lib.compareBytes]
  | _ :: _, [], _ => by intro h1; simp [Lib.compareBytes] at h1
  | _ :: _, _ :: _, [] => by intro h1 h2; simp [Lib.compareBytes] at h2
  | a :: r, b :: s, c :: u => by
    have ih := bytes_tri r s u
    unfold Tri at *
    simp only [Lib.compareBytes, UInt8.lt_iff_toNat_lt]
    repeat' split <;> omega
mutual
theorem cmpV_tri : ∀ a b c : V, Tri (cmpV a b) (cmpV b c) (cmpV a c)
  | .mk k n t l, .mk k' n' t' l', .mk k2 n2 t2 l2 => by
    rw [cmpV, cmpV, cmpV]
    exact lx2_tri (int_tri _ _ _) (lx2_tri (int_tri _ _ _) (lx2_tri (bytes_tri _ _ _) (cmpVs_tri _ _ _)))
theorem cmpVs_tri : ∀ a b c : List V, Tri (cmpVs a b) (cmpVs b c) (cmpVs a c)
  | [], [], [] => by simp [cmpVs, Tri]
  | [], [], _ :: _ => by simp [cmpVs, Tri]
  | [], _ :: _, [] => by simp [cmpVs, Tri]
  | [], _ :: _, _ :: _ => by intro h1 h2; simp [cmpVs]
  | _ :: _, [], _ => by intro h1; simp [cmpVs] at h1
  | _ :: _, _ :: _, [] => by intro h1 h2; simp [cmpVs] at h2
  | a :: r, b :: s, c :: u => by rw [cmpVs, cmpVs, cmpVs]; exact lx2_tri (cmpV_tri a b c) (cmpVs_tri r s u)
end
theorem cmpV_lt_trans {a b c : V} (h1 : cmpV a b < 0) (h2 : cmpV b c < 0) : cmpV a c < 0 := by
  have := cmpV_tri a b c (by omega) (by omega); omega
theorem wt_pos : ∀ v : V, 1 ≤ wt v
  | .mk _ _ _ _ => by rw [wt]; omega
theorem wts_mem : ∀ {l : List V} {x : V}, x ∈ l → wt x ≤ wts l
  | a :: r, x, h => by
    rw [wts]
    rcases List.mem_cons.1 h with rfl | h
    · omega
    · have := wts_mem h; omega
theorem wts_get {l : List V} {i : Nat} {x : V} (h : l[i]? = some x) : wt x ≤ wts l := wts_mem (List.mem_of_getElem? h)
theorem wts_len : ∀ l : List V, l.length ≤ wts l
  | [] => by simp [wts]
  | a :: r => by rw [wts]; have := wts_len r; have := wt_pos a; simp; omega
theorem wts_append : ∀ a b : List V, wts (a ++ b) = wts a + wts b
  | [], b => by simp [wts]
  | x :: r, b => by rw [List.cons_append, wts, wts, wts_append r b]; omega
theorem wts_take_succ {l : List V} {i : Nat} {x : V} (h : l[i]? = some x) : wts (l.take (i + 1)) = wts (l.take i) + wt x := by
  obtain ⟨hi, rfl⟩ := List.getElem?_eq_some_iff.1 h
  rw [List.take_succ_eq_append_getElem hi, wts_append]; simp [wts]
theorem wts_take_le (l : List V) (i : Nat) : wts (l.take i) ≤ wts l := by
  have := wts_append (l.take i) (l.drop i)
  rw [List.take_append_drop] at this; omega
theorem wt_mk (k n : Int) (t : List UInt8) (l : List V) : wt (.mk k n t l) = 1 + t.length + wts l := by rw [wt]
theorem cmpVs_drop {a b : List V} {i : Nat} {x y : V} (hx : a[i]? = some x) (hy : b[i]? = some y) : cmpVs (a.drop i) (b.drop i) = lx2 (cmpV x y) (cmpVs (a.drop (i + 1)) (b.drop (i + 1))) := by
  obtain ⟨hi, rfl⟩ := List.getElem?_eq_some_iff.1 hx
  obtain ⟨hj, rfl⟩ := List.getElem?_eq_some_iff.1 hy
  rw [List.drop_eq_getElem_cons hi, List.drop_eq_getElem_cons hj, cmpVs]
theorem cmpVs_end {a b : List V} {i : Nat} (h : a.length ≤ i ∨ b.length ≤ i) (ha : i ≤ a.length) (hb : i ≤ b.length) : cmpVs (a.drop i) (b.drop i) = if a.length < b.length then -1 else if b.length < a.length then 1 else 0 := by
  rcases ha' : a.drop i with _ | ⟨x, r⟩ <;> rcases hb' : b.drop i with _ | ⟨y, s⟩
  · have h1 := congrArg List.length ha'; have h2 := congrArg List.length hb'
    simp at h1 h2
    rw [if_neg (by omega), if_neg (by omega)]; rfl
  · have h1 := congrArg List.length ha'; have h2 := congrArg List.length hb'
    simp at h1 h2
    rw [if_pos (by omega)]; rfl
  · have h1 := congrArg List.length ha'; have h2 := congrArg List.length hb'
    simp at h1 h2
    rw [if_neg (by omega), if_pos (by omega)]; rfl
  · have h1 := congrArg List.length ha'; have h2 := congrArg List.length hb'
    simp at h1 h2
    omega
end Go.Proofs.YtnijcolomoobnaaGreatDoor
namespace Go.Proofs.YtnijcolomoobnaaGreatDoor
open Go.RowKit
set_option linter.unusedVariables false
set_option linter.unusedSimpArgs false

abbrev From (n : Nat) : Nat → Prop := fun g => n ≤ g
def Nil0 (v : Value) : Prop := v = .slice none 0 0 ∨ ∃ a cap, v = .slice (some a) 0 cap ∧ cap ≤ maxLen
def SlRow (B : Nat → Prop) (w : World) (sz : Nat) (v : Value) (n : Nat) (row : List Value) : Prop :=
  row.length = n * sz ∧ ((Nil0 v ∧ n = 0) ∨ ∃ g o cap, v = .slice (some ⟨g, o, none⟩) n cap ∧ n ≤ cap ∧ cap ≤ maxLen ∧ B g ∧ g < w.heap.size ∧ ∀ (j : Nat) (u : Value), row[j]? = some u → w.cell? ⟨g, o + j, none⟩ = some u)
def InR (n : Int) : Prop := -9223372036854775808 ≤ n ∧ n ≤ 9223372036854775807
mutual
def IsV (B : Nat → Prop) (w : World) : V → List Value → Prop
  | .mk k n t l, cs => ∃ sl row, cs = [.int .i64 k, .int .i64 n, .string ⟨t.toArray⟩, sl] ∧ t.length ≤ maxLen ∧ InR k ∧ InR n ∧ SlRow B w 4 sl l.length row ∧ AllV B w l row
def AllV (B : Nat → Prop) (w : World) : List V → List Value → Prop
  | [], cs => cs = []
  | e :: r, cs => ∃ c1 c2, cs = c1 ++ c2 ∧ IsV B w e c1 ∧ AllV B w r c2
end
def IsVs (B : Nat → Prop) (w : World) (l : List V) (sl : Value) : Prop := ∃ row, SlRow B w 4 sl l.length row ∧ AllV B w l row
structure IsW (B : Nat → Prop) (w : World) (v : V) (sl : Value) : Prop where
  txt : v.t.length ≤ maxLen
  kr : InR v.k
  nr : InR v.n
  vs : IsVs B w v.l sl
theorem isV_iff {B : Nat → Prop} {w : World} {v : V} {cs : List Value} : IsV B w v cs ↔ ∃ sl, cs = [.int .i64 v.k, .int .i64 v.n, .string ⟨v.t.toArray⟩, sl] ∧ IsW B w v sl := by
  obtain ⟨k, n, t, l⟩ := v
  rw [IsV]
  constructor
  · rintro ⟨sl, row, h1, h2, h3, h4, h5, h6⟩
    exact ⟨sl, h1, h2, h3, h4, row, h5, h6⟩
  · rintro ⟨sl, h1, h2, h3, h4, row, h5, h6⟩
    exact ⟨sl, row, h1, h2, h3, h4, h5, h6⟩
structure Since (B : Nat → Prop) (w w' : World) : Prop where
  size : w.heap.size ≤ w'.heap.size
  block : ∀ k, B k → k < w.heap.size → w'.heap[k]? = w.heap[k]?
theorem Since.refl (B : Nat → Prop) (w : World) : Since B w w := ⟨Nat.le_refl _, fun _ _ _ => rfl⟩
theorem Since.trans {B : Nat → Prop} {w w1 w2 : World} (a : Since B w w1) (b : Since B w1 w2) : Since B w w2 := ⟨Nat.le_trans a.size b.size, fun k h1 h2 => (b.block k h1 (by have := a.size; omega)).trans (a.block k h1 h2)⟩
theorem Since.of_below {B : Nat → Prop} {w w' : World} (h : Below w.heap.size w w') : Since B w w' := ⟨h.size, fun k _ h2 => h.block k h2⟩
theorem Since.drewN (B : Nat → Prop) (w : World) (n : Nat) : Since B w (w.drewN n) := ⟨Nat.le_refl _, fun _ _ _ => rfl⟩
theorem Since.mono {B B' : Nat → Prop} {w w' : World} (h : Since B w w') (hb : ∀ k, B' k → B k) : Since B' w w' := ⟨h.size, fun k h1 h2 => h.block k (hb k h1) h2⟩
theorem SlRow.since {B : Nat → Prop} {w w' : World} {sz : Nat} {v : Value} {n : Nat} {row : List Value} (h : SlRow B w sz v n row) (s : Since B w w') : SlRow B w' sz v n row := by
  obtain ⟨h1, h2⟩ := h
  refine ⟨h1, ?_⟩
  rcases h2 with h2 | ⟨g, o, cap, hv, hc, hm, hB, hg, hcell⟩
  · exact Or.inl h2
  · refine Or.inr ⟨g, o, cap, hv, hc, hm, hB, by have := s.size; omega, fun j u hj => ?_⟩
    rw [World.cell?_of_block (w := w) (s.block g hB hg)]
    exact hcell j u hj
theorem SlRow.base {B B' : Nat → Prop} {w : World} {sz : Nat} {v : Value} {n : Nat} {row : List Value} (h : SlRow B w sz v n row) (hb : ∀ k, B k → k < w.heap.size → B' k) : SlRow B' w sz v n row := by
  obtain ⟨h1, h2⟩ := h
  refine ⟨h1, ?_⟩
  rcases h2 with h2 | ⟨g, o, cap, hv, hc, hm, hB, hg, r⟩
  · exact Or.inl h2
  · exact Or.inr ⟨g, o, cap, hv, hc, hm, hb _ hB hg, hg, r⟩
mutual
theorem IsV.since {B : Nat → Prop} {w w' : World} (s : Since B w w') : ∀ {e : V} {cs : List Value}, IsV B w e cs → IsV B w' e cs
  | .mk k n t l, cs, h => by
    rw [IsV] at h ⊢
    obtain ⟨sl, row, hc, h1, h2, h3, hr, ha⟩ := h
    exact ⟨sl, row, hc, h1, h2, h3, hr.since s, AllV.since s ha⟩
theorem AllV.since {B : Nat → Prop} {w w' : World} (s : Since B w w') : ∀ {l : List V} {cs : List Value}, AllV B w l cs → AllV B w' l cs
  | [], cs, h => by rw [AllV] at h ⊢; exact h
  | e :: r, cs, h => by
    rw [AllV] at h ⊢
    obtain ⟨c1, c2, hc, h1, h2⟩ := h
    exact ⟨c1, c2, hc, IsV.since s h1, AllV.since s h2⟩
end
mutual
theorem IsV.base {B B' : Nat → Prop} {w : World} (hb : ∀ k, B k → k < w.heap.size → B' k) : ∀ {e : V} {cs : List Value}, IsV B w e cs → IsV B' w e cs
  | .mk k n t l, cs, h => by
    rw [IsV] at h ⊢
    obtain ⟨sl, row, hc, h1, h2, h3, hr, ha⟩ := h
    exact ⟨sl, row, hc, h1, h2, h3, hr.base hb, AllV.base hb ha⟩
theorem AllV.base {B B' : Nat → Prop} {w : World} (hb : ∀ k, B k → k < w.heap.size → B' k) : ∀ {l : List V} {cs : List Value}, AllV B w l cs → AllV B' w l cs
  | [], cs, h => by rw [AllV] at h ⊢; exact h
  | e :: r, cs, h => by
    rw [AllV] at h ⊢
    obtain ⟨c1, c2, hc, h1, h2⟩ := h
    exact ⟨c1, c2, hc, IsV.base hb h1, AllV.base hb h2⟩
end
theorem IsVs.since {B : Nat → Prop} {w w' : World} {l : List V} {sl : Value} (h : IsVs B w l sl) (s : Since B w w') : IsVs B w' l sl := by
  obtain ⟨row, h1, h2⟩ := h
  exact ⟨row, h1.since s, h2.since s⟩
theorem IsVs.below {B : Nat → Prop} {w w' : World} {l : List V} {sl : Value} (h : IsVs B w l sl) (s : Below w.heap.size w w') : IsVs B w' l sl := h.since (Since.of_below s)
theorem IsVs.base {B B' : Nat → Prop} {w : World} {l : List V} {sl : Value} (h : IsVs B w l sl) (hb : ∀ k, B k → k < w.heap.size → B' k) : IsVs B' w l sl := by
  obtain ⟨row, h1, h2⟩ := h
  exact ⟨row, h1.base hb, h2.base hb⟩
theorem IsW.since {B : Nat → Prop} {w w' : World} {v : V} {sl : Value} (h : IsW B w v sl) (s : Since B w w') : IsW B w' v sl := ⟨h.txt, h.kr, h.nr, h.vs.since s⟩
theorem IsW.below {B : Nat → Prop} {w w' : World} {v : V} {sl : Value} (h : IsW B w v sl) (s : Below w.heap.size w w') : IsW B w' v sl := h.since (Since.of_below s)
theorem IsW.base {B B' : Nat → Prop} {w : World} {v : V} {sl : Value} (h : IsW B w v sl) (hb : ∀ k, B k → k < w.heap.size → B' k) : IsW B' w v sl := ⟨h.txt, h.kr, h.nr, h.vs.base hb⟩
theorem IsV.len {B : Nat → Prop} {w : World} {e : V} {cs : List Value} (h : IsV B w e cs) : cs.length = 4 := by
  obtain ⟨sl, rfl, _⟩ := isV_iff.1 h; rfl
theorem AllV.get {B : Nat → Prop} {w : World} : ∀ {l : List V} {row : List Value} {i : Nat} {e : V}, AllV B w l row → l[i]? = some e → ∃ cs, IsV B w e cs ∧ ∀ j, j < 4 → row[i * 4 + j]? = cs[j]?
  | [], row, i, e, h, hi => by simp at hi
  | a :: r, row, 0, e, h, hi => by
    rw [AllV] at h
    obtain ⟨c1, c2, hc, h1, h2⟩ := h
    simp at hi; subst hi
    exact ⟨c1, h1, fun j hj => by rw [hc, List.getElem?_append_left (by have := h1.len; omega)]; simp⟩
  | a :: r, row, i + 1, e, h, hi => by
    rw [AllV] at h
    obtain ⟨c1, c2, hc, h1, h2⟩ := h
    obtain ⟨cs, k1, k2⟩ := AllV.get h2 (by simpa using hi)
    refine ⟨cs, k1, fun j hj => ?_⟩
    have := h1.len
    rw [hc, List.getElem?_append_right (by omega), ← k2 j hj]
    congr 1
    omega
theorem AllV.append {B : Nat → Prop} {w : World} : ∀ {l m : List V} {row row' : List Value}, AllV B w l row → AllV B w m row' → AllV B w (l ++ m) (row ++ row')
  | [], m, row, row', h, he => by
    rw [AllV] at h; subst h; exact he
  | a :: r, m, row, row', h, he => by
    rw [AllV] at h
    obtain ⟨c1, c2, hc, h1, h2⟩ := h
    rw [List.cons_append, AllV]
    exact ⟨c1, c2 ++ row', by rw [hc]; simp, h1, AllV.append h2 he⟩
theorem AllV.one {B : Nat → Prop} {w : World} {e : V} {cs : List Value} (h : IsV B w e cs) : AllV B w [e] cs := by
  rw [AllV]; exact ⟨cs, [], by simp, h, by rw [AllV]⟩
theorem AllV.split {B : Nat → Prop} {w : World} : ∀ {l m : List V} {row : List Value}, AllV B w (l ++ m) row → ∃ r1 r2, row = r1 ++ r2 ∧ AllV B w l r1 ∧ AllV B w m r2
  | [], m, row, h => ⟨[], row, rfl, by rw [AllV], h⟩
  | a :: r, m, row, h => by
    rw [List.cons_append, AllV] at h
    obtain ⟨c1, c2, hc, h1, h2⟩ := h
    obtain ⟨r1, r2, e, k1, k2⟩ := AllV.split h2
    refine ⟨c1 ++ r1, r2, by rw [hc, e]; simp, ?_, k2⟩
    rw [AllV]; exact ⟨c1, r1, rfl, h1, k1⟩
theorem AllV.len {B : Nat → Prop} {w : World} : ∀ {l : List V} {row : List Value}, AllV B w l row → row.length = l.length * 4
  | [], row, h => by rw [AllV] at h; subst h; rfl
  | a :: r, row, h => by
    rw [AllV] at h
    obtain ⟨c1, c2, hc, h1, h2⟩ := h
    have := h1.len; have := AllV.len h2
    rw [hc]; simp; omega
theorem SlRow.slice {B : Nat → Prop} {w : World} {sz : Nat} {v : Value} {n : Nat} {row : List Value} (h : SlRow B w sz v n row) : ∃ ao cap, v = .slice ao n cap ∧ n ≤ cap ∧ cap ≤ maxLen := by
  rcases h.2 with ⟨h1 | ⟨a, cap, h1, h2⟩, h0⟩ | ⟨g, o, cap, h1, h2, h3, _⟩
  · exact ⟨none, 0, by rw [h1, h0], by omega, by unfold maxLen; omega⟩
  · exact ⟨some a, cap, by rw [h1, h0], by omega, h2⟩
  · exact ⟨_, cap, h1, h2, h3⟩
theorem IsVs.slice {B : Nat → Prop} {w : World} {l : List V} {sl : Value} (h : IsVs B w l sl) : ∃ ao cap, sl = .slice ao l.length cap ∧ l.length ≤ cap ∧ cap ≤ 9223372036854775807 := by
  obtain ⟨row, h1, _⟩ := h
  obtain ⟨ao, cap, e, a, b⟩ := h1.slice
  exact ⟨ao, cap, e, a, by unfold maxLen at b; omega⟩
theorem IsVs.nil {B : Nat → Prop} {w : World} : IsVs B w [] (.slice none 0 0) := ⟨[], ⟨rfl, Or.inl ⟨Or.inl rfl, rfl⟩⟩, by rw [AllV]⟩
theorem IsVs.get {B : Nat → Prop} {w : World} {l : List V} {ao : Option Addr} {n cap : Nat} {i : Nat} {x : V} (h : IsVs B w l (.slice ao n cap)) (hi : l[i]? = some x) :
    ∃ g o ax cx, ao = some ⟨g, o, none⟩ ∧ B g ∧ g < w.heap.size ∧ w.cell? ⟨g, o + i * 4, none⟩ = some (.int .i64 x.k) ∧ w.cell? ⟨g, o + i * 4 + 1, none⟩ = some (.int .i64 x.n) ∧ w.cell? ⟨g, o + i * 4 + 2, none⟩ = some (.string ⟨x.t.toArray⟩) ∧ w.cell? ⟨g, o + i * 4 + 3, none⟩ = some (.slice ax x.l.length cx) ∧ IsW B w x (.slice ax x.l.length cx) := by
  obtain ⟨row, ⟨h1, h2⟩, h3⟩ := h
  obtain ⟨cs, k1, k2⟩ := h3.get hi
  obtain ⟨sx, rfl, hx⟩ := isV_iff.1 k1
  obtain ⟨ax, cx, rfl, _, _⟩ := hx.vs.slice
  have hl : i < l.length := (List.getElem?_eq_some_iff.1 hi).1
  rcases h2 with ⟨_, h0⟩ | ⟨g, o, cap', e, _, _, hB, hg, hc⟩
  · omega
  · simp only [Value.slice.injEq] at e
    obtain ⟨rfl, _, _⟩ := e
    refine ⟨g, o, ax, cx, rfl, hB, hg, hc (i * 4) _ (k2 0 (by omega)), ?_, ?_, ?_, hx⟩
    · rw [Nat.add_assoc]; exact hc (i * 4 + 1) _ (k2 1 (by omega))
    · rw [Nat.add_assoc]; exact hc (i * 4 + 2) _ (k2 2 (by omega))
    · rw [Nat.add_assoc]; exact hc (i * 4 + 3) _ (k2 3 (by omega))
theorem heap_new (w : World) (o : Obj) : (w.alloc o).heap[w.heap.size]? = some o := by
  show (w.heap.push _)[w.heap.size]? = _
  rw [Array.getElem?_push, if_pos rfl]
theorem cells_of4 {w : World} {g : Nat} {y0 y1 y2 y3 : Value} {T : TypeId} (h : w.heap[g]? = some (.cells #[y0, y1, y2, y3] T (0, 0))) : w.cell? ⟨g, 0, none⟩ = some y0 ∧ w.cell? ⟨g, 1, none⟩ = some y1 ∧ w.cell? ⟨g, 2, none⟩ = some y2 ∧ w.cell? ⟨g, 3, none⟩ = some y3 ∧ w.frozen? ⟨g, 0, none⟩ = false ∧ w.frozen? ⟨g, 1, none⟩ = false ∧ w.frozen? ⟨g, 2, none⟩ = false ∧ w.frozen? ⟨g, 3, none⟩ = false := by
  refine ⟨?_, ?_, ?_, ?_, ?_, ?_, ?_, ?_⟩
  all_goals first | simp [World.cell?, h] | simp [World.frozen?, h]
theorem cell_of_one {w : World} {g : Nat} {y : Value} {T : TypeId} (h : w.heap[g]? = some (.cells #[y] T (0, 0))) : w.cell? ⟨g, 0, none⟩ = some y := by simp [World.cell?, h]
theorem bcell {W w1 : World} (hb : Below W.heap.size W w1) : (∀ b o, b < W.heap.size → w1.cell? ⟨b, o, none⟩ = W.cell? ⟨b, o, none⟩) ∧ (∀ b o, b < W.heap.size → w1.frozen? ⟨b, o, none⟩ = W.frozen? ⟨b, o, none⟩) :=
  ⟨fun b o h => hb.cell (p := ⟨b, o, none⟩) h, fun b o h => hb.frozen (p := ⟨b, o, none⟩) h⟩
theorem boxed (w : World) (v : V) (sl : Value) : ∃ w0, w.alloc (.cells #[.int .i64 v.k, .int .i64 v.n, .string ⟨v.t.toArray⟩, sl] 31) = w0 ∧ Below w.heap.size w w0 ∧ w0.heap.size = w.heap.size + 1 ∧ w0.cell? ⟨w.heap.size, 0, none⟩ = some (.int .i64 v.k) ∧ w0.cell? ⟨w.heap.size, 1, none⟩ = some (.int .i64 v.n) ∧ w0.cell? ⟨w.heap.size, 2, none⟩ = some (.string ⟨v.t.toArray⟩) ∧ w0.cell? ⟨w.heap.size, 3, none⟩ = some sl := by
  obtain ⟨h0, h1, h2, h3, _⟩ := cells_of4 (heap_new w (.cells #[.int .i64 v.k, .int .i64 v.n, .string ⟨v.t.toArray⟩, sl] 31))
  exact ⟨_, rfl, (Below.refl _ _).alloc (Nat.le_refl _) _, by simp, h0, h1, h2, h3⟩
theorem boxed2 (w : World) (a : V) (sa : Value) (b : V) (sb : Value) : ∃ w0 w1, w.alloc (.cells #[.int .i64 a.k, .int .i64 a.n, .string ⟨a.t.toArray⟩, sa] 31) = w0 ∧ w0.alloc (.cells #[.int .i64 b.k, .int .i64 b.n, .string ⟨b.t.toArray⟩, sb] 31) = w1 ∧ w0.heap.size = w.heap.size + 1 ∧ w1.heap.size = w.heap.size + 2 ∧ Below w.heap.size w w1 ∧
    w1.cell? ⟨w.heap.size, 0, none⟩ = some (.int .i64 a.k) ∧ w1.cell? ⟨w.heap.size, 1, none⟩ = some (.int .i64 a.n) ∧ w1.cell? ⟨w.heap.size, 2, none⟩ = some (.string ⟨a.t.toArray⟩) ∧ w1.cell? ⟨w.heap.size, 3, none⟩ = some sa ∧
    w1.cell? ⟨w.heap.size + 1, 0, none⟩ = some (.int .i64 b.k) ∧ w1.cell? ⟨w.heap.size + 1, 1, none⟩ = some (.int .i64 b.n) ∧ w1.cell? ⟨w.heap.size + 1, 2, none⟩ = some (.string ⟨b.t.toArray⟩) ∧ w1.cell? ⟨w.heap.size + 1, 3, none⟩ = some sb := by
  obtain ⟨w0, hW, hb0, hsz, d0, d1, d2, d3⟩ := boxed w a sa
  obtain ⟨w1, hW1, hb1, hsz1, e0, e1, e2, e3⟩ := boxed w0 b sb
  obtain ⟨f1, -⟩ := bcell hb1
  rw [← f1 w.heap.size _ (by omega)] at d0 d1 d2 d3
  rw [hsz] at e0 e1 e2 e3
  exact ⟨w0, w1, hW, hW1, hsz, by omega, hb0.trans (hb1.mono (by omega)), d0, d1, d2, d3, e0, e1, e2, e3⟩
theorem wt_eq (v : V) : wt v = 1 + v.t.length + wts v.l := by cases v; rw [wt]; rfl
theorem below_undrew {w w' : World} (h : Below w.drew.heap.size w.drew w') : Below w.heap.size w w' := ((Below.refl w.heap.size w).drew).trans h
theorem below_drewN (w : World) (n : Nat) : Below w.heap.size w (w.drewN n) := ⟨rfl, rfl, rfl, Nat.le_refl _, fun _ _ => rfl⟩
theorem rbox (w : World) : ∃ w0, w.alloc (.cells #[.int .i64 0, .int .i64 0, .string ⟨#[]⟩, .slice none 0 0] 31) = w0 ∧ Below w.heap.size w w0 ∧ w0.heap.size = w.heap.size + 1 ∧
    ∀ w3, Below w0.heap.size w0 w3 → w3.cell? ⟨w.heap.size, 0, none⟩ = some (.int .i64 0) ∧ w3.cell? ⟨w.heap.size, 1, none⟩ = some (.int .i64 0) ∧ w3.cell? ⟨w.heap.size, 2, none⟩ = some (.string ⟨#[]⟩) ∧ w3.cell? ⟨w.heap.size, 3, none⟩ = some (.slice none 0 0) ∧
      w3.frozen? ⟨w.heap.size, 0, none⟩ = false ∧ w3.frozen? ⟨w.heap.size, 1, none⟩ = false ∧ w3.frozen? ⟨w.heap.size, 2, none⟩ = false ∧ w3.frozen? ⟨w.heap.size, 3, none⟩ = false ∧ w.heap.size < w3.heap.size := by
  obtain ⟨h0, h1, h2, h3, f0, f1, f2, f3⟩ := cells_of4 (heap_new w (.cells #[.int .i64 0, .int .i64 0, .string ⟨#[]⟩, .slice none 0 0] 31))
  refine ⟨_, rfl, (Below.refl _ _).alloc (Nat.le_refl _) _, by simp, fun w3 hb => ?_⟩
  obtain ⟨c, f⟩ := bcell hb
  have hz : w.heap.size < (w.alloc (.cells #[.int .i64 0, .int .i64 0, .string ⟨#[]⟩, .slice none 0 0] 31)).heap.size := by simp
  have hs := hb.size
  exact ⟨by rw [c _ _ hz]; exact h0, by rw [c _ _ hz]; exact h1, by rw [c _ _ hz]; exact h2, by rw [c _ _ hz]; exact h3, by rw [f _ _ hz]; exact f0, by rw [f _ _ hz]; exact f1, by rw [f _ _ hz]; exact f2, by rw [f _ _ hz]; exact f3, by omega⟩
abbrev set4 (w : World) (g : Nat) (x0 x1 x2 x3 : Value) : World := (((w.setCell ⟨g, 0, none⟩ x0).setCell ⟨g, 1, none⟩ x1).setCell ⟨g, 2, none⟩ x2).setCell ⟨g, 3, none⟩ x3
theorem below_set4 {n : Nat} {w w' : World} (h : Below n w w') {g : Nat} (hg : n ≤ g) (x0 x1 x2 x3 : Value) : Below n w (set4 w' g x0 x1 x2 x3) := ((((h.setCell (p := ⟨g, 0, none⟩) hg x0).setCell (p := ⟨g, 1, none⟩) hg x1).setCell (p := ⟨g, 2, none⟩) hg x2).setCell (p := ⟨g, 3, none⟩) hg x3)
theorem set4_other {w : World} {g k : Nat} (hk : k ≠ g) (x0 x1 x2 x3 : Value) : (set4 w g x0 x1 x2 x3).heap[k]? = w.heap[k]? := by
  simp only [set4]
  rw [Below.heap_setCell _ _ _ _ hk, Below.heap_setCell _ _ _ _ hk, Below.heap_setCell _ _ _ _ hk, Below.heap_setCell _ _ _ _ hk]
theorem set4_size (w : World) (g : Nat) (x0 x1 x2 x3 : Value) : (set4 w g x0 x1 x2 x3).heap.size = w.heap.size := by simp [set4, World.setCell]
theorem since_set4 {w : World} {g : Nat} {B : Nat → Prop} (hg : ¬ B g) (x0 x1 x2 x3 : Value) : Since B w (set4 w g x0 x1 x2 x3) := ⟨by rw [set4_size]; exact Nat.le_refl _, fun k h1 _ => set4_other (fun e => hg (by rw [← e]; exact h1)) x0 x1 x2 x3⟩
theorem ret_int {k : IntKind} {a b : Int} (h : a = b) : Ending.returned (.int k a) = .returned (.int k b) := by rw [h]
theorem ret_bool {a b : Bool} (h : a = b) : Ending.returned (.bool a) = .returned (.bool b) := by rw [h]
end Go.Proofs.YtnijcolomoobnaaGreatDoor
