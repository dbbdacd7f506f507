/- Values, their weight and their order. Plain mathematics. -/
import Derived.Lib.Bytealg
import Derived.Lib.Small
namespace Go.Proofs.Ytkbplffckkjbfaa
set_option linter.unusedVariables false
set_option linter.unusedSimpArgs false

/-- A value: its kind, number, text, list. -/
inductive V where
  | mk (k n : Int) (t : List UInt8) (l : List V)
namespace V
def k : V → Int | .mk k _ _ _ => k
def n : V → Int | .mk _ n _ _ => n
def t : V → List UInt8 | .mk _ _ t _ => t
def l : V → List V | .mk _ _ _ l => l
def zero : V := .mk 0 0 [] []
end V
mutual
def wt : V → Nat | .mk _ _ t l => 1 + t.length + wts l
def wts : List V → Nat | [] => 0 | v :: r => wt v + wts r
end
/-- The first that decides. -/
def lx2 (c d : Int) : Int := if c = 0 then d else c
mutual
def cmpV : V → V → Int
  | .mk k n t l, .mk k' n' t' l' => lx2 (Lib.compareInt k k') (lx2 (Lib.compareInt n n') (lx2 (Lib.compareBytes t t') (cmpVs l l')))
def cmpVs : List V → List V → Int
  | [], [] => 0
  | [], _ :: _ => -1
  | _ :: _, [] => 1
  | a :: r, b :: s => lx2 (cmpV a b) (cmpVs r s)
end
/-- -1, 0 or 1. -/
def Sg (c : Int) : Prop := c = -1 ∨ c = 0 ∨ c = 1
theorem lx2_sg {c d : Int} (h1 : Sg c) (h2 : Sg d) : Sg (lx2 c d) := by unfold lx2; split <;> assumption
theorem int_sg (a b : Int) : Sg (Lib.compareInt a b) := by unfold Lib.compareInt Sg; split <;> (try split) <;> omega
theorem bytes_sg : ∀ a b : List UInt8, Sg (Lib.compareBytes a b)
  | [], [] => by simp [Lib.compareBytes, Sg]
  | [], _ :: _ => by simp [Lib.compareBytes, Sg]
  | _ :: _, [] => by simp [Lib.compareBytes, Sg]
  | a :: r, b :: s => by
    rw [Lib.compareBytes]
    split
    · simp [Sg]
    · split
      · simp [Sg]
      · exact bytes_sg r s
mutual
theorem cmpV_sg : ∀ a b : V, Sg (cmpV a b)
  | .mk k n t l, .mk k' n' t' l' => by
    rw [cmpV]; exact lx2_sg (int_sg _ _) (lx2_sg (int_sg _ _) (lx2_sg (bytes_sg _ _) (cmpVs_sg _ _)))
theorem cmpVs_sg : ∀ a b : List V, Sg (cmpVs a b)
  | [], [] => by simp [cmpVs, Sg]
  | [], _ :: _ => by simp [cmpVs, Sg]
  | _ :: _, [] => by simp [cmpVs, Sg]
  | a :: r, b :: s => by rw [cmpVs]; exact lx2_sg (cmpV_sg a b) (cmpVs_sg r s)
end
theorem lx2_neg {c d c' d' : Int} (h1 : c = -c') (h2 : d = -d') : lx2 c d = - lx2 c' d' := by
  unfold lx2; split <;> split <;> omega
theorem int_neg (a b : Int) : Lib.compareInt a b = - Lib.compareInt b a := by unfold Lib.compareInt; repeat' split <;> omega
theorem bytes_neg : ∀ a b : List UInt8, Lib.compareBytes a b = - Lib.compareBytes b a
  | [], [] => by simp [Lib.compareBytes]
  | [], _ :: _ => by simp [Lib.compareBytes]
  | _ :: _, [] => by simp [Lib.compareBytes]
  | a :: r, b :: s => by
    rw [Lib.compareBytes, Lib.compareBytes]
    by_cases h1 : a < b
    · have h2 : ¬ b < a := by rw [UInt8.lt_iff_toNat_lt] at *; omega
      rw [if_pos h1, if_neg h2, if_pos h1]
    · by_cases h2 : b < a
      · rw [if_neg h1, if_pos h2, if_pos h2]; rfl
      · rw [if_neg h1, if_neg h2, if_neg h2, if_neg h1]; exact bytes_neg r s
mutual
theorem cmpV_neg : ∀ a b : V, cmpV a b = - cmpV b a
  | .mk k n t l, .mk k' n' t' l' => by
    rw [cmpV, cmpV]; exact lx2_neg (int_neg _ _) (lx2_neg (int_neg _ _) (lx2_neg (bytes_neg _ _) (cmpVs_neg _ _)))
theorem cmpVs_neg : ∀ a b : List V, cmpVs a b = - cmpVs b a
  | [], [] => by simp [cmpVs]
  | [], _ :: _ => by simp [cmpVs]
  | _ :: _, [] => by simp [cmpVs]
  | a :: r, b :: s => by rw [cmpVs, cmpVs]; exact lx2_neg (cmpV_neg a b) (cmpVs_neg r s)
end
theorem lx2_zero {c d : Int} : lx2 c d = 0 ↔ c = 0 ∧ d = 0 := by unfold lx2; split <;> omega
theorem int_zero (a b : Int) : Lib.compareInt a b = 0 ↔ a = b := by unfold Lib.compareInt; repeat' split <;> omega
theorem bytes_zero : ∀ a b : List UInt8, Lib.compareBytes a b = 0 ↔ a = b
  | [], [] => by simp [Lib.compareBytes]
  | [], _ :: _ => by simp [Lib.compareBytes]
  | _ :: _, [] => by simp [Lib.compareBytes]
  | a :: r, b :: s => by
    rw [Lib.compareBytes]
    by_cases h1 : a < b
    · rw [if_pos h1]
      have : a ≠ b := by rintro rfl; rw [UInt8.lt_iff_toNat_lt] at h1; omega
      simp [this]
    · by_cases h2 : b < a
      · rw [if_neg h1, if_pos h2]
        have : a ≠ b := by rintro rfl; rw [UInt8.lt_iff_toNat_lt] at h2; omega
        simp [this]
      · rw [if_neg h1, if_neg h2]
        have : a = b := by rw [UInt8.lt_iff_toNat_lt] at h1 h2; exact UInt8.toNat_inj.mp (by omega)
        subst this
        rw [bytes_zero r s]
        simp
mutual
theorem cmpV_zero : ∀ a b : V, cmpV a b = 0 ↔ a = b
  | .mk k n t l, .mk k' n' t' l' => by
    rw [cmpV, lx2_zero, lx2_zero, lx2_zero, int_zero, int_zero, bytes_zero, cmpVs_zero]; simp
theorem cmpVs_zero : ∀ a b : List V, cmpVs a b = 0 ↔ a = b
  | [], [] => by simp [cmpVs]
  | [], _ :: _ => by simp [cmpVs]
  | _ :: _, [] => by simp [cmpVs]
  | a :: r, b :: s => by rw [cmpVs, lx2_zero, cmpV_zero, cmpVs_zero]; simp
end
theorem cmpV_self (a : V) : cmpV a a = 0 := (cmpV_zero a a).2 rfl
/-- Of three: x between the first two, y between the last two, z between the first and the last. -/
def Tri (x y z : Int) : Prop := x ≤ 0 → y ≤ 0 → z ≤ 0 ∧ (z = 0 → x = 0 ∧ y = 0)
theorem lx2_tri {x y z x' y' z' : Int} (h1 : Tri x y z) (h2 : Tri x' y' z') : Tri (lx2 x x') (lx2 y y') (lx2 z z') := by
  unfold Tri lx2 at *
  intro hx hy
  have hx1 : x ≤ 0 := by split at hx <;> omega
  have hy1 : y ≤ 0 := by split at hy <;> omega
  have h := h1 hx1 hy1
  by_cases hz : z = 0
  · obtain ⟨hx0, hy0⟩ := h.2 hz
    rw [if_pos hx0] at hx ⊢
    rw [if_pos hy0] at hy ⊢
    rw [if_pos hz]
    exact h2 hx hy
  · rw [if_neg hz]
    exact ⟨h.1, fun e => absurd e hz⟩
theorem int_tri (a b c : Int) : Tri (Lib.compareInt a b) (Lib.compareInt b c) (Lib.compareInt a c) := by
  unfold Tri Lib.compareInt; repeat' split <;> omega
theorem bytes_tri : ∀ a b c : List UInt8, Tri (Lib.compareBytes a b) (Lib.compareBytes b c) (Lib.compareBytes a c)
  | [], [], [] => by simp [Lib.compareBytes, Tri]
  | [], [], _ :: _ => by simp [Lib.compareBytes, Tri]
  | [], _ :: _, [] => by simp [Lib.compareBytes, Tri]
  | [], b :: s, c :: u => by
    intro h1 h2
    simp [Lib.compareBytes]
  | _ :: _, [], _ => by intro h1; simp [Lib.compareBytes] at h1
  | _ :: _, _ :: _, [] => by intro h1 h2; simp [Lib.compareBytes] at h2
  | a :: r, b :: s, c :: u => by
    have ih := bytes_tri r s u
    unfold Tri at *
    simp only [Lib.compareBytes, UInt8.lt_iff_toNat_lt]
    repeat' split <;> omega
mutual
theorem cmpV_tri : ∀ a b c : V, Tri (cmpV a b) (cmpV b c) (cmpV a c)
  | .mk k n t l, .mk k' n' t' l', .mk k2 n2 t2 l2 => by
    rw [cmpV, cmpV, cmpV]
    exact lx2_tri (int_tri _ _ _) (lx2_tri (int_tri _ _ _) (lx2_tri (bytes_tri _ _ _) (cmpVs_tri _ _ _)))
theorem cmpVs_tri : ∀ a b c : List V, Tri (cmpVs a b) (cmpVs b c) (cmpVs a c)
  | [], [], [] => by simp [cmpVs, Tri]
  | [], [], _ :: _ => by simp [cmpVs, Tri]
  | [], _ :: _, [] => by simp [cmpVs, Tri]
  | [], _ :: _, _ :: _ => by intro h1 h2; simp [cmpVs]
  | _ :: _, [], _ => by intro h1; simp [cmpVs] at h1
  | _ :: _, _ :: _, [] => by intro h1 h2; simp [cmpVs] at h2
  | a :: r, b :: s, c :: u => by rw [cmpVs, cmpVs, cmpVs]; exact lx2_tri (cmpV_tri a b c) (cmpVs_tri r s u)
end
theorem cmpV_trans {a b c : V} (h1 : cmpV a b ≤ 0) (h2 : cmpV b c ≤ 0) : cmpV a c ≤ 0 := (cmpV_tri a b c h1 h2).1
theorem cmpV_lt_trans {a b c : V} (h1 : cmpV a b < 0) (h2 : cmpV b c < 0) : cmpV a c < 0 := by
  have := cmpV_tri a b c (by omega) (by omega); omega
theorem cmpV_lt_le {a b c : V} (h1 : cmpV a b < 0) (h2 : cmpV b c ≤ 0) : cmpV a c < 0 := by
  have := cmpV_tri a b c (by omega) (by omega); omega
theorem wt_pos : ∀ v : V, 1 ≤ wt v
  | .mk _ _ _ _ => by rw [wt]; omega
theorem wts_mem : ∀ {l : List V} {x : V}, x ∈ l → wt x ≤ wts l
  | a :: r, x, h => by
    rw [wts]
    rcases List.mem_cons.1 h with rfl | h
    · omega
    · have := wts_mem h; omega
theorem wts_get {l : List V} {i : Nat} {x : V} (h : l[i]? = some x) : wt x ≤ wts l := wts_mem (List.mem_of_getElem? h)
theorem wts_len : ∀ l : List V, l.length ≤ wts l
  | [] => by simp [wts]
  | a :: r => by rw [wts]; have := wts_len r; have := wt_pos a; simp; omega
theorem wts_append : ∀ a b : List V, wts (a ++ b) = wts a + wts b
  | [], b => by simp [wts]
  | x :: r, b => by rw [List.cons_append, wts, wts, wts_append r b]; omega
theorem wts_take_succ {l : List V} {i : Nat} {x : V} (h : l[i]? = some x) : wts (l.take (i + 1)) = wts (l.take i) + wt x := by
  obtain ⟨hi, rfl⟩ := List.getElem?_eq_some_iff.1 h
  rw [List.take_succ_eq_append_getElem hi, wts_append]; simp [wts]
theorem wts_take_le (l : List V) (i : Nat) : wts (l.take i) ≤ wts l := by
  have := wts_append (l.take i) (l.drop i)
  rw [List.take_append_drop] at this; omega
theorem wt_mk (k n : Int) (t : List UInt8) (l : List V) : wt (.mk k n t l) = 1 + t.length + wts l := by rw [wt]
/-- Element by element, from a place on. -/
theorem cmpVs_drop {a b : List V} {i : Nat} {x y : V} (hx : a[i]? = some x) (hy : b[i]? = some y) : cmpVs (a.drop i) (b.drop i) = lx2 (cmpV x y) (cmpVs (a.drop (i + 1)) (b.drop (i + 1))) := by
  obtain ⟨hi, rfl⟩ := List.getElem?_eq_some_iff.1 hx
  obtain ⟨hj, rfl⟩ := List.getElem?_eq_some_iff.1 hy
  rw [List.drop_eq_getElem_cons hi, List.drop_eq_getElem_cons hj, cmpVs]
theorem cmpVs_end {a b : List V} {i : Nat} (h : a.length ≤ i ∨ b.length ≤ i) (ha : i ≤ a.length) (hb : i ≤ b.length) : cmpVs (a.drop i) (b.drop i) = if a.length < b.length then -1 else if b.length < a.length then 1 else 0 := by
  rcases ha' : a.drop i with _ | ⟨x, r⟩ <;> rcases hb' : b.drop i with _ | ⟨y, s⟩
  · have h1 := congrArg List.length ha'; have h2 := congrArg List.length hb'
    simp at h1 h2
    rw [if_neg (by omega), if_neg (by omega)]; rfl
  · have h1 := congrArg List.length ha'; have h2 := congrArg List.length hb'
    simp at h1 h2
    rw [if_pos (by omega)]; rfl
  · have h1 := congrArg List.length ha'; have h2 := congrArg List.length hb'
    simp at h1 h2
    rw [if_neg (by omega), if_pos (by omega)]; rfl
  · have h1 := congrArg List.length ha'; have h2 := congrArg List.length hb'
    simp at h1 h2
    omega
end Go.Proofs.Ytkbplffckkjbfaa
