/- Texts of ours, joined: Vx, Vt. -/
import Derived.Lib.Bytealg
import Derived.Lib.Small
import Derived.Lib.Strings
/- Values, their weight and their order. Plain mathematics. -/
namespace Go.Proofs.Ytndahpcjkcihlaa
set_option linter.unusedVariables false
set_option linter.unusedSimpArgs false

/-- A value: its kind, number, text, list. -/
inductive V where
  | mk (k n : Int) (t : List UInt8) (l : List V)
namespace V
def k : V → Int | .mk k _ _ _ => k
def n : V → Int | .mk _ n _ _ => n
def t : V → List UInt8 | .mk _ _ t _ => t
def l : V → List V | .mk _ _ _ l => l
def zero : V := .mk 0 0 [] []
end V
mutual
def wt : V → Nat | .mk _ _ t l => 1 + t.length + wts l
def wts : List V → Nat | [] => 0 | v :: r => wt v + wts r
end
/-- The first that decides. -/
def lx2 (c d : Int) : Int := if c = 0 then d else c
mutual
def cmpV : V → V → Int
  | .mk k n t l, .mk k' n' t' l' => lx2 (Lib.compareInt k k') (lx2 (Lib.compareInt n n') (lx2 (Lib.compareBytes t t') (cmpVs l l')))
def cmpVs : List V → List V → Int
  | [], [] => 0
  | [], _ :: _ => -1
  | _ :: _, [] => 1
  | a :: r, b :: s => lx2 (cmpV a b) (cmpVs r s)
end
/-- -1, 0 or 1. -/
def Sg (c : Int) : Prop := c = -1 ∨ c = 0 ∨ c = 1
theorem lx2_sg {c d : Int} (h1 : Sg c) (h2 : Sg d) : Sg (lx2 c d) := by unfold lx2; split <;> assumption
theorem int_sg (a b : Int) : Sg (Lib.compareInt a b) := by unfold Lib.compareInt Sg; split <;> (try split) <;> omega
theorem bytes_sg : ∀ a b : List UInt8, Sg (Lib.compareBytes a b)
  | [], [] => by simp [Lib.compareBytes, Sg]
  | [], _ :: _ => by simp [Lib.compareBytes, Sg]
  | _ :: _, [] => by simp [Lib.compareBytes, Sg]
  | a :: r, b :: s => by
    rw [Lib.compareBytes]
    split
    · simp [Sg]
    · split
      · simp [Sg]
      · exact bytes_sg r s
mutual
theorem cmpV_sg : ∀ a b : V, Sg (cmpV a b)
  | .mk k n t l, .mk k' n' t' l' => by
    rw [cmpV]; exact lx2_sg (int_sg _ _) (lx2_sg (int_sg _ _) (lx2_sg (bytes_sg _ _) (cmpVs_sg _ _)))
theorem cmpVs_sg : ∀ a b : List V, Sg (cmpVs a b)
  | [], [] => by simp [cmpVs, Sg]
  | [], _ :: _ => by simp [cmpVs, Sg]
  | _ :: _, [] => by simp [cmpVs, Sg]
  | a :: r, b :: s => by rw [cmpVs]; exact lx2_sg (cmpV_sg a b) (cmpVs_sg r s)
end
theorem lx2_neg {c d c' d' : Int} (h1 : c = -c') (h2 : d = -d') : lx2 c d = - lx2 c' d' := by
  unfold lx2; split <;> split <;> omega
theorem int_neg (a b : Int) : Lib.compareInt a b = - Lib.compareInt b a := by unfold Lib.compareInt; repeat' split <;> omega
theorem bytes_neg : ∀ a b : List UInt8, Lib.compareBytes a b = - Lib.compareBytes b a
  | [], [] => by simp [Lib.compareBytes]
  | [], _ :: _ => by simp [Lib.compareBytes]
  | _ :: _, [] => by simp [Lib.compareBytes]
  | a :: r, b :: s => by
    rw [Lib.compareBytes, Lib.compareBytes]
    by_cases h1 : a < b
    · have h2 : ¬ b < a := by rw [UInt8.lt_iff_toNat_lt] at *; omega
      rw [if_pos h1, if_neg h2, if_pos h1]
    · by_cases h2 : b < a
      · rw [if_neg h1, if_pos h2, if_pos h2]; rfl
      · rw [if_neg h1, if_neg h2, if_neg h2, if_neg h1]; exact bytes_neg r s
mutual
theorem cmpV_neg : ∀ a b : V, cmpV a b = - cmpV b a
  | .mk k n t l, .mk k' n' t' l' => by
    rw [cmpV, cmpV]; exact lx2_neg (int_neg _ _) (lx2_neg (int_neg _ _) (lx2_neg (bytes_neg _ _) (cmpVs_neg _ _)))
theorem cmpVs_neg : ∀ a b : List V, cmpVs a b = - cmpVs b a
  | [], [] => by simp [cmpVs]
  | [], _ :: _ => by simp [cmpVs]
  | _ :: _, [] => by simp [cmpVs]
  | a :: r, b :: s => by rw [cmpVs, cmpVs]; exact lx2_neg (cmpV_neg a b) (cmpVs_neg r s)
end
theorem lx2_zero {c d : Int} : lx2 c d = 0 ↔ c = 0 ∧ d = 0 := by unfold lx2; split <;> omega
theorem int_zero (a b : Int) : Lib.compareInt a b = 0 ↔ a = b := by unfold Lib.compareInt; repeat' split <;> omega
theorem bytes_zero : ∀ a b : List UInt8, Lib.compareBytes a b = 0 ↔ a = b
  | [], [] => by simp [Lib.compareBytes]
  | [], _ :: _ => by simp [Lib.compareBytes]
  | _ :: _, [] => by simp [Lib.compareBytes]
  | a :: r, b :: s => by
    rw [Lib.compareBytes]
    by_cases h1 : a < b
    · rw [if_pos h1]
      have : a ≠ b := by rintro rfl; rw [UInt8.lt_iff_toNat_lt] at h1; omega
      simp [this]
    · by_cases h2 : b < a
      · rw [if_neg h1, if_pos h2]
        have : a ≠ b := by rintro rfl; rw [UInt8.lt_iff_toNat_lt] at h2; omega
        simp [this]
      · rw [if_neg h1, if_neg h2]
        have : a = b := by rw [UInt8.lt_iff_toNat_lt] at h1 h2; exact UInt8.toNat_inj.mp (by omega)
        subst this
        rw [bytes_zero r s]
        simp
mutual
theorem cmpV_zero : ∀ a b : V, cmpV a b = 0 ↔ a = b
  | .mk k n t l, .mk k' n' t' l' => by
    rw [cmpV, lx2_zero, lx2_zero, lx2_zero, int_zero, int_zero, bytes_zero, cmpVs_zero]; simp
theorem cmpVs_zero : ∀ a b : List V, cmpVs a b = 0 ↔ a = b
  | [], [] => by simp [cmpVs]
  | [], _ :: _ => by simp [cmpVs]
  | _ :: _, [] => by simp [cmpVs]
  | a :: r, b :: s => by rw [cmpVs, lx2_zero, cmpV_zero, cmpVs_zero]; simp
end
theorem cmpV_self (a : V) : cmpV a a = 0 := (cmpV_zero a a).2 rfl
/-- Of three: x between the first two, y between the last two, z between the first and the last. -/
def Tri (x y z : Int) : Prop := x ≤ 0 → y ≤ 0 → z ≤ 0 ∧ (z = 0 → x = 0 ∧ y = 0)
theorem lx2_tri {x y z x' y' z' : Int} (h1 : Tri x y z) (h2 : Tri x' y' z') : Tri (lx2 x x') (lx2 y y') (lx2 z z') := by
  unfold Tri lx2 at *
  intro hx hy
  have hx1 : x ≤ 0 := by split at hx <;> omega
  have hy1 : y ≤ 0 := by split at hy <;> omega
  have h := h1 hx1 hy1
  by_cases hz : z = 0
  · obtain ⟨hx0, hy0⟩ := h.2 hz
    rw [if_pos hx0] at hx ⊢
    rw [if_pos hy0] at hy ⊢
    rw [if_pos hz]
    exact h2 hx hy
  · rw [if_neg hz]
    exact ⟨h.1, fun e => absurd e hz⟩
theorem int_tri (a b c : Int) : Tri (Lib.compareInt a b) (Lib.compareInt b c) (Lib.compareInt a c) := by
  unfold Tri Lib.compareInt; repeat' split <;> omega
theorem bytes_tri : ∀ a b c : List UInt8, Tri (Lib.compareBytes a b) (Lib.compareBytes b c) (Lib.compareBytes a c)
  | [], [], [] => by simp [Lib.compareBytes, Tri]
  | [], [], _ :: _ => by simp [Lib.compareBytes, Tri]
  | [], _ :: _, [] => by simp [Lib.compareBytes, Tri]
  | [], b :: s, c :: u => by
    intro h1 h2
    simp [Lib.compareBytes]
  | _ :: _, [], _ => by intro h1; simp [Lib.compareBytes] at h1
  | _ :: _, _ :: _, [] => by intro h1 h2; simp [Lib.compareBytes] at h2
  | a :: r, b :: s, c :: u => by
    have ih := bytes_tri r s u
    unfold Tri at *
    simp only [Lib.compareBytes, UInt8.lt_iff_toNat_lt]
    repeat' split <;> omega
mutual
theorem cmpV_tri : ∀ a b c : V, Tri (cmpV a b) (cmpV b c) (cmpV a c)
  | .mk k n t l, .mk k' n' t' l', .mk k2 n2 t2 l2 => by
    rw [cmpV, cmpV, cmpV]
    exact lx2_tri (int_tri _ _ _) (lx2_tri (int_tri _ _ _) (lx2_tri (bytes_tri _ _ _) (cmpVs_tri _ _ _)))
theorem cmpVs_tri : ∀ a b c : List V, Tri (cmpVs a b) (cmpVs b c) (cmpVs a c)
  | [], [], [] => by simp [cmpVs, Tri]
  | [], [], _ :: _ => by simp [cmpVs, Tri]
  | [], _ :: _, [] => by simp [cmpVs, Tri]
  | [], _ :: _, _ :: _ => by intro h1 h2; simp [cmpVs]
  | _ :: _, [], _ => by intro h1; simp [cmpVs] at h1
  | _ :: _, _ :: _, [] => by intro h1 h2; simp [cmpVs] at h2
  | a :: r, b :: s, c :: u => by rw [cmpVs, cmpVs, cmpVs]; exact lx2_tri (cmpV_tri a b c) (cmpVs_tri r s u)
end
theorem cmpV_trans {a b c : V} (h1 : cmpV a b ≤ 0) (h2 : cmpV b c ≤ 0) : cmpV a c ≤ 0 := (cmpV_tri a b c h1 h2).1
theorem cmpV_lt_trans {a b c : V} (h1 : cmpV a b < 0) (h2 : cmpV b c < 0) : cmpV a c < 0 := by
  have := cmpV_tri a b c (by omega) (by omega); omega
theorem cmpV_lt_le {a b c : V} (h1 : cmpV a b < 0) (h2 : cmpV b c ≤ 0) : cmpV a c < 0 := by
  have := cmpV_tri a b c (by omega) (by omega); omega
theorem wt_pos : ∀ v : V, 1 ≤ wt v
  | .mk _ _ _ _ => by rw [wt]; omega
theorem wts_mem : ∀ {l : List V} {x : V}, x ∈ l → wt x ≤ wts l
  | a :: r, x, h => by
    rw [wts]
    rcases List.mem_cons.1 h with rfl | h
    · omega
    · have := wts_mem h; omega
theorem wts_get {l : List V} {i : Nat} {x : V} (h : l[i]? = some x) : wt x ≤ wts l := wts_mem (List.mem_of_getElem? h)
theorem wts_len : ∀ l : List V, l.length ≤ wts l
  | [] => by simp [wts]
  | a :: r => by rw [wts]; have := wts_len r; have := wt_pos a; simp; omega
theorem wts_append : ∀ a b : List V, wts (a ++ b) = wts a + wts b
  | [], b => by simp [wts]
  | x :: r, b => by rw [List.cons_append, wts, wts, wts_append r b]; omega
theorem wts_take_succ {l : List V} {i : Nat} {x : V} (h : l[i]? = some x) : wts (l.take (i + 1)) = wts (l.take i) + wt x := by
  obtain ⟨hi, rfl⟩ := List.getElem?_eq_some_iff.1 h
  rw [List.take_succ_eq_append_getElem hi, wts_append]; simp [wts]
theorem wts_take_le (l : List V) (i : Nat) : wts (l.take i) ≤ wts l := by
  have := wts_append (l.take i) (l.drop i)
  rw [List.take_append_drop] at this; omega
theorem wt_mk (k n : Int) (t : List UInt8) (l : List V) : wt (.mk k n t l) = 1 + t.length + wts l := by rw [wt]
/-- Element by element, from a place on. -/
theorem cmpVs_drop {a b : List V} {i : Nat} {x y : V} (hx : a[i]? = some x) (hy : b[i]? = some y) : cmpVs (a.drop i) (b.drop i) = lx2 (cmpV x y) (cmpVs (a.drop (i + 1)) (b.drop (i + 1))) := by
  obtain ⟨hi, rfl⟩ := List.getElem?_eq_some_iff.1 hx
  obtain ⟨hj, rfl⟩ := List.getElem?_eq_some_iff.1 hy
  rw [List.drop_eq_getElem_cons hi, List.drop_eq_getElem_cons hj, cmpVs]
theorem cmpVs_end {a b : List V} {i : Nat} (h : a.length ≤ i ∨ b.length ≤ i) (ha : i ≤ a.length) (hb : i ≤ b.length) : cmpVs (a.drop i) (b.drop i) = if a.length < b.length then -1 else if b.length < a.length then 1 else 0 := by
  rcases ha' : a.drop i with _ | ⟨x, r⟩ <;> rcases hb' : b.drop i with _ | ⟨y, s⟩
  · have h1 := congrArg List.length ha'; have h2 := congrArg List.length hb'
    simp at h1 h2
    rw [if_neg (by omega), if_neg (by omega)]; rfl
  · have h1 := congrArg List.length ha'; have h2 := congrArg List.length hb'
    simp at h1 h2
    rw [if_pos (by omega)]; rfl
  · have h1 := congrArg List.length ha'; have h2 := congrArg List.length hb'
    simp at h1 h2
    rw [if_neg (by omega), if_pos (by omega)]; rfl
  · have h1 := congrArg List.length ha'; have h2 := congrArg List.length hb'
    simp at h1 h2
    omega
end Go.Proofs.Ytndahpcjkcihlaa
/- Texts of types. Plain mathematics. -/
namespace Go.Proofs.Ytndahpcjkcihlaa
set_option linter.unusedVariables false
set_option linter.unusedSimpArgs false

/-- What stands between a and c; none: s does not begin and end so. -/
def betw (s a c : List UInt8) : Option (List UInt8) := if (Lib.hasPrefix s a && Lib.hasSuffix (Lib.trimPrefix s a) c) = true then some (Lib.trimSuffix (Lib.trimPrefix s a) c) else none
theorem pre_iff (s a : List UInt8) : Lib.hasPrefix s a = true ↔ ∃ y, s = a ++ y := by
  rw [Lib.hasPrefix, List.isPrefixOf_iff_prefix]
  exact ⟨fun ⟨y, h⟩ => ⟨y, h.symm⟩, fun ⟨y, h⟩ => ⟨y, h.symm⟩⟩
theorem suf_iff (s a : List UInt8) : Lib.hasSuffix s a = true ↔ ∃ y, s = y ++ a := by
  rw [Lib.hasSuffix, List.isSuffixOf_iff_suffix]
  exact ⟨fun ⟨y, h⟩ => ⟨y, h.symm⟩, fun ⟨y, h⟩ => ⟨y, h.symm⟩⟩
theorem betw_iff (s a c y : List UInt8) : betw s a c = some y ↔ s = a ++ y ++ c := by
  unfold betw
  constructor
  · intro h
    split at h
    · rename_i h1
      simp only [Bool.and_eq_true] at h1
      obtain ⟨z, rfl⟩ := (pre_iff s a).1 h1.1
      have e : Lib.trimPrefix (a ++ z) a = z := by simp [Lib.trimPrefix, h1.1]
      rw [e] at h h1
      obtain ⟨z2, rfl⟩ := (suf_iff z c).1 h1.2
      simp [Lib.trimSuffix, h1.2] at h
      subst h
      simp
    · cases h
  · rintro rfl
    have h1 : Lib.hasPrefix (a ++ y ++ c) a = true := (pre_iff _ _).2 ⟨y ++ c, by simp⟩
    have e : Lib.trimPrefix (a ++ y ++ c) a = y ++ c := by rw [Lib.trimPrefix, if_pos h1]; simp
    have h2 : Lib.hasSuffix (y ++ c) c = true := (suf_iff _ _).2 ⟨y, rfl⟩
    rw [e, h1, h2]
    simp [Lib.trimSuffix, h2]
def elemT (s : List UInt8) : Option (List UInt8) :=
  match betw s [91] [93] with
  | some y => some y
  | none => match betw s [123, 105, 110, 116, 58] [125] with
    | some y => some y
    | none => betw s [123, 116, 101, 120, 116, 58] [125]
theorem betw_none (s a c : List UInt8) (h : ∀ y, s ≠ a ++ y ++ c) : betw s a c = none := by
  rcases hb : betw s a c with _ | y
  · rfl
  · exact absurd ((betw_iff s a c y).1 hb) (h y)

/-- A type: a map's keys are numbers (true) or texts. -/
inductive Ty where
  | int | bool | text
  | list (t : Ty)
  | map (k : Bool) (t : Ty)
  deriving DecidableEq
def keyT (k : Bool) : List UInt8 := if k then [105, 110, 116] else [116, 101, 120, 116]
def tyT : Ty → List UInt8
  | .int => [105, 110, 116]
  | .bool => [98, 111, 111, 108]
  | .text => [116, 101, 120, 116]
  | .list t => [91] ++ tyT t ++ [93]
  | .map k t => [123] ++ keyT k ++ [58] ++ tyT t ++ [125]
def Ty.dp : Ty → Nat
  | .int => 1 | .bool => 1 | .text => 1
  | .list t => t.dp + 1
  | .map _ t => t.dp + 1
def rdTy : Nat → List UInt8 → Option Ty
  | 0, _ => none
  | f + 1, s => if s = [105, 110, 116] then some .int else if s = [98, 111, 111, 108] then some .bool else if s = [116, 101, 120, 116] then some .text else
    match betw s [91] [93] with
    | some y => (rdTy f y).map .list
    | none => match betw s [123, 105, 110, 116, 58] [125] with
      | some y => (rdTy f y).map (.map true)
      | none => match betw s [123, 116, 101, 120, 116, 58] [125] with
        | some y => (rdTy f y).map (.map false)
        | none => none
def tyOf (s : List UInt8) : Option Ty := rdTy 4 s
def tyF : Nat → List UInt8 → Bool
  | 0, _ => false
  | f + 1, s => if s = [105, 110, 116] ∨ s = [98, 111, 111, 108] ∨ s = [116, 101, 120, 116] then true else match elemT s with
    | some y => tyF f y
    | none => false
theorem tyF_rd : ∀ (f : Nat) (s : List UInt8), tyF f s = (rdTy f s).isSome
  | 0, s => rfl
  | f + 1, s => by
    rw [tyF, rdTy]
    by_cases h1 : s = [105, 110, 116]
    · rw [if_pos (Or.inl h1), if_pos h1]; rfl
    by_cases h2 : s = [98, 111, 111, 108]
    · rw [if_pos (Or.inr (Or.inl h2)), if_neg h1, if_pos h2]; rfl
    by_cases h3 : s = [116, 101, 120, 116]
    · rw [if_pos (Or.inr (Or.inr h3)), if_neg h1, if_neg h2, if_pos h3]; rfl
    rw [if_neg (by rintro (h | h | h) <;> contradiction), if_neg h1, if_neg h2, if_neg h3]
    unfold elemT
    rcases betw s [91] [93] with _ | y
    · rcases betw s [123, 105, 110, 116, 58] [125] with _ | y
      · rcases betw s [123, 116, 101, 120, 116, 58] [125] with _ | y
        · rfl
        · simp [tyF_rd f y]
      · simp [tyF_rd f y]
    · simp [tyF_rd f y]
def gType (s : List UInt8) : Bool := (tyOf s).isSome
theorem gType_tyF (s : List UInt8) : gType s = tyF 4 s := (tyF_rd 4 s).symm
theorem rdTy_of : ∀ (f : Nat) (s : List UInt8) (T : Ty), rdTy f s = some T → tyT T = s ∧ T.dp ≤ f
  | 0, s, T, h => by simp [rdTy] at h
  | f + 1, s, T, h => by
    rw [rdTy] at h
    by_cases h1 : s = [105, 110, 116]
    · rw [if_pos h1] at h; cases h; subst h1; exact ⟨rfl, by simp [Ty.dp]⟩
    rw [if_neg h1] at h
    by_cases h2 : s = [98, 111, 111, 108]
    · rw [if_pos h2] at h; cases h; subst h2; exact ⟨rfl, by simp [Ty.dp]⟩
    rw [if_neg h2] at h
    by_cases h3 : s = [116, 101, 120, 116]
    · rw [if_pos h3] at h; cases h; subst h3; exact ⟨rfl, by simp [Ty.dp]⟩
    rw [if_neg h3] at h
    rcases e1 : betw s [91] [93] with _ | y
    · rw [e1] at h
      rcases e2 : betw s [123, 105, 110, 116, 58] [125] with _ | y
      · rw [e2] at h
        rcases e3 : betw s [123, 116, 101, 120, 116, 58] [125] with _ | y
        · rw [e3] at h; simp at h
        · rw [e3] at h
          simp only [Option.map_eq_some_iff] at h
          obtain ⟨T', h, rfl⟩ := h
          obtain ⟨g1, g2⟩ := rdTy_of f y T' h
          have := (betw_iff _ _ _ _).1 e3
          exact ⟨by rw [this]; simp [tyT, keyT, g1], by simp [Ty.dp]; omega⟩
      · rw [e2] at h
        simp only [Option.map_eq_some_iff] at h
        obtain ⟨T', h, rfl⟩ := h
        obtain ⟨g1, g2⟩ := rdTy_of f y T' h
        have := (betw_iff _ _ _ _).1 e2
        exact ⟨by rw [this]; simp [tyT, keyT, g1], by simp [Ty.dp]; omega⟩
    · rw [e1] at h
      simp only [Option.map_eq_some_iff] at h
      obtain ⟨T', h, rfl⟩ := h
      obtain ⟨g1, g2⟩ := rdTy_of f y T' h
      have := (betw_iff _ _ _ _).1 e1
      exact ⟨by rw [this]; simp [tyT, g1], by simp [Ty.dp]; omega⟩
theorem rdTy_ty : ∀ (T : Ty) (f : Nat), T.dp ≤ f → rdTy f (tyT T) = some T
  | .int, f + 1, h => by simp [rdTy, tyT]
  | .bool, f + 1, h => by simp [rdTy, tyT]
  | .text, f + 1, h => by simp [rdTy, tyT]
  | .list t, f + 1, h => by
    have ih := rdTy_ty t f (by simp [Ty.dp] at h; omega)
    rw [rdTy, tyT, if_neg (by simp), if_neg (by simp), if_neg (by simp), (betw_iff _ _ _ (tyT t)).2 rfl]
    simp [ih]
  | .map true t, f + 1, h => by
    have ih := rdTy_ty t f (by simp [Ty.dp] at h; omega)
    rw [rdTy, tyT, if_neg (by simp), if_neg (by simp), if_neg (by simp), betw_none _ _ _ (fun z => by simp), (betw_iff _ _ _ (tyT t)).2 (by simp [keyT])]
    simp [ih]
  | .map false t, f + 1, h => by
    have ih := rdTy_ty t f (by simp [Ty.dp] at h; omega)
    rw [rdTy, tyT, if_neg (by simp), if_neg (by simp), if_neg (by simp), betw_none _ _ _ (fun z => by simp), betw_none _ _ _ (fun z => by simp [keyT]), (betw_iff _ _ _ (tyT t)).2 (by simp [keyT])]
    simp [ih]
theorem tyOf_iff (s : List UInt8) (T : Ty) : tyOf s = some T ↔ tyT T = s ∧ T.dp ≤ 4 :=
  ⟨rdTy_of 4 s T, fun ⟨h1, h2⟩ => by rw [← h1]; exact rdTy_ty T 4 h2⟩
theorem tyOf_ty {T : Ty} (h : T.dp ≤ 4) : tyOf (tyT T) = some T := (tyOf_iff _ _).2 ⟨rfl, h⟩
theorem Ty.dp_pos : ∀ T : Ty, 1 ≤ T.dp
  | .int => by simp [Ty.dp] | .bool => by simp [Ty.dp] | .text => by simp [Ty.dp]
  | .list t => by simp [Ty.dp]
  | .map k t => by simp [Ty.dp]
theorem tyT_len : ∀ T : Ty, 3 ≤ (tyT T).length ∧ (tyT T).length ≤ 7 * T.dp
  | .int => by simp [tyT, Ty.dp] | .bool => by simp [tyT, Ty.dp] | .text => by simp [tyT, Ty.dp]
  | .list t => by have := tyT_len t; simp [tyT, Ty.dp]; omega
  | .map k t => by have := tyT_len t; cases k <;> (simp [tyT, Ty.dp, keyT]; omega)
/-- What stands within a type's brackets; none: there are none such. -/
def innT (s : List UInt8) : Option (List UInt8) :=
  if 2 < s.length ∧ s[0]? = some 91 ∧ s[s.length - 1]? = some 93 then some ((s.take (s.length - 1)).drop 1)
  else if 6 < s.length ∧ s.take 5 = [123, 105, 110, 116, 58] ∧ s[s.length - 1]? = some 125 then some ((s.take (s.length - 1)).drop 5)
  else if 7 < s.length ∧ s.take 6 = [123, 116, 101, 120, 116, 58] ∧ s[s.length - 1]? = some 125 then some ((s.take (s.length - 1)).drop 6)
  else none
def depF : Nat → List UInt8 → Nat
  | 0, _ => 0
  | f + 1, s =>
    if s = [105, 110, 116] ∨ s = [98, 111, 111, 108] ∨ s = [116, 101, 120, 116] then 1
    else match innT s with
      | none => 0
      | some y => if 200 < s.length then 0 else if depF f y = 0 then 0 else depF f y + 1
def dep (s : List UInt8) : Nat := depF (s.length + 1) s
theorem innT_lt {s y : List UInt8} (h : innT s = some y) : y.length < s.length := by
  unfold innT at h
  split at h
  · rename_i h1; cases h; simp; omega
  · split at h
    · rename_i h1; cases h; simp; omega
    · split at h
      · rename_i h1; cases h; simp; omega
      · cases h
theorem depF_any : ∀ (f g : Nat) (s : List UInt8), s.length < f → s.length < g → depF f s = depF g s
  | 0, _, _, h, _ => by omega
  | _, 0, _, _, h => by omega
  | f + 1, g + 1, s, h1, h2 => by
    simp only [depF]
    split
    · rfl
    · rcases hi : innT s with _ | y
      · rfl
      · have := innT_lt hi
        simp only [depF_any f g y (by omega) (by omega)]
theorem dep_eq (s : List UInt8) : dep s = if s = [105, 110, 116] ∨ s = [98, 111, 111, 108] ∨ s = [116, 101, 120, 116] then 1 else match innT s with
    | none => 0
    | some y => if 200 < s.length then 0 else if dep y = 0 then 0 else dep y + 1 := by
  unfold dep
  rw [depF]
  split
  · rfl
  · rcases hi : innT s with _ | y
    · rfl
    · have := innT_lt hi
      simp only [depF_any s.length (y.length + 1) y (by omega) (by omega)]
/-- Where it ends with a byte. -/
theorem take_last {s : List UInt8} {c : UInt8} (h : s[s.length - 1]? = some c) : s = s.take (s.length - 1) ++ [c] := by
  have hl : s.length - 1 < s.length := by
    by_cases h0 : s.length - 1 < s.length
    · exact h0
    · rw [List.getElem?_eq_none (by omega)] at h; cases h
  have e := List.take_append_drop (s.length - 1) s
  rw [List.drop_eq_getElem_cons hl] at e
  rw [List.getElem?_eq_getElem hl] at h
  have h2 : s[s.length - 1] = c := by simpa using h
  rw [h2, List.drop_eq_nil_of_le (by omega)] at e
  exact e.symm
theorem innT_of {s y : List UInt8} (h : innT s = some y) : s = [91] ++ y ++ [93] ∨ s = [123, 105, 110, 116, 58] ++ y ++ [125] ∨ s = [123, 116, 101, 120, 116, 58] ++ y ++ [125] := by
  unfold innT at h
  split at h
  · rename_i h1
    refine Or.inl ?_
    have e := take_last h1.2.2
    have e2 : (s.take (s.length - 1)) = 91 :: ((s.take (s.length - 1)).drop 1) := by
      have h3 : (s.take (s.length - 1))[0]? = some 91 := by rw [List.getElem?_take]; rw [if_pos (by omega)]; exact h1.2.1
      have h4 : 0 < (s.take (s.length - 1)).length := by simp; omega
      rw [List.getElem?_eq_getElem h4] at h3
      have h5 : (s.take (s.length - 1))[0] = 91 := by simpa using h3
      have h6 := List.drop_eq_getElem_cons h4
      rw [h5, List.drop_zero] at h6
      exact h6
    rw [e2] at e
    cases h
    simpa using e
  · split at h
    · rename_i h1
      refine Or.inr (Or.inl ?_)
      have e := take_last h1.2.2
      have e2 : (s.take (s.length - 1)) = [123, 105, 110, 116, 58] ++ ((s.take (s.length - 1)).drop 5) := by
        have h6 := (List.take_append_drop 5 (s.take (s.length - 1))).symm
        rw [List.take_take, show min 5 (s.length - 1) = 5 from by omega, h1.2.1] at h6
        exact h6
      rw [e2] at e
      cases h
      simpa using e
    · split at h
      · rename_i h1
        refine Or.inr (Or.inr ?_)
        have e := take_last h1.2.2
        have e2 : (s.take (s.length - 1)) = [123, 116, 101, 120, 116, 58] ++ ((s.take (s.length - 1)).drop 6) := by
          have h6 := (List.take_append_drop 6 (s.take (s.length - 1))).symm
          rw [List.take_take, show min 6 (s.length - 1) = 6 from by omega, h1.2.1] at h6
          exact h6
        rw [e2] at e
        cases h
        simpa using e
      · cases h
theorem innT_list {y : List UInt8} (h : 0 < y.length) : innT ([91] ++ y ++ [93]) = some y := by
  unfold innT
  rw [if_pos ⟨by simp; omega, by simp, by simp⟩]
  simp
theorem innT_int {y : List UInt8} (h : 0 < y.length) : innT ([123, 105, 110, 116, 58] ++ y ++ [125]) = some y := by
  unfold innT
  rw [if_neg (by simp), if_pos ⟨by simp; omega, by simp, by simp⟩]
  simp
theorem innT_text {y : List UInt8} (h : 0 < y.length) : innT ([123, 116, 101, 120, 116, 58] ++ y ++ [125]) = some y := by
  unfold innT
  rw [if_neg (by simp), if_neg (by simp), if_pos ⟨by simp; omega, by simp, by simp⟩]
  simp
/-- Where it is one, it is just so deep. -/
theorem dep_just : ∀ (n : Nat) (s : List UInt8), s.length ≤ n → 1 ≤ dep s → ∃ T : Ty, tyT T = s ∧ T.dp = dep s
  | n, s, hn, h => by
    rw [dep_eq] at h ⊢
    split
    · rename_i h1
      rcases h1 with rfl | rfl | rfl
      · exact ⟨.int, rfl, rfl⟩
      · exact ⟨.bool, rfl, rfl⟩
      · exact ⟨.text, rfl, rfl⟩
    · rename_i h1
      rw [if_neg h1] at h
      rcases hi : innT s with _ | y
      · rw [hi] at h; simp at h
      · have hlt := innT_lt hi
        simp only [hi] at h ⊢
        split at h
        · omega
        · rename_i h2
          rw [if_neg h2]
          split at h
          · omega
          · rename_i h3
            rw [if_neg h3]
            obtain ⟨n, rfl⟩ : ∃ m, n = m + 1 := ⟨n - 1, by omega⟩
            obtain ⟨T, g1, g2⟩ := dep_just n y (by omega) (by omega)
            rcases innT_of hi with e | e | e
            · exact ⟨.list T, by rw [e]; simp [tyT, g1], by simp [Ty.dp, g2]⟩
            · exact ⟨.map true T, by rw [e]; simp [tyT, keyT, g1], by simp [Ty.dp, g2]⟩
            · exact ⟨.map false T, by rw [e]; simp [tyT, keyT, g1], by simp [Ty.dp, g2]⟩
theorem ty_dep : ∀ T : Ty, T.dp ≤ 20 → dep (tyT T) = T.dp
  | .int, _ => by rw [dep_eq, if_pos (by simp [tyT])]; rfl
  | .bool, _ => by rw [dep_eq, if_pos (by simp [tyT])]; rfl
  | .text, _ => by rw [dep_eq, if_pos (by simp [tyT])]; rfl
  | .list t, h => by
    have hl := tyT_len t
    have hp := Ty.dp_pos t
    simp only [Ty.dp] at h ⊢
    have ih := ty_dep t (by omega)
    rw [tyT, dep_eq, if_neg (by simp), innT_list (by omega)]
    simp only []
    rw [if_neg (by simp; omega), if_neg (by omega), ih]
  | .map k t, h => by
    have hl := tyT_len t
    have hp := Ty.dp_pos t
    simp only [Ty.dp] at h ⊢
    have ih := ty_dep t (by omega)
    have e : innT (tyT (.map k t)) = some (tyT t) := by
      cases k
      · have := innT_text (y := tyT t) (by omega)
        simpa [tyT, keyT] using this
      · have := innT_int (y := tyT t) (by omega)
        simpa [tyT, keyT] using this
    rw [dep_eq, if_neg (by cases k <;> simp [tyT, keyT]), e]
    simp only []
    rw [if_neg (by cases k <;> (simp [tyT, keyT]; omega)), if_neg (by omega), ih]
theorem gType_dep (s : List UInt8) : gType s = decide (1 ≤ dep s ∧ dep s ≤ 4) := by
  unfold gType
  rcases h : tyOf s with _ | T
  · rw [decide_eq_false]; · rfl
    rintro ⟨h1, h2⟩
    obtain ⟨T, g1, g2⟩ := dep_just _ s (Nat.le_refl _) h1
    rw [(tyOf_iff s T).2 ⟨g1, by omega⟩] at h
    cases h
  · obtain ⟨g1, g2⟩ := (tyOf_iff s T).1 h
    have := ty_dep T (by omega)
    rw [g1] at this
    have := Ty.dp_pos T
    rw [decide_eq_true ⟨by omega, by omega⟩]; rfl
end Go.Proofs.Ytndahpcjkcihlaa
