/- Numbers and values as bytes. Plain mathematics. -/
import Derived.Test.YtkbplffckkjbfaaVs
namespace Go.Proofs.Ytkbplffckkjbfaa
set_option linter.unusedVariables false
set_option linter.unusedSimpArgs false

/-- A number's bytes. -/
def num (n : Nat) : List UInt8 := if h : n < 128 then [UInt8.ofNat n] else UInt8.ofNat (n % 128 + 128) :: num (n / 128)
termination_by n
decreasing_by omega
theorem num_lt {n : Nat} (h : n < 128) : num n = [UInt8.ofNat n] := by rw [num, dif_pos h]
theorem num_ge {n : Nat} (h : ¬ n < 128) : num n = UInt8.ofNat (n % 128 + 128) :: num (n / 128) := by rw [num, dif_neg h]
theorem num_len : ∀ (f n : Nat), n < 128 ^ (f + 1) → 1 ≤ (num n).length ∧ (num n).length ≤ f + 1
  | 0, n, h => by rw [num_lt (by omega)]; simp
  | f + 1, n, h => by
    by_cases hn : n < 128
    · rw [num_lt hn]; simp
    · rw [num_ge hn]
      have := num_len f (n / 128) (by rw [Nat.div_lt_iff_lt_mul (by omega)]; rw [Nat.pow_succ] at h; exact h)
      simp; omega
theorem num_len10 {n : Nat} (h : n ≤ 9223372036854775807) : 1 ≤ (num n).length ∧ (num n).length ≤ 9 := by
  refine num_len 8 n ?_
  have : (128 : Nat) ^ (8 + 1) = 9223372036854775808 := by decide
  omega
def nums (xs : List Int) : List UInt8 := xs.flatMap fun x => num x.toNat
mutual
/-- A value's bytes. -/
def enc : V → List UInt8
  | .mk k n t l => (if k = 1 then (if n < 0 then num 1 ++ num (-(n + 1)).toNat else num 0 ++ num n.toNat) else if k = 2 then num n.toNat else if k = 3 then num t.length ++ t else if k = 4 then num l.length else if k = 5 then num (l.length / 2) else []) ++ encs l
def encs : List V → List UInt8
  | [] => []
  | v :: r => enc v ++ encs r
end
/-- What stands ahead of a value's parts. -/
def encH (v : V) : List UInt8 := if v.k = 1 then (if v.n < 0 then num 1 ++ num (-(v.n + 1)).toNat else num 0 ++ num v.n.toNat) else if v.k = 2 then num v.n.toNat else if v.k = 3 then num v.t.length ++ v.t else if v.k = 4 then num v.l.length else if v.k = 5 then num (v.l.length / 2) else []
theorem enc_eq (v : V) : enc v = encH v ++ encs v.l := by cases v; rw [enc]; rfl
theorem encs_append : ∀ a b : List V, encs (a ++ b) = encs a ++ encs b
  | [], b => by simp [encs]
  | x :: r, b => by simp [encs, encs_append r b]
theorem encs_take_succ {l : List V} {i : Nat} {x : V} (h : l[i]? = some x) : encs (l.take (i + 1)) = encs (l.take i) ++ enc x := by
  obtain ⟨hi, rfl⟩ := List.getElem?_eq_some_iff.1 h
  rw [List.take_succ_eq_append_getElem hi, encs_append]; simp [encs]
end Go.Proofs.Ytkbplffckkjbfaa
