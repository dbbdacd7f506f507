/- Numbers and values out of bytes. Plain mathematics. -/
import Derived.Test.YtkbplffckkjbfaaVnm
namespace Go.Proofs.Ytkbplffckkjbfaa
set_option linter.unusedVariables false
set_option linter.unusedSimpArgs false

/-- The number that bytes begin with, and how many it has: behind i bytes that made x. -/
def tkL : Nat → Nat → List UInt8 → Nat × Nat
  | _, _, [] => (0, 0)
  | i, x, c :: r => if 9 ≤ i then (0, 0) else if 128 ≤ c.toNat then tkL (i + 1) (x + c.toNat % 128 * 128 ^ i) r else if c.toNat = 0 ∧ 0 < i then (0, 0) else (x + c.toNat % 128 * 128 ^ i, i + 1)
def tk (bs : List UInt8) : Nat × Nat := tkL 0 0 bs
theorem tkL_nine {i x : Nat} {bs : List UInt8} (h : 9 ≤ i) : tkL i x bs = (0, 0) := by
  cases bs with
  | nil => rfl
  | cons c r => rw [tkL, if_pos h]
theorem tkL_drop {i x : Nat} {bs : List UInt8} {c : UInt8} (h : bs[i]? = some c) : tkL i x (bs.drop i) = if 9 ≤ i then (0, 0) else if 128 ≤ c.toNat then tkL (i + 1) (x + c.toNat % 128 * 128 ^ i) (bs.drop (i + 1)) else if c.toNat = 0 ∧ 0 < i then (0, 0) else (x + c.toNat % 128 * 128 ^ i, i + 1) := by
  obtain ⟨hi, rfl⟩ := List.getElem?_eq_some_iff.1 h
  rw [List.drop_eq_getElem_cons hi, tkL]
theorem pow_succ128 (i : Nat) : 128 ^ (i + 1) = 128 ^ i * 128 := Nat.pow_succ ..
theorem tkL_bound {x d i : Nat} (hx : x < 128 ^ i) (hd : d < 128) : x + d * 128 ^ i < 128 ^ (i + 1) := by
  rw [pow_succ128]
  have : d * 128 ^ i + 128 ^ i ≤ 128 * 128 ^ i := by
    have h := Nat.mul_le_mul_right (128 ^ i) (show d + 1 ≤ 128 by omega)
    rw [Nat.add_mul, Nat.one_mul] at h; exact h
  rw [Nat.mul_comm] at this
  rw [Nat.mul_comm (128 ^ i) 128]
  rw [Nat.mul_comm d] at *
  omega
theorem ofNat_toNat {n : Nat} (h : n < 256) : (UInt8.ofNat n).toNat = n := by
  rw [UInt8.toNat_ofNat']; omega
/-- What was put is taken. -/
theorem tkL_num : ∀ (f n i x : Nat) (r : List UInt8), n < 128 ^ (f + 1) → i + f ≤ 8 → (i = 0 ∨ 0 < n) → tkL i x (num n ++ r) = (x + n * 128 ^ i, i + (num n).length)
  | 0, n, i, x, r, hn, hi, hp => by
    have hn' : n < 128 := by simpa using hn
    rw [num_lt hn', List.singleton_append, tkL, if_neg (by omega), ofNat_toNat (by omega), if_neg (by omega), if_neg (by omega), Nat.mod_eq_of_lt hn']
    rfl
  | f + 1, n, i, x, r, hn, hi, hp => by
    by_cases h : n < 128
    · rw [num_lt h, List.singleton_append, tkL, if_neg (by omega), ofNat_toNat (by omega), if_neg (by omega), if_neg (by omega), Nat.mod_eq_of_lt h]
      rfl
    · have hq : n / 128 < 128 ^ (f + 1) := by rw [Nat.div_lt_iff_lt_mul (by omega)]; rw [pow_succ128] at hn; exact hn
      have ih := tkL_num f (n / 128) (i + 1) (x + n % 128 * 128 ^ i) r hq (by omega) (Or.inr (by omega))
      rw [num_ge h, List.cons_append, tkL, if_neg (by omega), ofNat_toNat (by omega), if_pos (by omega)]
      have e : (n % 128 + 128) % 128 = n % 128 := by omega
      rw [e, ih]
      have e2 : n % 128 * 128 ^ i + n / 128 * 128 ^ (i + 1) = n * 128 ^ i := by
        rw [pow_succ128, ← Nat.mul_assoc, Nat.mul_right_comm, ← Nat.add_mul]
        congr 1
        omega
      simp only [List.length_cons, Prod.mk.injEq]
      constructor
      · rw [Nat.add_assoc, e2]
      · omega
theorem tk_num {n : Nat} (h : n ≤ 9223372036854775807) (r : List UInt8) : tk (num n ++ r) = (n, (num n).length) := by
  have h8 : (128 : Nat) ^ (8 + 1) = 9223372036854775808 := by decide
  have := tkL_num 8 n 0 0 r (by omega) (by omega) (Or.inl rfl)
  unfold tk
  rw [this]
  simp
/-- What is taken are its bytes. -/
theorem tkL_back : ∀ (bs : List UInt8) (i x X k : Nat), tkL i x bs = (X, k) → 0 < k → ∃ n, X = x + n * 128 ^ i ∧ k ≤ 9 ∧ i < k ∧ k ≤ i + bs.length ∧ bs.take (k - i) = num n ∧ (0 < i → 0 < n)
  | [], i, x, X, k, h, hk => by rw [tkL] at h; simp only [Prod.mk.injEq] at h; omega
  | c :: r, i, x, X, k, h, hk => by
    have hc := c.toNat_lt
    rw [tkL] at h
    split at h
    · simp only [Prod.mk.injEq] at h; omega
    · split at h
      · rename_i h9 h128
        obtain ⟨n, h1, h2, h3, h4, h5, h6⟩ := tkL_back r (i + 1) _ X k h hk
        have hn := h6 (by omega)
        refine ⟨c.toNat % 128 + n * 128, ?_, h2, by omega, by simp; omega, ?_, fun _ => by omega⟩
        · rw [h1, pow_succ128, Nat.add_mul, Nat.mul_assoc, Nat.mul_comm 128 (128 ^ i)]
          omega
        · have e : k - i = (k - (i + 1)) + 1 := by omega
          have h7 := num_ge (n := c.toNat % 128 + n * 128) (by omega)
          rw [e, List.take_succ_cons, h5, h7]
          congr 1
          · have e1 : (c.toNat % 128 + n * 128) % 128 + 128 = c.toNat := by omega
            rw [e1]; simp
          · congr 1; omega
      · split at h
        · simp only [Prod.mk.injEq] at h; omega
        · rename_i h9 h128 h0
          simp only [Prod.mk.injEq] at h
          obtain ⟨rfl, rfl⟩ := h
          have hm : c.toNat % 128 = c.toNat := by omega
          refine ⟨c.toNat, by rw [hm], by omega, by omega, by simp only [List.length_cons]; omega, ?_, fun h => by omega⟩
          rw [show i + 1 - i = 1 by omega, num_lt (by omega)]
          simp
theorem tk_back {bs : List UInt8} {X k : Nat} (h : tk bs = (X, k)) (hk : 0 < k) : k ≤ bs.length ∧ bs.take k = num X ∧ X ≤ 9223372036854775807 := by
  obtain ⟨n, h1, h2, h3, h4, h5, h6⟩ := tkL_back bs 0 0 X k h hk
  have hX : X = n := by rw [h1]; simp
  subst hX
  refine ⟨by omega, by simpa using h5, ?_⟩
  -- at most nine digits
  have hl : (num X).length ≤ 9 := by rw [← h5]; simp; omega
  have hb : ∀ (f m : Nat), (num m).length ≤ f → m < 128 ^ f := by
    intro f
    induction f with
    | zero => intro m hm; by_cases h : m < 128
              · rw [num_lt h] at hm; simp at hm
              · rw [num_ge h] at hm; simp at hm
    | succ f ih =>
      intro m hm
      by_cases h : m < 128
      · have : 128 ^ 1 ≤ 128 ^ (f + 1) := Nat.pow_le_pow_right (by omega) (by omega)
        omega
      · rw [num_ge h] at hm
        have := ih (m / 128) (by simp at hm; omega)
        rw [Nat.div_lt_iff_lt_mul (by omega)] at this
        rw [pow_succ128]; exact this
  have := hb 9 X hl
  have h9 : (128 : Nat) ^ 9 = 9223372036854775808 := by decide
  omega
end Go.Proofs.Ytkbplffckkjbfaa
