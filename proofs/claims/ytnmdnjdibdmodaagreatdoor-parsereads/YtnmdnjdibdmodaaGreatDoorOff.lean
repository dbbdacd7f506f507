/- Where a text's first fault is. Plain mathematics. -/
import Derived.Test.YtnmdnjdibdmodaaGreatDoorCutsWalk
import Derived.Test.YtnmdnjdibdmodaaGreatDoorBlanks
namespace Go.Proofs.YtnmdnjdibdmodaaGreatDoor
set_option linter.unusedSimpArgs false
set_option linter.unusedVariables false

theorem quote_off : ∀ (N : Nat) (l : List UInt8) (o : Nat) (acc : List UInt8) (a er : Nat), l.length ≤ N → Lx.quoteR l o acc = Lx.R.bad a er → a ≤ o + l.length
  | N, [], o, acc, a, er, _, h => by simp [Lx.quoteR, Lx.R.bad] at h; omega
  | 0, c :: r, o, acc, a, er, hN, h => by simp at hN
  | N + 1, c :: r, o, acc, a, er, hN, h => by
    rw [quoteR_cons] at h
    simp only [List.length_cons] at hN ⊢
    split at h
    · split at h
      · simp [Lx.R.ok, Lx.R.bad] at h
      · simp [Lx.R.bad] at h; omega
    · split at h
      · split at h
        · simp [Lx.R.bad] at h; omega
        · split at h
          · rename_i d r' _
            have := quote_off N r' (o + 2) _ a er (by simp at hN; omega) h
            simp only [List.length_cons]; omega
          · simp [Lx.R.bad] at h; omega
      · split at h
        · have := quote_off N r (o + 1) _ a er (by omega) h
          omega
        · simp [Lx.R.bad] at h; omega
theorem tok_off {dot : Bool} {l : List UInt8} {a er : Nat} (h : Lx.tokR dot l = Lx.R.bad a er) : a ≤ l.length := by
  match l, h with
  | [], h => simp [Lx.tokR, Lx.R.ok, Lx.R.bad] at h
  | c :: r, h =>
    simp only [Lx.tokR] at h
    split at h
    · unfold Lx.nameR at h
      split at h
      · simp [Lx.R.ok, Lx.R.bad] at h
      · simp [Lx.R.bad] at h; omega
    · split at h
      · unfold Lx.numberR at h
        split at h
        · simp [Lx.R.bad] at h; omega
        · split at h
          · simp [Lx.R.ok, Lx.R.bad] at h
          · simp [Lx.R.bad] at h; omega
      · split at h
        · have := quote_off r.length r 1 [] a er (Nat.le_refl _) h
          simp only [List.length_cons]; omega
        · unfold Lx.markR at h
          split at h
          · simp [Lx.R.bad] at h; omega
          · simp [Lx.R.ok, Lx.R.bad] at h
theorem lexF_off (dot : Bool) : ∀ (f : Nat) (l : List UInt8) (i c a er : Nat), l.length < f → Lx.lexF dot f l i c = .inr (a, er) → a ≤ i + l.length
  | 0, l, i, c, a, er, hf, h => by omega
  | f + 1, l, i, c, a, er, hf, h => by
    have hk := Lx.skip_le false l
    simp only [Lx.lexF] at h
    split at h
    · split at h
      · simp at h
      · simp at h; omega
    · rename_i x r hd
      have hl := congrArg List.length hd
      simp at hl
      split at h
      · rename_i o e ht
        simp at h
        have := tok_off ht
        simp only [List.length_cons] at this
        omega
      · rename_i k t m n ht
        have hkn := tok_kinds ht
        split at h
        · rcases hg : Lx.lexF dot f (r.drop (n - 1)) (i + Lx.skipF false l + n) (c + 1) with ts | ⟨a', e'⟩
          · rw [hg] at h; simp [Lx.Out.pre] at h
          · rw [hg] at h
            simp [Lx.Out.pre] at h
            have := lexF_off dot f _ _ _ a' e' (by simp; omega) hg
            simp only [List.length_drop] at this
            omega
        · simp at h; omega
theorem lex_off {dot : Bool} {l : List UInt8} {a er : Nat} (h : Lx.lex dot l = .inr (a, er)) : a ≤ l.length := by
  unfold Lx.lex at h
  split at h
  · simp at h; omega
  · have := lexF_off dot _ l 0 0 a er (Nat.lt_succ_self _) h
    omega

end Go.Proofs.YtnmdnjdibdmodaaGreatDoor
