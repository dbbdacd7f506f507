/- A token hangs on its own bytes; behind it may stand any byte that can't go on with it. Plain mathematics. -/
import Derived.Test.YtnmdnjdibdmodaaGreatDoorBlanks
namespace Go.Proofs.YtnmdnjdibdmodaaGreatDoor
set_option linter.unusedSimpArgs false
set_option linter.unusedVariables false

/-- A byte that no name, number or mark goes on with. -/
def Sep (c : UInt8) : Prop := Lx.isPart c = false ∧ Lx.isDigit c = false ∧ c ≠ 61 ∧ c ≠ 38 ∧ c ≠ 124
/-- What may stand behind a token in place of what stood there: the same byte, or nothing, or a byte that can't go on with it. -/
def Beside (a b : Option UInt8) : Prop := b = a ∨ ∀ c, b = some c → Sep c
theorem tok_sep {dot : Bool} {x : UInt8} {r l2 : List UInt8} {k : Nat} {t : List UInt8} {m n : Nat} (h : Lx.tokR dot (x :: r) = Lx.R.ok k t m n)
    (ht : l2.take n = (x :: r).take n) (hb : Beside (x :: r)[n]? l2[n]?) : Lx.tokR dot l2 = Lx.R.ok k t m n := by
  have hk := tok_kinds h
  obtain ⟨n', rfl⟩ : ∃ n', n = n' + 1 := ⟨n - 1, by omega⟩
  match l2, ht, hb with
  | [], ht, _ => simp at ht
  | y :: r2, ht, hb =>
    have ht' := ht
    simp only [List.take_succ_cons, List.cons.injEq] at ht'
    obtain ⟨rfl, ht'⟩ := ht'
    simp only [Lx.tokR] at h ⊢
    split at h
    · rename_i hl
      rw [if_pos hl]
      unfold Lx.nameR at h ⊢
      split at h
      · rename_i h16
        simp only [Lx.R.ok, Sum.inl.injEq, Prod.mk.injEq] at h
        have e : (y :: r2).takeWhile Lx.isPart = (y :: r).takeWhile Lx.isPart := by
          rw [← h.2.2.2] at ht hb
          refine tw_same ht (fun c hc => ?_)
          rcases hb with hb | hb
          · exact tw_next (hb ▸ hc)
          · exact (hb c hc).1
        rw [e, if_pos h16]
        simp only [Lx.R.ok, Sum.inl.injEq, Prod.mk.injEq]
        exact h
      · simp [Lx.R.ok, Lx.R.bad] at h
    · rename_i hl
      rw [if_neg hl]
      split at h
      · rename_i hd
        rw [if_pos hd]
        unfold Lx.numberR at h ⊢
        split at h
        · simp [Lx.R.ok, Lx.R.bad] at h
        · rename_i h48
          split at h
          · rename_i hv
            simp only [Lx.R.ok, Sum.inl.injEq, Prod.mk.injEq] at h
            have e : (y :: r2).takeWhile Lx.isDigit = (y :: r).takeWhile Lx.isDigit := by
              rw [← h.2.2.2] at ht hb
              refine tw_same ht (fun c hc => ?_)
              rcases hb with hb | hb
              · exact tw_next (hb ▸ hc)
              · exact (hb c hc).2.1
            rw [e, if_neg h48, if_pos hv]
            simp only [Lx.R.ok, Sum.inl.injEq, Prod.mk.injEq]
            exact h
          · simp [Lx.R.ok, Lx.R.bad] at h
      · rename_i hd
        rw [if_neg hd]
        split at h
        · rename_i h34
          rw [if_pos h34]
          exact quote_local r.length r r2 1 [] k t m (n' + 1) (Nat.le_refl _) h (by simpa using ht')
        · rename_i h34
          rw [if_neg h34]
          unfold Lx.markR at h ⊢
          split at h
          · simp [Lx.R.ok, Lx.R.bad] at h
          · rename_i hz
            simp only [Lx.R.ok, Sum.inl.injEq, Prod.mk.injEq] at h
            have e : Lx.markN dot (y :: r2) = Lx.markN dot (y :: r) := by
              obtain ⟨_, _, _, hn⟩ := h
              clear hl hd h34 hz
              rcases h2 : Lx.two (y :: r) with _ | _
              · have hn1 : Lx.markN dot (y :: r) = if Lx.one dot y then 1 else 0 := by unfold Lx.markN; rw [h2]; rfl
                have hn0 : n' = 0 := by rw [hn1] at hn; split at hn <;> omega
                subst hn0
                have h22 : Lx.two (y :: r2) = false := by
                  rcases hr2 : r2 with _ | ⟨z, r3⟩
                  · rfl
                  · rcases hb with hb | hb
                    · rw [hr2] at hb
                      rcases r with _ | ⟨z', r'⟩
                      · simp at hb
                      · simp at hb; subst hb
                        simpa [Lx.two] using h2
                    · have := hb z (by rw [hr2]; rfl)
                      simp [Lx.two, this.2.2.1, this.2.2.2.1, this.2.2.2.2]
                rw [hn1]; unfold Lx.markN; rw [h22]; rfl
              · have hn2 : Lx.markN dot (y :: r) = 2 := by unfold Lx.markN; rw [h2]; rfl
                have hn0 : n' = 1 := by omega
                subst hn0
                rcases r with _ | ⟨z', r'⟩
                · simp [Lx.two] at h2
                · rcases r2 with _ | ⟨z, r3⟩
                  · simp at ht'
                  · simp at ht'; subst ht'
                    rw [hn2]; unfold Lx.markN
                    rw [show Lx.two (y :: z :: r3) = Lx.two (y :: z :: r') from rfl, h2]; rfl
            rw [e, if_neg hz]
            simp only [Lx.R.ok, Sum.inl.injEq, Prod.mk.injEq]
            rw [← h.2.2.2] at ht
            rw [ht]
            exact h
end Go.Proofs.YtnmdnjdibdmodaaGreatDoor
