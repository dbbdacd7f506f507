/- A token hangs on its own bytes, and on the one behind only so far; blanks and notes likewise. Plain mathematics. -/
import Derived.Test.YtnmdnjdibdmodaaGreatDoorBack
namespace Go.Proofs.YtnmdnjdibdmodaaGreatDoor
set_option linter.unusedSimpArgs false
set_option linter.unusedVariables false

/-- What may stand behind a token in place of what stood there: the same byte, nothing, a blank or a note. -/
def Behind (a b : Option UInt8) : Prop := b = a ∨ ∀ c, b = some c → Lx.isBlank c = true ∨ c = 35

theorem tw_same {p : UInt8 → Bool} : ∀ {l l2 : List UInt8}, l2.take (l.takeWhile p).length = l.take (l.takeWhile p).length →
    (∀ c, l2[(l.takeWhile p).length]? = some c → p c = false) → l2.takeWhile p = l.takeWhile p
  | [], [], _, _ => rfl
  | [], c :: r, _, h => by
    have := h c rfl
    simp [this]
  | a :: r, l2, h1, h2 => by
    by_cases ha : p a
    · simp only [List.takeWhile_cons_of_pos ha, List.length_cons] at h1 h2 ⊢
      rcases l2 with _ | ⟨b, r2⟩
      · simp at h1
      · simp only [List.take_succ_cons, List.cons.injEq] at h1
        obtain ⟨hba, h3⟩ := h1
        subst hba
        rw [List.takeWhile_cons_of_pos ha]
        congr 1
        exact tw_same h3 (fun c hc => h2 c (by simpa using hc))
    · simp only [List.takeWhile_cons_of_neg ha, List.length_nil] at h1 h2 ⊢
      rcases l2 with _ | ⟨b, r2⟩
      · rfl
      · have := h2 b rfl
        simp [this]
theorem tw_next {p : UInt8 → Bool} {l : List UInt8} {c : UInt8} (h : l[(l.takeWhile p).length]? = some c) : p c = false := by
  obtain ⟨hlt, he⟩ := List.getElem?_eq_some_iff.1 h
  rcases hp : p c with _ | _
  · rfl
  · have := Lx.tw_step (l := l) (p := p) (k := (l.takeWhile p).length) (Nat.le_refl _) hlt (by rw [he]; exact hp)
    omega
theorem part_no {c : UInt8} (h : Lx.isBlank c = true ∨ c = 35) : Lx.isPart c = false ∧ Lx.isDigit c = false ∧ c ≠ 61 ∧ c ≠ 38 ∧ c ≠ 124 := by
  have : c = 32 ∨ c = 10 ∨ c = 9 ∨ c = 35 := by
    rcases h with h | h
    · simp only [Lx.isBlank, Bool.or_eq_true, beq_iff_eq] at h
      rcases h with (h | h) | h <;> simp [h]
    · simp [h]
  rcases this with rfl | rfl | rfl | rfl <;> decide
theorem quote_local : ∀ (N : Nat) (l l2 : List UInt8) (o : Nat) (acc : List UInt8) (k : Nat) (t : List UInt8) (m n : Nat), l.length ≤ N → Lx.quoteR l o acc = Lx.R.ok k t m n → l2.take (n - o) = l.take (n - o) → Lx.quoteR l2 o acc = Lx.R.ok k t m n
  | N, [], l2, o, acc, k, t, m, n, _, h, _ => by simp [Lx.quoteR, Lx.R.bad, Lx.R.ok] at h
  | 0, c :: r, l2, o, acc, k, t, m, n, hN, h, _ => by simp at hN
  | N + 1, c :: r, l2, o, acc, k, t, m, n, hN, h, ht => by
    have hk := quote_kinds (N + 1) (c :: r) o acc k t m n hN h
    obtain ⟨q, hq⟩ : ∃ q, n - o = q + 1 := ⟨n - o - 1, by omega⟩
    rw [hq] at ht
    rcases l2 with _ | ⟨b, r2⟩
    · simp at ht
    · simp only [List.take_succ_cons, List.cons.injEq] at ht
      obtain ⟨hbc, ht2⟩ := ht
      subst hbc
      rw [quoteR_cons] at h ⊢
      simp only [List.length_cons] at hN
      split at h
      · rename_i h34; rw [if_pos h34]; exact h
      · rename_i h34
        rw [if_neg h34]
        split at h
        · rename_i h92
          rw [if_pos h92]
          rcases r with _ | ⟨d, r'⟩
          · simp [Lx.R.ok, Lx.R.bad] at h
          · simp only at h
            split at h
            · rename_i hd
              have hk2 := quote_kinds r'.length r' (o + 2) (acc ++ [d]) k t m n (Nat.le_refl _) h
              obtain ⟨q', hq'⟩ : ∃ q', q = q' + 1 := ⟨q - 1, by omega⟩
              rw [hq'] at ht2
              rcases r2 with _ | ⟨e, r2'⟩
              · simp at ht2
              · simp only [List.take_succ_cons, List.cons.injEq] at ht2
                obtain ⟨hed, ht3⟩ := ht2
                subst hed
                simp only [hd, if_true]
                exact quote_local N r' r2' (o + 2) _ k t m n (by simp at hN; omega) h (by rw [show n - (o + 2) = q' by omega]; exact ht3)
            · simp [Lx.R.ok, Lx.R.bad] at h
        · rename_i h92
          rw [if_neg h92]
          split at h
          · rename_i hp
            rw [if_pos hp]
            have hk2 := quote_kinds r.length r (o + 1) _ k t m n (Nat.le_refl _) h
            exact quote_local N r r2 (o + 1) _ k t m n (by omega) h (by rw [show n - (o + 1) = q by omega]; exact ht2)
          · simp [Lx.R.ok, Lx.R.bad] at h
theorem tok_local {dot : Bool} {x : UInt8} {r l2 : List UInt8} {k : Nat} {t : List UInt8} {m n : Nat} (h : Lx.tokR dot (x :: r) = Lx.R.ok k t m n)
    (ht : l2.take n = (x :: r).take n) (hb : Behind (x :: r)[n]? l2[n]?) : Lx.tokR dot l2 = Lx.R.ok k t m n := by
  have hk := tok_kinds h
  obtain ⟨n', rfl⟩ : ∃ n', n = n' + 1 := ⟨n - 1, by omega⟩
  match l2, ht, hb with
  | [], ht, _ => simp at ht
  | y :: r2, ht, hb =>
    have ht' := ht
    simp only [List.take_succ_cons, List.cons.injEq] at ht'
    obtain ⟨rfl, ht'⟩ := ht'
    simp only [Lx.tokR] at h ⊢
    split at h
    · rename_i hl
      rw [if_pos hl]
      unfold Lx.nameR at h ⊢
      split at h
      · rename_i h16
        simp only [Lx.R.ok, Sum.inl.injEq, Prod.mk.injEq] at h
        have e : (y :: r2).takeWhile Lx.isPart = (y :: r).takeWhile Lx.isPart := by
          rw [← h.2.2.2] at ht hb
          refine tw_same ht (fun c hc => ?_)
          rcases hb with hb | hb
          · exact tw_next (hb ▸ hc)
          · exact (part_no (hb c hc)).1
        rw [e, if_pos h16]
        simp only [Lx.R.ok, Sum.inl.injEq, Prod.mk.injEq]
        exact h
      · simp [Lx.R.ok, Lx.R.bad] at h
    · rename_i hl
      rw [if_neg hl]
      split at h
      · rename_i hd
        rw [if_pos hd]
        unfold Lx.numberR at h ⊢
        split at h
        · simp [Lx.R.ok, Lx.R.bad] at h
        · rename_i h48
          split at h
          · rename_i hv
            simp only [Lx.R.ok, Sum.inl.injEq, Prod.mk.injEq] at h
            have e : (y :: r2).takeWhile Lx.isDigit = (y :: r).takeWhile Lx.isDigit := by
              rw [← h.2.2.2] at ht hb
              refine tw_same ht (fun c hc => ?_)
              rcases hb with hb | hb
              · exact tw_next (hb ▸ hc)
              · exact (part_no (hb c hc)).2.1
            rw [e, if_neg h48, if_pos hv]
            simp only [Lx.R.ok, Sum.inl.injEq, Prod.mk.injEq]
            exact h
          · simp [Lx.R.ok, Lx.R.bad] at h
      · rename_i hd
        rw [if_neg hd]
        split at h
        · rename_i h34
          rw [if_pos h34]
          exact quote_local r.length r r2 1 [] k t m (n' + 1) (Nat.le_refl _) h (by simpa using ht')
        · rename_i h34
          rw [if_neg h34]
          unfold Lx.markR at h ⊢
          split at h
          · simp [Lx.R.ok, Lx.R.bad] at h
          · rename_i hz
            simp only [Lx.R.ok, Sum.inl.injEq, Prod.mk.injEq] at h
            have e : Lx.markN dot (y :: r2) = Lx.markN dot (y :: r) := by
              obtain ⟨_, _, _, hn⟩ := h
              clear hl hd h34 hz
              rcases h2 : Lx.two (y :: r) with _ | _
              · have hn1 : Lx.markN dot (y :: r) = if Lx.one dot y then 1 else 0 := by unfold Lx.markN; rw [h2]; rfl
                have hn0 : n' = 0 := by rw [hn1] at hn; split at hn <;> omega
                subst hn0
                have h22 : Lx.two (y :: r2) = false := by
                  rcases hr2 : r2 with _ | ⟨z, r3⟩
                  · rfl
                  · rcases hb with hb | hb
                    · rw [hr2] at hb
                      rcases r with _ | ⟨z', r'⟩
                      · simp at hb
                      · simp at hb; subst hb
                        simpa [Lx.two] using h2
                    · have := part_no (hb z (by rw [hr2]; rfl))
                      simp [Lx.two, this.2.2.1, this.2.2.2.1, this.2.2.2.2]
                rw [hn1]; unfold Lx.markN; rw [h22]; rfl
              · have hn2 : Lx.markN dot (y :: r) = 2 := by unfold Lx.markN; rw [h2]; rfl
                have hn0 : n' = 1 := by omega
                subst hn0
                rcases r with _ | ⟨z', r'⟩
                · simp [Lx.two] at h2
                · rcases r2 with _ | ⟨z, r3⟩
                  · simp at ht'
                  · simp at ht'; subst ht'
                    rw [hn2]; unfold Lx.markN
                    rw [show Lx.two (y :: z :: r3) = Lx.two (y :: z :: r') from rfl, h2]; rfl
            rw [e, if_neg hz]
            simp only [Lx.R.ok, Sum.inl.injEq, Prod.mk.injEq]
            rw [← h.2.2.2] at ht
            rw [ht]
            exact h
end Go.Proofs.YtnmdnjdibdmodaaGreatDoor
