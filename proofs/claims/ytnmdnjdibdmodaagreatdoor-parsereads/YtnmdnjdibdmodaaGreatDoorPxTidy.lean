/- What kind a token is goes by its first byte, if it is no text. -/
import Derived.Test.YtnmdnjdibdmodaaGreatDoorPxLex
namespace Go.Proofs.YtnmdnjdibdmodaaGreatDoor
set_option linter.unusedVariables false

def cls : List UInt8 → Nat
  | [] => 5
  | c :: _ => if Lx.isLetter c then 1 else if Lx.isDigit c then 2 else 4
def Tidy (t : Lx.Tok) : Prop := t.kind = 3 ∨ t.kind = cls t.text
theorem tok_tidy {dot : Bool} {x : UInt8} {r : List UInt8} {k : Nat} {t : List UInt8} {m n : Nat} (h : Lx.tokR dot (x :: r) = Lx.R.ok k t m n) : k = 3 ∨ k = cls t := by
  simp only [Lx.tokR] at h
  split at h
  · rename_i hl
    unfold Lx.nameR at h
    split at h
    · simp only [Lx.R.ok, Sum.inl.injEq, Prod.mk.injEq] at h
      obtain ⟨rfl, rfl, _⟩ := h
      right
      rw [List.takeWhile_cons_of_pos (by simp [Lx.isPart, hl])]
      simp [cls, hl]
    · simp [Lx.R.ok, Lx.R.bad] at h
  · rename_i hl
    split at h
    · rename_i hd
      unfold Lx.numberR at h
      split at h
      · simp [Lx.R.ok, Lx.R.bad] at h
      · split at h
        · simp only [Lx.R.ok, Sum.inl.injEq, Prod.mk.injEq] at h
          obtain ⟨rfl, rfl, _⟩ := h
          right
          rw [List.takeWhile_cons_of_pos hd]
          simp [cls, hl, hd]
        · simp [Lx.R.ok, Lx.R.bad] at h
    · rename_i hd
      split at h
      · left
        exact (quote_kinds r.length r 1 [] k t m n (Nat.le_refl _) h).1
      · unfold Lx.markR at h
        split at h
        · simp [Lx.R.ok, Lx.R.bad] at h
        · rename_i hz
          simp only [Lx.R.ok, Sum.inl.injEq, Prod.mk.injEq] at h
          obtain ⟨rfl, rfl, _⟩ := h
          right
          obtain ⟨q, hq⟩ : ∃ q, Lx.markN dot (x :: r) = q + 1 := ⟨Lx.markN dot (x :: r) - 1, by omega⟩
          rw [hq, List.take_succ_cons]
          simp [cls, hl, hd]
theorem lexGo_tidy (dot : Bool) (l : List UInt8) : ∀ (N i c : Nat) (ts : List Lx.Tok), l.length - i < N → i ≤ l.length → Lx.lexGo dot (l.drop i) i c = .inl ts → ∀ t ∈ ts, Tidy t := by
  intro N
  induction N with
  | zero => intro i c ts hN; omega
  | succ N ih =>
    intro i c ts hN hi h
    obtain ⟨u, rest, rfl, hpl, hc, hcase⟩ := first_tok h
    have hkl := Lx.skip_le false (l.drop i)
    simp only [List.length_drop] at hkl
    rcases hcase with ⟨hd, rfl, rfl⟩ | ⟨x, r, k, t, m, n, hd, ht, rfl, hrest⟩
    · intro t ht
      simp at ht; subst ht
      exact Or.inr rfl
    · have hkn := tok_kinds ht
      have hlen := congrArg List.length hd
      simp at hlen
      rw [List.drop_drop, ← Nat.add_assoc] at hrest
      have hg := ih (i + Lx.skipF false (l.drop i) + n) (c + 1) rest (by omega) (by omega) hrest
      intro t' ht'
      simp only [List.mem_cons] at ht'
      rcases ht' with rfl | ht'
      · exact tok_tidy ht
      · exact hg t' ht'
theorem lex_tidy {dot : Bool} {l : List UInt8} {ts : List Lx.Tok} (h : Lx.lex dot l = .inl ts) : ∀ t ∈ ts, Tidy t := by
  have hle := (lex_nonempty h).2
  unfold Lx.lex at h
  rw [if_neg (by omega)] at h
  exact lexGo_tidy dot l (l.length + 1) 0 0 ts (by omega) (by omega) (by simpa using h)
/-- Whether a token is a word or a mark, by its text alone. -/
def isB (x : List UInt8) (t : Lx.Tok) : Bool := t.text == x && t.kind != 3
theorem isB_sees {x : List UInt8} {t : Lx.Tok} {r : List Lx.Tok} (h : Tidy t) (h3 : cls x ≠ 3) : isB x t = Px.sees (cls x) x (t :: r) := by
  simp only [isB, Px.sees]
  rw [Bool.eq_iff_iff]
  simp only [Bool.and_eq_true, beq_iff_eq, bne_iff_ne, ne_eq]
  constructor
  · rintro ⟨h1, h2⟩
    rcases h with h | h
    · exact absurd h h2
    · exact ⟨by rw [h, h1], h1⟩
  · rintro ⟨h1, h2⟩
    exact ⟨h2, by omega⟩
end Go.Proofs.YtnmdnjdibdmodaaGreatDoor
