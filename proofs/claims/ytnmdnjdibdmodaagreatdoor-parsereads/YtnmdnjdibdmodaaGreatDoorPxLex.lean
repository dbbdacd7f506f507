/- The tokens of a text are good: the end's is the last one, and no other is. -/
import Derived.Test.YtnmdnjdibdmodaaGreatDoorPx
import Derived.Test.YtnmdnjdibdmodaaGreatDoorBlanks
import Derived.Test.YtnmdnjdibdmodaaGreatDoorCutsWalk
namespace Go.Proofs.YtnmdnjdibdmodaaGreatDoor
set_option linter.unusedVariables false

theorem lexGo_good (dot : Bool) (l : List UInt8) : ∀ (N i c : Nat) (ts : List Lx.Tok), l.length - i < N → i ≤ l.length → Lx.lexGo dot (l.drop i) i c = .inl ts → Px.Good ts := by
  intro N
  induction N with
  | zero => intro i c ts hN; omega
  | succ N ih =>
    intro i c ts hN hi h
    obtain ⟨u, rest, rfl, hpl, hc, hcase⟩ := first_tok h
    have hkl := Lx.skip_le false (l.drop i)
    simp only [List.length_drop] at hkl
    rcases hcase with ⟨hd, rfl, rfl⟩ | ⟨x, r, k, t, m, n, hd, ht, rfl, hrest⟩
    · rfl
    · have hkn := tok_kinds ht
      have hlen := congrArg List.length hd
      simp at hlen
      rw [List.drop_drop, ← Nat.add_assoc] at hrest
      have hg := ih (i + Lx.skipF false (l.drop i) + n) (c + 1) rest (by omega) (by omega) hrest
      match rest, hg with
      | u :: r, hg => exact ⟨hkn.1, hg⟩
theorem lex_good {dot : Bool} {l : List UInt8} {ts : List Lx.Tok} (h : Lx.lex dot l = .inl ts) : Px.Good ts := by
  have hle := (lex_nonempty h).2
  unfold Lx.lex at h
  rw [if_neg (by omega)] at h
  exact lexGo_good dot l (l.length + 1) 0 0 ts (by omega) (by omega) (by simpa using h)
/-- Where a fault of a text's parts is. -/
theorem parse_place {l : List UInt8} {ts : List Lx.Tok} {a e : Nat} (h : Lx.lex true l = .inl ts) (hp : Px.program ts = .inr (a, e)) : (∃ t ∈ ts, t.place = a) ∧ (e = 31 ∨ e = 32) :=
  (Px.program_ok ts (lex_good h)).bad a e hp
end Go.Proofs.YtnmdnjdibdmodaaGreatDoor
