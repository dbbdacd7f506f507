/- The statement on cuts, walked. -/
import Derived.Test.YtnmdnjdibdmodaaGreatDoorSame
import Derived.Test.YtnmdnjdibdmodaaGreatDoorBackWalk
namespace Go.Proofs.YtnmdnjdibdmodaaGreatDoor
open Go.RowKit
set_option linter.unusedSimpArgs false
set_option linter.unusedVariables false

theorem lex_nonempty {dot : Bool} {l : List UInt8} {ts : List Lx.Tok} (h : Lx.lex dot l = .inl ts) : 0 < ts.length ∧ l.length ≤ 16384 := by
  unfold Lx.lex at h
  split at h
  · simp at h
  · refine ⟨?_, by omega⟩
    rcases hd : l.drop (Lx.skipF false l) with _ | ⟨x, r⟩
    · rw [Lx.lexGo_end hd] at h
      simp at h; subst h; simp
    · rcases ht : Lx.tokR dot (x :: r) with ⟨k, t, m, n⟩ | ⟨o, e⟩
      · rw [Lx.lexGo_ok hd ht (tok_kinds ht).2.1] at h
        simp only [Nat.zero_lt_succ, if_true] at h
        rcases hg : Lx.lexGo dot (l.drop (Lx.skipF false l + n)) (0 + Lx.skipF false l + n) (0 + 1) with ts' | y
        · rw [hg] at h; simp [Lx.Out.pre] at h; subst h; simp
        · rw [hg] at h; simp [Lx.Out.pre] at h
      · rw [Lx.lexGo_bad hd ht] at h; simp at h
theorem lexF_few (dot : Bool) : ∀ (f : Nat) (l : List UInt8) (i c : Nat) (ts : List Lx.Tok), l.length < f → Lx.lexF dot f l i c = .inl ts → c + ts.length ≤ 4096
  | 0, l, i, c, ts, hf, h => by omega
  | f + 1, l, i, c, ts, hf, h => by
    simp only [Lx.lexF] at h
    split at h
    · split at h
      · simp at h; subst h; simp; omega
      · simp at h
    · rename_i x r hd
      have hl := congrArg List.length hd
      simp at hl
      split at h
      · simp at h
      · rename_i k t m n ht
        split at h
        · rcases hg : Lx.lexF dot f (r.drop (n - 1)) (i + Lx.skipF false l + n) (c + 1) with ts' | y
          · rw [hg] at h
            simp [Lx.Out.pre] at h
            subst h
            have := lexF_few dot f _ _ _ ts' (by simp; omega) hg
            simp; omega
          · rw [hg] at h; simp [Lx.Out.pre] at h
        · simp at h
theorem lex_few {dot : Bool} {l : List UInt8} {ts : List Lx.Tok} (h : Lx.lex dot l = .inl ts) : ts.length ≤ 4096 := by
  unfold Lx.lex at h
  split at h
  · simp at h
  · have := lexF_few dot _ l 0 0 ts (Nat.lt_succ_self _) h
    omega
theorem lex_cut0 {dot : Bool} {l : List UInt8} {ts : List Lx.Tok} {j : Nat} {t : Lx.Tok} (h : Lx.lex dot l = .inl ts) (ht : ts[j]? = some t) :
    Lx.lex dot (l.take t.place) = .inl (ts.take j ++ [⟨5, [], 0, t.place⟩]) ∧ t.place ≤ l.length := by
  have hle := (lex_nonempty h).2
  unfold Lx.lex at h
  rw [if_neg (by omega)] at h
  obtain ⟨h1, _, h3⟩ := lex_cut dot l.length l 0 0 ts j t (Nat.le_refl _) h ht
  simp at h1 h3
  refine ⟨?_, h3⟩
  unfold Lx.lex
  rw [if_neg (by simp; omega)]
  simpa using h1

end Go.Proofs.YtnmdnjdibdmodaaGreatDoor
