/- A text that ends right ahead of a token has the tokens ahead of it, and the end. Plain mathematics. -/
import Derived.Test.YtnmdnjdibdmodaaGreatDoorLocal
namespace Go.Proofs.YtnmdnjdibdmodaaGreatDoor
set_option linter.unusedSimpArgs false
set_option linter.unusedVariables false

theorem skip_take : ∀ (b : Bool) (l : List UInt8) (q : Nat), Lx.skipF b l ≤ q → Lx.skipF b (l.take q) = Lx.skipF b l
  | b, [], q, _ => by simp
  | true, c :: r, 0, h => by simp only [Lx.skipF] at h; split at h <;> omega
  | false, c :: r, 0, h => by
    simp only [List.take_zero]
    have : Lx.skipF false (c :: r) = 0 := by omega
    rw [this]; rfl
  | true, c :: r, q + 1, h => by
    simp only [Lx.skipF, List.take_succ_cons] at h ⊢
    split
    · rename_i hc; rw [if_pos hc] at h; rw [skip_take false r q (by omega)]
    · rename_i hc; rw [if_neg hc] at h; rw [skip_take true r q (by omega)]
  | false, c :: r, q + 1, h => by
    simp only [Lx.skipF, List.take_succ_cons] at h ⊢
    split
    · rename_i hc; rw [if_pos hc] at h; rw [skip_take false r q (by omega)]
    · rename_i hc
      rw [if_neg hc] at h
      split
      · rename_i h35; rw [if_pos h35] at h; rw [skip_take true r q (by omega)]
      · rfl
theorem cut_here {dot : Bool} {l : List UInt8} {i c : Nat} (hc : c < 4096) : Lx.lexGo dot (l.take (Lx.skipF false l)) i c = .inl [⟨5, [], 0, i + Lx.skipF false l⟩] := by
  have hs := skip_take false l (Lx.skipF false l) (Nat.le_refl _)
  rw [Lx.lexGo_end (by rw [hs]; exact List.drop_eq_nil_of_le (by simp; omega)), if_pos hc, hs]
theorem lex_cut (dot : Bool) : ∀ (N : Nat) (l : List UInt8) (i c : Nat) (ts : List Lx.Tok) (j : Nat) (t : Lx.Tok), l.length ≤ N → Lx.lexGo dot l i c = .inl ts → ts[j]? = some t →
    Lx.lexGo dot (l.take (t.place - i)) i c = .inl (ts.take j ++ [⟨5, [], 0, t.place⟩]) ∧ i ≤ t.place ∧ t.place ≤ i + l.length := by
  intro N
  induction N with
  | zero =>
    intro l i c ts j t hN h ht
    have hl : l = [] := List.eq_nil_of_length_eq_zero (by omega)
    subst hl
    rw [Lx.lexGo_end (by rfl)] at h
    split at h
    · rename_i hc
      simp only [Sum.inl.injEq] at h
      subst h
      rcases j with _ | j
      · simp at ht; subst ht
        simp only [List.take_nil, List.take_zero, List.nil_append]
        rw [Lx.lexGo_end (by rfl), if_pos hc]
        exact ⟨rfl, by omega, by simp [Lx.skipF]⟩
      · simp at ht
    · simp at h
  | succ N ih =>
    intro l i c ts j t hN h ht
    have hkl := Lx.skip_le false l
    rcases hd : l.drop (Lx.skipF false l) with _ | ⟨x, r⟩
    · rw [Lx.lexGo_end hd] at h
      split at h
      · rename_i hc
        simp only [Sum.inl.injEq] at h
        subst h
        rcases j with _ | j
        · simp at ht; subst ht
          simp only [List.take_zero, List.nil_append, Nat.add_sub_cancel_left]
          exact ⟨cut_here hc, by omega, by omega⟩
        · simp at ht
      · simp at h
    · rcases htk : Lx.tokR dot (x :: r) with ⟨k, tx, m, n⟩ | ⟨o, e⟩
      · have hkn := tok_kinds htk
        have hlen := congrArg List.length hd
        simp at hlen
        rw [Lx.lexGo_ok hd htk hkn.2.1] at h
        split at h
        · rename_i hc
          rcases hg : Lx.lexGo dot (l.drop (Lx.skipF false l + n)) (i + Lx.skipF false l + n) (c + 1) with ts' | y
          · rw [hg] at h
            simp only [Lx.Out.pre, List.cons_append, List.nil_append, Sum.inl.injEq] at h
            subst h
            rcases j with _ | j
            · simp at ht; subst ht
              simp only [List.take_zero, List.nil_append, Nat.add_sub_cancel_left]
              exact ⟨cut_here hc, by omega, by omega⟩
            · simp only [List.getElem?_cons_succ] at ht
              obtain ⟨h1, h2, h3⟩ := ih (l.drop (Lx.skipF false l + n)) (i + Lx.skipF false l + n) (c + 1) ts' j t (by simp; omega) hg ht
              simp only [List.length_drop] at h3
              refine ⟨?_, by omega, by omega⟩
              have hs := skip_take false l (t.place - i) (by omega)
              have hd2 : (l.take (t.place - i)).drop (Lx.skipF false (l.take (t.place - i))) = x :: r.take (t.place - i - Lx.skipF false l - 1) := by
                rw [hs, List.drop_take, hd]
                obtain ⟨z, hz⟩ : ∃ z, t.place - i - Lx.skipF false l = z + 1 := ⟨t.place - i - Lx.skipF false l - 1, by omega⟩
                rw [hz]; rfl
              have htk2 : Lx.tokR dot (x :: r.take (t.place - i - Lx.skipF false l - 1)) = Lx.R.ok k tx m n := by
                have e : x :: r.take (t.place - i - Lx.skipF false l - 1) = (x :: r).take (t.place - i - Lx.skipF false l) := by
                  obtain ⟨z, hz⟩ : ∃ z, t.place - i - Lx.skipF false l = z + 1 := ⟨t.place - i - Lx.skipF false l - 1, by omega⟩
                  rw [hz]; rfl
                rw [e]
                refine tok_local htk ?_ ?_
                · rw [List.take_take, Nat.min_eq_left (by omega)]
                · rw [List.getElem?_take]
                  split
                  · exact Or.inl rfl
                  · exact Or.inr (fun c hc => by simp at hc)
              rw [Lx.lexGo_ok hd2 htk2 hkn.2.1, if_pos hc, hs, List.drop_take, show t.place - i - (Lx.skipF false l + n) = t.place - (i + Lx.skipF false l + n) by omega, h1]
              rfl
          · rw [hg] at h; simp [Lx.Out.pre] at h
        · simp at h
      · rw [Lx.lexGo_bad hd htk] at h
        simp at h
end Go.Proofs.YtnmdnjdibdmodaaGreatDoor
