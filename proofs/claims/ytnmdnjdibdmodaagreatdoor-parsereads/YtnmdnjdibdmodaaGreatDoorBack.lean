/- There and back: a quoted plain text is read as that text, a name as that name. -/
import Derived.Test.YtnmdnjdibdmodaaGreatDoorQuote
namespace Go.Proofs.YtnmdnjdibdmodaaGreatDoor
open Go.RowKit
set_option linter.unusedSimpArgs false
set_option linter.unusedVariables false

theorem quote_back : ∀ (l : List UInt8) (o : Nat) (acc : List UInt8), l.all Lx.isPlain = true →
    Lx.quoteR (escT l ++ [34]) o acc = if (acc ++ l).length ≤ 256 then Lx.R.ok 3 (acc ++ l) 0 (o + (escT l).length + 1) else Lx.R.bad 0 3
  | [], o, acc, _ => by
    rw [show escT [] ++ [34] = [(34 : UInt8)] from rfl, quoteR_cons, if_pos rfl]; simp [escT]
  | c :: r, o, acc, h => by
    simp only [List.all_cons, Bool.and_eq_true] at h
    have e : escT (c :: r) = (if Lx.isEsc c then [92, c] else [c]) ++ escT r := by simp [escT]
    rcases hc : Lx.isEsc c with _ | _
    · have h34 : c ≠ 34 := by rintro rfl; simp [Lx.isEsc] at hc
      have h92 : c ≠ 92 := by rintro rfl; simp [Lx.isEsc] at hc
      rw [e, hc]
      simp only [Bool.false_eq_true, if_false, List.cons_append, List.nil_append]
      rw [quoteR_cons, if_neg h34, if_neg h92, if_pos h.1, quote_back r (o + 1) (acc ++ [c]) h.2]
      simp only [List.append_assoc, List.cons_append, List.nil_append, List.length_cons]
      rw [show o + 1 + (escT r).length + 1 = o + ((escT r).length + 1) + 1 by omega]
    · rw [e, hc]
      simp only [if_true, List.cons_append, List.nil_append]
      rw [quoteR_cons, if_neg (by decide), if_pos rfl]
      simp only [hc, if_true]
      rw [quote_back r (o + 2) (acc ++ [c]) h.2]
      simp only [List.append_assoc, List.cons_append, List.nil_append, List.length_cons]
      rw [show o + 2 + (escT r).length + 1 = o + ((escT r).length + 1 + 1) + 1 by omega]
theorem lex_whole {dot : Bool} {c : UInt8} {r : List UInt8} {k : Nat} {t : List UInt8} {m : Nat} (hl : (c :: r).length ≤ 16384) (hs : Lx.skipF false (c :: r) = 0) (ht : Lx.tokR dot (c :: r) = Lx.R.ok k t m (c :: r).length) :
    Lx.lex dot (c :: r) = .inl [⟨k, t, m, 0⟩, ⟨5, [], 0, (c :: r).length⟩] := by
  unfold Lx.lex
  rw [if_neg (by omega), Lx.lexGo_ok (x := c) (r := r) (by rw [hs]; rfl) ht (by simp), if_pos (by omega), hs]
  simp only [Nat.zero_add, List.drop_length]
  rw [Lx.lexGo_end (by rfl), if_pos (by omega)]
  rfl
theorem lex_quote (dot : Bool) (l : List UInt8) (h : plainB l = true) : Lx.lex dot (quoteT l) = .inl [⟨3, l, 0, 0⟩, ⟨5, [], 0, (quoteT l).length⟩] := by
  simp only [plainB, Bool.and_eq_true, decide_eq_true_eq] at h
  have hlen := escT_len l
  have e : quoteT l = 34 :: (escT l ++ [34]) := rfl
  rw [e]
  apply lex_whole
  · simp; omega
  · simp [Lx.skipF, Lx.isBlank]
  · have ht : Lx.tokR dot (34 :: (escT l ++ [34])) = Lx.quoteR (escT l ++ [34]) 1 [] := by
      simp [Lx.tokR, Lx.isLetter, Lx.isDigit]
    rw [ht, quote_back l 1 [] h.2]
    simp only [List.nil_append]
    rw [if_pos h.1]
    simp only [List.length_cons, List.length_append, List.length_nil]
    rw [show 1 + (escT l).length + 1 = (escT l).length + (0 + 1) + 1 by omega]
theorem letter_kind {c : UInt8} (h : Lx.isLetter c = true) : Lx.isBlank c = false ∧ c ≠ 35 := by
  simp only [Lx.isLetter, Lx.isBlank, Bool.or_eq_true, Bool.and_eq_true, decide_eq_true_eq, beq_iff_eq, UInt8.le_iff_toNat_le, Bool.or_eq_false_iff, beq_eq_false_iff_ne, ne_eq, ← UInt8.toNat_inj] at *
  have e97 : (97 : UInt8).toNat = 97 := rfl
  have e122 : (122 : UInt8).toNat = 122 := rfl
  have e95 : (95 : UInt8).toNat = 95 := rfl
  have e32 : (32 : UInt8).toNat = 32 := rfl
  have e10 : (10 : UInt8).toNat = 10 := rfl
  have e9 : (9 : UInt8).toNat = 9 := rfl
  have e35 : (35 : UInt8).toNat = 35 := rfl
  omega
theorem lex_word (dot : Bool) (l : List UInt8) (h : wordB l = true) : Lx.lex dot l = .inl [⟨1, l, 0, 0⟩, ⟨5, [], 0, l.length⟩] := by
  match l, h with
  | c :: r, h =>
    simp only [wordB, Bool.and_eq_true, decide_eq_true_eq] at h
    obtain ⟨h1, h2, h3⟩ := h
    have htw : (c :: r).takeWhile Lx.isPart = c :: r := by
      have := (Lx.tw_all (p := Lx.isPart) (l := c :: r)).2 h3
      rw [← Lx.tw_take (c :: r), this, List.take_length]
    apply lex_whole
    · omega
    · exact Lx.skip_none (fun x hx => by simp at hx; subst hx; exact letter_kind h2)
    · simp only [Lx.tokR, h2, if_true]
      unfold Lx.nameR
      rw [htw, if_pos h1]
theorem word_lex (dot : Bool) (l : List UInt8) (t1 : Lx.Tok) (h : Lx.lex dot l = .inl [⟨1, l, 0, 0⟩, t1]) : wordB l = true := by
  unfold Lx.lex at h
  split at h
  · simp at h
  · rcases hd : l.drop (Lx.skipF false l) with _ | ⟨x, r⟩
    · rw [Lx.lexGo_end hd] at h
      simp at h
    · rcases ht : Lx.tokR dot (x :: r) with ⟨k, t, m, n⟩ | ⟨o, e⟩
      · rw [Lx.lexGo_ok hd ht (tok_kinds ht).2.1] at h
        simp only [Nat.zero_lt_succ, if_true] at h
        rcases hg : Lx.lexGo dot (l.drop (Lx.skipF false l + n)) (0 + Lx.skipF false l + n) (0 + 1) with ts | y
        · rw [hg] at h
          simp only [Lx.Out.pre, List.cons_append, List.nil_append, Sum.inl.injEq, List.cons.injEq, Lx.Tok.mk.injEq] at h
          obtain ⟨⟨rfl, rfl, rfl, h0⟩, _⟩ := h
          have hs : Lx.skipF false t = 0 := by omega
          rw [hs] at hd
          simp only [List.drop_zero] at hd
          subst hd
          simp only [Lx.tokR] at ht
          split at ht
          · rename_i hlx
            unfold Lx.nameR at ht
            split at ht
            · rename_i h16
              simp only [Lx.R.ok, Sum.inl.injEq, Prod.mk.injEq] at ht
              have hall : (x :: r).all Lx.isPart = true := (Lx.tw_all (p := Lx.isPart)).1 (by rw [ht.2.1])
              rw [ht.2.1] at h16
              simp only [wordB, Bool.and_eq_true, decide_eq_true_eq]
              exact ⟨h16, hlx, hall⟩
            · simp [Lx.R.ok, Lx.R.bad] at ht
          · split at ht
            · unfold Lx.numberR at ht
              split at ht
              · simp [Lx.R.ok, Lx.R.bad] at ht
              · split at ht
                · simp [Lx.R.ok] at ht
                · simp [Lx.R.ok, Lx.R.bad] at ht
            · split at ht
              · have := quote_kinds r.length r 1 [] _ _ _ _ (Nat.le_refl _) ht
                omega
              · unfold Lx.markR at ht
                split at ht
                · simp [Lx.R.ok, Lx.R.bad] at ht
                · simp [Lx.R.ok] at ht
        · rw [hg] at h; simp [Lx.Out.pre] at h
      · rw [Lx.lexGo_bad hd ht] at h
        simp at h
end Go.Proofs.YtnmdnjdibdmodaaGreatDoor
