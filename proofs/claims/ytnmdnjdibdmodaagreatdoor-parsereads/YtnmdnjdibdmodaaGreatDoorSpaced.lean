/- A text anew from a text's tokens, with blanks and notes between, and round brackets around numbers where they are asked for. Plain mathematics. -/
import Derived.Test.YtnmdnjdibdmodaaGreatDoorSep
import Derived.Test.YtnmdnjdibdmodaaGreatDoorPxIns
import Derived.Test.YtnmdnjdibdmodaaGreatDoorPxLex
namespace Go.Proofs.YtnmdnjdibdmodaaGreatDoor
open Px (TS TSim Ins)
set_option linter.unusedSimpArgs false
set_option linter.unusedVariables false

theorem quote_plain : ∀ (N : Nat) (l : List UInt8) (o : Nat) (acc : List UInt8) (k : Nat) (t : List UInt8) (m n : Nat), l.length ≤ N → Lx.quoteR l o acc = Lx.R.ok k t m n → acc.all Lx.isPlain = true → plainB t = true
  | N, [], o, acc, k, t, m, n, _, h, _ => by simp [Lx.quoteR, Lx.R.bad, Lx.R.ok] at h
  | 0, c :: r, o, acc, k, t, m, n, hN, h, _ => by simp at hN
  | N + 1, c :: r, o, acc, k, t, m, n, hN, h, ha => by
    rw [quoteR_cons] at h
    simp only [List.length_cons] at hN
    split at h
    · split at h
      · rename_i h256
        simp [Lx.R.ok] at h
        rw [← h.2.1]
        simp only [plainB, ha, Bool.and_true, decide_eq_true_eq]; exact h256
      · simp [Lx.R.ok, Lx.R.bad] at h
    · split at h
      · split at h
        · simp [Lx.R.ok, Lx.R.bad] at h
        · split at h
          · rename_i d r' hd
            refine quote_plain N r' (o + 2) _ k t m n (by simp at hN; omega) h ?_
            have : Lx.isPlain d = true := by
              simp only [Lx.isEsc, Bool.or_eq_true, beq_iff_eq] at hd
              rcases hd with rfl | rfl <;> decide
            simp [ha, this]
          · simp [Lx.R.ok, Lx.R.bad] at h
      · split at h
        · rename_i hp
          exact quote_plain N r (o + 1) _ k t m n (by omega) h (by simp [ha, hp])
        · simp [Lx.R.ok, Lx.R.bad] at h
theorem tok_text {dot : Bool} {x : UInt8} {r : List UInt8} {k : Nat} {t : List UInt8} {m n : Nat} (h : Lx.tokR dot (x :: r) = Lx.R.ok k t m n) : (k = 3 ∧ m = 0 ∧ plainB t = true) ∨ (k ≠ 3 ∧ t = (x :: r).take n) := by
  simp only [Lx.tokR] at h
  split at h
  · unfold Lx.nameR at h
    split at h
    · simp only [Lx.R.ok, Sum.inl.injEq, Prod.mk.injEq] at h
      obtain ⟨rfl, rfl, _, rfl⟩ := h
      exact Or.inr ⟨by decide, (Lx.tw_take _).symm⟩
    · simp [Lx.R.ok, Lx.R.bad] at h
  · split at h
    · unfold Lx.numberR at h
      split at h
      · simp [Lx.R.ok, Lx.R.bad] at h
      · split at h
        · simp only [Lx.R.ok, Sum.inl.injEq, Prod.mk.injEq] at h
          obtain ⟨rfl, rfl, _, rfl⟩ := h
          exact Or.inr ⟨by decide, (Lx.tw_take _).symm⟩
        · simp [Lx.R.ok, Lx.R.bad] at h
    · split at h
      · have hk := quote_kinds r.length r 1 [] k t m n (Nat.le_refl _) h
        exact Or.inl ⟨hk.1, hk.2.1, quote_plain r.length r 1 [] k t m n (Nat.le_refl _) h rfl⟩
      · unfold Lx.markR at h
        split at h
        · simp [Lx.R.ok, Lx.R.bad] at h
        · simp only [Lx.R.ok, Sum.inl.injEq, Prod.mk.injEq] at h
          obtain ⟨rfl, rfl, _, rfl⟩ := h
          exact Or.inr ⟨by decide, rfl⟩
/-- How a token is written. -/
def word (k : Nat) (t : List UInt8) : List UInt8 := if k = 3 then quoteT t else t
/-- Behind it stands nothing that can go on with it. -/
def Shuts (z : List UInt8) : Prop := ∀ c, z.head? = some c → Sep c
/-- A token that is written is read as it, whatever shuts it. -/
structure Wf (dot : Bool) (k : Nat) (t : List UInt8) (m : Nat) : Prop where
  head : ∃ y r, word k t = y :: r ∧ Lx.isBlank y = false ∧ y ≠ 35
  reads : ∀ z, Shuts z → Lx.tokR dot (word k t ++ z) = Lx.R.ok k t m (word k t).length
theorem tok_wf {dot : Bool} {x : UInt8} {r : List UInt8} {k : Nat} {t : List UInt8} {m n : Nat} (h : Lx.tokR dot (x :: r) = Lx.R.ok k t m n) (hx : Lx.isBlank x = false ∧ x ≠ 35) : Wf dot k t m := by
  have hkn := tok_kinds h
  rcases tok_text h with ⟨rfl, rfl, hp⟩ | ⟨hk, ht⟩
  · have hw : word 3 t = 34 :: (escT t ++ [34]) := rfl
    refine ⟨⟨34, _, hw, by decide, by decide⟩, fun z hz => ?_⟩
    simp only [plainB, Bool.and_eq_true, decide_eq_true_eq] at hp
    have ht : Lx.tokR dot (34 :: (escT t ++ [34])) = Lx.R.ok 3 t 0 (word 3 t).length := by
      have e : Lx.tokR dot (34 :: (escT t ++ [34])) = Lx.quoteR (escT t ++ [34]) 1 [] := by simp [Lx.tokR, Lx.isLetter, Lx.isDigit]
      rw [e, quote_back t 1 [] hp.2]
      simp only [List.nil_append]
      rw [if_pos hp.1, hw]
      simp only [List.length_cons, List.length_append, List.length_nil]
      rw [show 1 + (escT t).length + 1 = (escT t).length + (0 + 1) + 1 by omega]
    refine tok_sep ht ?_ (Or.inr fun c hc => ?_)
    · rw [← hw, List.take_append_of_le_length (Nat.le_refl _)]
    · rw [List.getElem?_append_right (Nat.le_refl _), Nat.sub_self] at hc
      exact hz c (by rw [List.head?_eq_getElem?]; exact hc)
  · have hw : word k t = (x :: r).take n := by unfold word; rw [if_neg hk, ht]
    have hlen : ((x :: r).take n).length = n := by simp only [List.length_take, List.length_cons]; omega
    obtain ⟨n', rfl⟩ : ∃ n', n = n' + 1 := ⟨n - 1, by omega⟩
    refine ⟨⟨x, r.take n', by rw [hw]; rfl, hx.1, hx.2⟩, fun z hz => ?_⟩
    rw [hw, hlen]
    refine tok_sep h ?_ (Or.inr fun c hc => ?_)
    · rw [List.take_append_of_le_length (by omega), List.take_take, Nat.min_self]
    · rw [List.getElem?_append_right (by omega), hlen, Nat.sub_self] at hc
      exact hz c (by rw [List.head?_eq_getElem?]; exact hc)
theorem wf_all (dot : Bool) (l : List UInt8) : ∀ (N i c : Nat) (ts : List Lx.Tok), l.length - i < N → i ≤ l.length → Lx.lexGo dot (l.drop i) i c = .inl ts → ∀ t ∈ ts, (t.kind = 5 ∧ t.text = [] ∧ t.num = 0) ∨ Wf dot t.kind t.text t.num := by
  intro N
  induction N with
  | zero => intro i c ts hN; omega
  | succ N ih =>
    intro i c ts hN hi h
    obtain ⟨u, rest, rfl, hpl, hc, hcase⟩ := first_tok h
    have hkl := Lx.skip_le false (l.drop i)
    simp only [List.length_drop] at hkl
    rcases hcase with ⟨hd, rfl, rfl⟩ | ⟨x, r, k, t, m, n, hd, ht, rfl, hrest⟩
    · intro t ht
      simp at ht
      subst ht
      exact Or.inl ⟨rfl, rfl, rfl⟩
    · have hkn := tok_kinds ht
      have hlen := congrArg List.length hd
      simp at hlen
      rw [List.drop_drop, ← Nat.add_assoc] at hrest
      have hw := ih (i + Lx.skipF false (l.drop i) + n) (c + 1) rest (by omega) (by omega) hrest
      intro t2 ht2
      simp only [List.mem_cons] at ht2
      rcases ht2 with rfl | ht2
      · exact Or.inr (tok_wf ht (Lx.skip_head false (l.drop i) x (by rw [hd]; rfl)))
      · exact hw t2 ht2

/-- The text anew: p tells the blanks ahead of each token, a whether brackets are put around it. -/
def sp (p : Nat → List UInt8) (a : Nat → Lx.Tok → Bool) : Nat → List Lx.Tok → List UInt8
  | _, [] => []
  | j, t :: rest => p j ++ ((if a j t then 40 :: word t.kind t.text ++ [41] else word t.kind t.text) ++ sp p a (j + 1) rest)
inductive InsJ (a : Nat → Lx.Tok → Bool) : Nat → List Lx.Tok → List Lx.Tok → Prop
  | nil {j : Nat} : InsJ a j [] []
  | cons {j : Nat} {t u : Lx.Tok} {l m : List Lx.Tok} : a j t = false → TS t u → InsJ a (j + 1) l m → InsJ a j (t :: l) (u :: m)
  | wrap {j : Nat} {t u b c : Lx.Tok} {l m : List Lx.Tok} : a j t = true → TS t u → b.kind = 4 → b.text = [40] → c.kind = 4 → c.text = [41] → InsJ a (j + 1) l m → InsJ a j (t :: l) (b :: u :: c :: m)
theorem InsJ.ins {a : Nat → Lx.Tok → Bool} {j : Nat} {l m : List Lx.Tok} (h : InsJ a j l m) (ha : ∀ j t, a j t = true → t.kind = 2) : Ins l m := by
  induction h with
  | nil => exact .nil
  | cons _ h _ ih => exact .cons h ih
  | wrap h1 h h2 h3 h4 h5 _ ih => exact .wrap (ha _ _ h1) h h2 h3 h4 h5 ih
theorem InsJ.sim {a : Nat → Lx.Tok → Bool} {j : Nat} {l m : List Lx.Tok} (h : InsJ a j l m) (ha : ∀ j t, a j t = false) : TSim l m := by
  induction h with
  | nil => exact .nil
  | cons _ h _ ih => exact .cons h ih
  | wrap h1 => rw [ha] at h1; simp at h1
theorem open_tok (dot : Bool) (z : List UInt8) : Lx.tokR dot (40 :: z) = Lx.R.ok 4 [40] 0 1 := by
  have h2 : Lx.two (40 :: z) = false := by rcases z with _ | ⟨c, z⟩ <;> simp [Lx.two]
  have h1 : Lx.one dot 40 = true := by cases dot <;> decide
  simp [Lx.tokR, Lx.isLetter, Lx.isDigit, Lx.markR, Lx.markN, h2, h1]
theorem shut_tok (dot : Bool) (z : List UInt8) : Lx.tokR dot (41 :: z) = Lx.R.ok 4 [41] 0 1 := by
  have h2 : Lx.two (41 :: z) = false := by rcases z with _ | ⟨c, z⟩ <;> simp [Lx.two]
  have h1 : Lx.one dot 41 = true := by cases dot <;> decide
  simp [Lx.tokR, Lx.isLetter, Lx.isDigit, Lx.markR, Lx.markN, h2, h1]
theorem sep_blank {c : UInt8} (h : Lx.isBlank c = true ∨ c = 35) : Sep c := part_no h
/-- One token more, where nothing but blanks g stand ahead. -/
theorem lex_one {dot : Bool} {g z : List UInt8} {k : Nat} {t : List UInt8} {m i c n : Nat} {y : UInt8} {r : List UInt8} (hg : ∀ Y, Lx.skipF false (g ++ Y) = g.length + Lx.skipF false Y) (hy : Lx.isBlank y = false ∧ y ≠ 35) (ht : Lx.tokR dot (y :: r ++ z) = Lx.R.ok k t m (y :: r).length) :
    Lx.lexGo dot (g ++ (y :: r ++ z)) i c = if c < 4096 then Lx.Out.pre [⟨k, t, m, i + g.length⟩] (Lx.lexGo dot z (i + g.length + (y :: r).length) (c + 1)) else .inr (i + g.length, 36) := by
  have hs : Lx.skipF false (g ++ (y :: r ++ z)) = g.length := by
    rw [hg, Lx.skip_none (fun c hc => by simp at hc; subst hc; exact hy)]; omega
  have hd : (g ++ (y :: r ++ z)).drop g.length = y :: (r ++ z) := by simp
  rw [Lx.lexGo_ok (by rw [hs]; exact hd) ht (by simp), hs]
  have e : (g ++ (y :: r ++ z)).drop (g.length + (y :: r).length) = z := by
    rw [← List.drop_drop, hd, show y :: (r ++ z) = (y :: r) ++ z from rfl, List.drop_append_of_le_length (Nat.le_refl _), List.drop_length, List.nil_append]
  rw [e]
theorem lex_sp (dot : Bool) (p : Nat → List UInt8) (a : Nat → Lx.Tok → Bool) (hp : ∀ j, Pad (p j) ∧ p j ≠ []) (ha : ∀ j t, a j t = true → t.kind = 2) : ∀ (ts : List Lx.Tok) (j i c : Nat), Px.Good ts → (∀ t ∈ ts, (t.kind = 5 ∧ t.text = [] ∧ t.num = 0) ∨ Wf dot t.kind t.text t.num) →
    (∃ x, Lx.lexGo dot (sp p a j ts) i c = .inr (x, 36) ∧ ((∀ j t, a j t = false) → 4096 < c + ts.length)) ∨ ∃ us, Lx.lexGo dot (sp p a j ts) i c = .inl us ∧ InsJ a j ts us
  | [], j, i, c, hg, _ => by exact absurd hg (by simp [Px.Good])
  | [t], j, i, c, hg, hw => by
    have h5 : t.kind = 5 := hg
    have ha0 : a j t = false := by
      rcases h : a j t with _ | _
      · rfl
      · have := ha j t h; omega
    have hx : t.text = [] ∧ t.num = 0 := by
      rcases hw t (by simp) with h | h
      · exact h.2
      · have h1 := h.reads [] (fun c hc => by simp at hc)
        obtain ⟨y, r, hy, _⟩ := h.head
        rw [List.append_nil, hy] at h1
        have := (tok_kinds h1).1
        omega
    have e : sp p a j [t] = p j := by
      simp only [sp, ha0, Bool.false_eq_true, if_false, List.append_nil]
      unfold word
      rw [if_neg (by omega), hx.1, List.append_nil]
    rw [e]
    have hs := (hp j).1.all false
    rw [Lx.lexGo_end (by rw [hs]; exact List.drop_length)]
    by_cases hc : c < 4096
    · rw [if_pos hc]
      refine Or.inr ⟨_, rfl, .cons ha0 ⟨h5, hx.1, hx.2⟩ .nil⟩
    · rw [if_neg hc]
      exact Or.inl ⟨_, rfl, fun _ => by simp; omega⟩
  | t :: u :: rest, j, i, c, hg, hw => by
    have hk5 : t.kind ≠ 5 := hg.1
    have hwt : Wf dot t.kind t.text t.num := by
      rcases hw t (by simp) with h | h
      · exact absurd h.1 hk5
      · exact h
    obtain ⟨y, r, hy, hyb⟩ := hwt.head
    have ih := fun i' c' => lex_sp dot p a hp ha (u :: rest) (j + 1) i' c' hg.2 (fun t2 ht2 => hw t2 (by simp at ht2 ⊢; exact Or.inr ht2))
    have hS : Shuts (sp p a (j + 1) (u :: rest)) := by
      intro b hb
      simp only [sp] at hb
      rcases hpj : p (j + 1) with _ | ⟨b', q⟩
      · exact absurd hpj (hp (j + 1)).2
      · rw [hpj] at hb
        simp at hb
        subst hb
        exact sep_blank ((hp (j + 1)).1.head b' (by rw [hpj]; rfl))
    generalize hSS : sp p a (j + 1) (u :: rest) = S at *
    rcases hab : a j t with _ | _
    · have e : sp p a j (t :: u :: rest) = p j ++ (y :: r ++ S) := by
        rw [sp, hab, hSS, ← hy]; rfl
      have ht := hwt.reads S hS
      rw [hy] at ht
      rw [e, lex_one (n := 0) (hp j).1.shut hyb ht]
      by_cases hc : c < 4096
      · rw [if_pos hc]
        rcases ih (i + (p j).length + (y :: r).length) (c + 1) with ⟨x, hx, hxx⟩ | ⟨us, hu, hi⟩
        · exact Or.inl ⟨x, by rw [hx]; rfl, fun hz => by have := hxx hz; simp at this ⊢; omega⟩
        · exact Or.inr ⟨⟨t.kind, t.text, t.num, i + (p j).length⟩ :: us, by rw [hu]; rfl, .cons hab ⟨rfl, rfl, rfl⟩ hi⟩
      · rw [if_neg hc]
        exact Or.inl ⟨_, rfl, fun _ => by simp; omega⟩
    · have hk2 := ha j t hab
      have e : sp p a j (t :: u :: rest) = p j ++ (40 :: [] ++ ([] ++ (y :: r ++ ([] ++ (41 :: [] ++ S))))) := by
        rw [sp, hab, hSS, ← hy]; simp
      have hnil : ∀ Y, Lx.skipF false ([] ++ Y) = ([] : List UInt8).length + Lx.skipF false Y := fun Y => by simp
      have ht := hwt.reads (41 :: S) (fun c hc => by simp at hc; subst hc; exact ⟨by decide, by decide, by decide, by decide, by decide⟩)
      rw [hy] at ht
      have hno : ¬ (∀ j t, a j t = false) := fun hz => by rw [hz] at hab; simp at hab
      rw [e, lex_one (n := 0) (hp j).1.shut ⟨by decide, by decide⟩ (open_tok dot _)]
      by_cases hc : c < 4096
      · rw [if_pos hc, lex_one (n := 0) hnil hyb (by simpa using ht)]
        by_cases hc1 : c + 1 < 4096
        · rw [if_pos hc1, lex_one (n := 0) hnil ⟨by decide, by decide⟩ (shut_tok dot _)]
          by_cases hc2 : c + 1 + 1 < 4096
          · rw [if_pos hc2]
            generalize i + (p j).length + ([(40 : UInt8)]).length = i1
            rcases ih (i1 + (y :: r).length + ([] : List UInt8).length + ([(41 : UInt8)]).length) (c + 1 + 1 + 1) with ⟨x, hx, hxx⟩ | ⟨us, hu, hi⟩
            · exact Or.inl ⟨x, by rw [hx]; rfl, fun hz => absurd hz hno⟩
            · exact Or.inr ⟨⟨4, [40], 0, i + (p j).length⟩ :: ⟨t.kind, t.text, t.num, i1⟩ :: ⟨4, [41], 0, i1 + (y :: r).length + ([] : List UInt8).length⟩ :: us, by rw [hu]; rfl, .wrap hab ⟨rfl, rfl, rfl⟩ rfl rfl rfl rfl hi⟩
          · rw [if_neg hc2]
            exact Or.inl ⟨_, rfl, fun hz => absurd hz hno⟩
        · rw [if_neg hc1]
          exact Or.inl ⟨_, rfl, fun hz => absurd hz hno⟩
      · rw [if_neg hc]
        exact Or.inl ⟨_, rfl, fun hz => absurd hz hno⟩
end Go.Proofs.YtnmdnjdibdmodaaGreatDoor
