/- A text with round brackets put around one of its numbers. Plain mathematics. -/
import Derived.Test.YtnmdnjdibdmodaaGreatDoorSpaced
namespace Go.Proofs.YtnmdnjdibdmodaaGreatDoor
open Px (TS TSim Ins)
set_option linter.unusedSimpArgs false
set_option linter.unusedVariables false

/-- Elsewhere, and behind more tokens, the same bytes are the same tokens, or too many. -/
theorem lex_shift (dot : Bool) : ∀ (N : Nat) (L : List UInt8) (i c i' c' : Nat) (ts : List Lx.Tok), L.length < N → Lx.lexGo dot L i c = .inl ts → (∃ x, Lx.lexGo dot L i' c' = .inr (x, 36)) ∨ ∃ us, Lx.lexGo dot L i' c' = .inl us ∧ TSim ts us := by
  intro N
  induction N with
  | zero => intro L i c i' c' ts hN; omega
  | succ N ih =>
    intro L i c i' c' ts hN h
    obtain ⟨u, rest, rfl, hpl, hc, hcase⟩ := first_tok h
    rcases hcase with ⟨hd, rfl, rfl⟩ | ⟨x, r, k, t, m, n, hd, ht, rfl, hrest⟩
    · rw [Lx.lexGo_end hd]
      by_cases hc' : c' < 4096
      · rw [if_pos hc']; exact Or.inr ⟨_, rfl, .cons ⟨rfl, rfl, rfl⟩ .nil⟩
      · rw [if_neg hc']; exact Or.inl ⟨_, rfl⟩
    · have hkn := tok_kinds ht
      have hlen := congrArg List.length hd
      simp at hlen
      rw [Lx.lexGo_ok hd ht hkn.2.1]
      by_cases hc' : c' < 4096
      · rw [if_pos hc']
        rcases ih (L.drop (Lx.skipF false L + n)) _ _ (i' + Lx.skipF false L + n) (c' + 1) rest (by simp; omega) hrest with ⟨y, hy⟩ | ⟨us, hu, hs⟩
        · exact Or.inl ⟨y, by rw [hy]; rfl⟩
        · exact Or.inr ⟨⟨k, t, m, i' + Lx.skipF false L⟩ :: us, by rw [hu]; rfl, .cons ⟨rfl, rfl, rfl⟩ hs⟩
      · rw [if_neg hc']; exact Or.inl ⟨_, rfl⟩
/-- Brackets around the one token numbered q. -/
def around (q : Nat) (j : Nat) (t : Lx.Tok) : Bool := decide (j = q) && decide (t.kind = 2)
theorem insJ_sim {a : Nat → Lx.Tok → Bool} {l m : List Lx.Tok} (h : TSim l m) : ∀ j, (∀ j' t, j ≤ j' → a j' t = false) → InsJ a j l m := by
  induction h with
  | nil => exact fun _ _ => .nil
  | cons h _ ih => exact fun j ha => .cons (ha j _ (Nat.le_refl _)) h (ih (j + 1) fun j' t hj => ha j' t (by omega))
theorem place_le (dot : Bool) (l : List UInt8) : ∀ (N i c : Nat) (ts : List Lx.Tok), l.length - i < N → i ≤ l.length → Lx.lexGo dot (l.drop i) i c = .inl ts → ∀ t ∈ ts, i ≤ t.place ∧ t.place ≤ l.length := by
  intro N
  induction N with
  | zero => intro i c ts hN; omega
  | succ N ih =>
    intro i c ts hN hi h
    obtain ⟨u, rest, rfl, hpl, hc, hcase⟩ := first_tok h
    have hkl := Lx.skip_le false (l.drop i)
    simp only [List.length_drop] at hkl
    rcases hcase with ⟨hd, rfl, rfl⟩ | ⟨x, r, k, t, m, n, hd, ht, rfl, hrest⟩
    · intro t ht
      simp at ht
      subst ht
      exact ⟨by simp, by show i + _ ≤ _; omega⟩
    · have hkn := tok_kinds ht
      have hlen := congrArg List.length hd
      simp at hlen
      rw [List.drop_drop, ← Nat.add_assoc] at hrest
      intro t2 ht2
      simp only [List.mem_cons] at ht2
      rcases ht2 with rfl | ht2
      · exact ⟨by simp, by show i + _ ≤ _; omega⟩
      · have := ih (i + Lx.skipF false (l.drop i) + n) (c + 1) rest (by omega) (by omega) hrest t2 ht2
        omega
/-- The text with brackets put around the bytes w at place q, from place i on. -/
def putAround (l : List UInt8) (q : Nat) (w : List UInt8) (i : Nat) : List UInt8 := (l.take q).drop i ++ (40 :: [] ++ ([] ++ (w ++ ([] ++ (41 :: [] ++ l.drop (q + w.length))))))
theorem lex_round (dot : Bool) (l : List UInt8) (b : Nat) : ∀ (N i c : Nat) (ts : List Lx.Tok) (q : Nat) (t : Lx.Tok) (i' c' : Nat), l.length - i < N → i ≤ l.length → Lx.lexGo dot (l.drop i) i c = .inl ts → ts[q]? = some t → t.kind = 2 →
    (∃ x, Lx.lexGo dot (putAround l t.place t.text i) i' c' = .inr (x, 36)) ∨ ∃ us, Lx.lexGo dot (putAround l t.place t.text i) i' c' = .inl us ∧ InsJ (around (b + q)) b ts us := by
  intro N
  induction N generalizing b with
  | zero => intro i c ts q t i' c' hN; omega
  | succ N ih =>
    intro i c ts q t i' c' hN hi h hq hk2
    obtain ⟨u, rest, rfl, hpl, hc, hcase⟩ := first_tok h
    have hkl := Lx.skip_le false (l.drop i)
    simp only [List.length_drop] at hkl
    rcases hcase with ⟨hd, rfl, rfl⟩ | ⟨x, r, k, tx, m, n, hd, ht, rfl, hrest⟩
    · rcases q with _ | q
      · simp at hq; subst hq; simp at hk2
      · simp at hq
    · have hkn := tok_kinds ht
      have hlen := congrArg List.length hd
      simp at hlen
      have hxb := Lx.skip_head false (l.drop i) x (by rw [hd]; rfl)
      have hfit := (fits_gap (l.drop i)).tok x r hd
      have hw := tok_wf ht hxb
      rw [List.drop_drop, ← Nat.add_assoc] at hrest
      generalize hs : Lx.skipF false (l.drop i) = s0 at *
      have hdq : l.drop (i + s0) = x :: r := by rw [← List.drop_drop]; exact hd
      have hglen : ((l.drop i).take s0).length = s0 := by simp; omega
      rcases q with _ | q
      · simp at hq
        subst hq
        simp only at hk2 ⊢
        subst hk2
        have htx : tx = (x :: r).take n := by
          rcases tok_text ht with h3 | h3
          · exact absurd h3.1 (by decide)
          · exact h3.2
        have htl : tx.length = n := by rw [htx]; simp; omega
        obtain ⟨y, r2, hy, hyb⟩ := hw.head
        have hwd : word 2 tx = tx := rfl
        rw [hwd] at hy
        have e1 : (l.take (i + s0)).drop i = (l.drop i).take s0 := by rw [List.drop_take]; congr 1; omega
        have hnil : ∀ Y, Lx.skipF false ([] ++ Y) = ([] : List UInt8).length + Lx.skipF false Y := fun Y => by simp
        have htk := hw.reads (41 :: l.drop (i + s0 + tx.length)) (fun c hc => by simp at hc; subst hc; exact ⟨by decide, by decide, by decide, by decide, by decide⟩)
        rw [hwd, hy] at htk
        have e2 : putAround l (i + s0) tx i = (l.drop i).take s0 ++ (40 :: [] ++ ([] ++ (y :: r2 ++ ([] ++ (41 :: [] ++ l.drop (i + s0 + (y :: r2).length)))))) := by
          unfold putAround; rw [e1, hy]
        rw [hy] at htl
        have ha0 : around b b ⟨2, y :: r2, m, i + s0⟩ = true := by simp [around]
        have hrr : ∀ us, TSim rest us → InsJ (around b) (b + 1) rest us := fun us h => insJ_sim h _ (fun j' t hj => by simp [around]; omega)
        rw [e2, htl, lex_one (n := 0) hfit ⟨by decide, by decide⟩ (open_tok dot _)]
        by_cases hc0 : c' < 4096
        · rw [if_pos hc0, lex_one (n := 0) hnil hyb (by rw [← htl]; simpa using htk)]
          by_cases hc1 : c' + 1 < 4096
          · rw [if_pos hc1, lex_one (n := 0) hnil ⟨by decide, by decide⟩ (shut_tok dot _)]
            by_cases hc2 : c' + 1 + 1 < 4096
            · rw [if_pos hc2, hglen]
              generalize i' + s0 + ([(40 : UInt8)]).length = i1
              rcases lex_shift dot _ (l.drop (i + s0 + n)) _ _ (i1 + (y :: r2).length + ([] : List UInt8).length + ([(41 : UInt8)]).length) (c' + 1 + 1 + 1) rest (Nat.lt_succ_self _) hrest with ⟨z, hz⟩ | ⟨us, hu, hsim⟩
              · exact Or.inl ⟨z, by rw [hz]; rfl⟩
              · refine Or.inr ⟨⟨4, [40], 0, i' + s0⟩ :: ⟨2, y :: r2, m, i1⟩ :: ⟨4, [41], 0, i1 + (y :: r2).length + ([] : List UInt8).length⟩ :: us, ?_, ?_⟩
                · rw [hu]; rfl
                · rw [hy, Nat.add_zero]
                  exact .wrap ha0 ⟨rfl, rfl, rfl⟩ rfl rfl rfl rfl (hrr us hsim)
            · rw [if_neg hc2]
              exact Or.inl ⟨_, rfl⟩
          · rw [if_neg hc1]
            exact Or.inl ⟨_, rfl⟩
        · rw [if_neg hc0]
          exact Or.inl ⟨_, rfl⟩
      · simp only [List.getElem?_cons_succ] at hq
        have hmem := List.mem_of_getElem? hq
        have hpq := place_le dot l (l.length + 1) (i + s0 + n) (c + 1) rest (by omega) (by omega) hrest t hmem
        have ih' := ih (b + 1) (i + s0 + n) (c + 1) rest q t (i' + s0 + n) (c' + 1) (by omega) (by omega) hrest hq hk2
        rw [show b + 1 + q = b + (q + 1) by omega] at ih'
        have ha0 : around (b + (q + 1)) b ⟨k, tx, m, i + s0⟩ = false := by simp [around]
        obtain ⟨n', hn'⟩ : ∃ n', n = n' + 1 := ⟨n - 1, by omega⟩
        have e1 : (l.take t.place).drop i = (l.drop i).take s0 ++ (x :: r.take n' ++ (l.take t.place).drop (i + s0 + n)) := by
          have h1 : (l.take t.place).drop i = ((l.drop i).take s0) ++ ((l.take t.place).drop (i + s0)) := by
            rw [List.drop_take, List.drop_take]
            have h2 := List.take_append_drop s0 ((l.drop i).take (t.place - i))
            rw [List.take_take, Nat.min_eq_left (by omega), List.drop_take, List.drop_drop] at h2
            rw [← h2]
            congr 2
            omega
          have h3 : (l.take t.place).drop (i + s0) = (x :: r.take n') ++ (l.take t.place).drop (i + s0 + n) := by
            rw [List.drop_take, hdq]
            have h2 := List.take_append_drop n ((x :: r).take (t.place - (i + s0)))
            rw [List.take_take, Nat.min_eq_left (by omega), List.drop_take, ← hdq, List.drop_drop] at h2
            rw [← hdq, ← h2, List.drop_take, hdq]
            congr 1
            · rw [hn']; rfl
            · congr 1; omega
          rw [h1, h3]
        have e2 : putAround l t.place t.text i = (l.drop i).take s0 ++ (x :: r.take n' ++ putAround l t.place t.text (i + s0 + n)) := by
          unfold putAround
          rw [e1]
          simp only [List.append_assoc]
        have hxl : (x :: r.take n').length = n := by simp; omega
        have htk : Lx.tokR dot (x :: r.take n' ++ putAround l t.place t.text (i + s0 + n)) = Lx.R.ok k tx m (x :: r.take n').length := by
          rw [hxl]
          refine tok_sep ht ?_ ?_
          · rw [List.take_append_of_le_length (by omega), List.take_of_length_le (by omega), hn']; rfl
          · rw [List.getElem?_append_right (by omega), hxl, Nat.sub_self]
            by_cases hP : i + s0 + n < t.place
            · refine Or.inl ?_
              unfold putAround
              rw [List.getElem?_append_left (by simp; omega), List.getElem?_drop, List.getElem?_take, if_pos (by omega), ← hdq, List.getElem?_drop]
              congr 1
            · refine Or.inr fun z hz => ?_
              unfold putAround at hz
              rw [List.drop_eq_nil_of_le (by simp; omega)] at hz
              simp at hz
              subst hz
              exact ⟨by decide, by decide, by decide, by decide, by decide⟩
        rw [e2, lex_one (n := 0) hfit hxb htk, hglen, hxl]
        by_cases hc0 : c' < 4096
        · rw [if_pos hc0]
          rcases ih' with ⟨z, hz⟩ | ⟨us, hu, hi2⟩
          · exact Or.inl ⟨z, by rw [hz]; rfl⟩
          · exact Or.inr ⟨⟨k, tx, m, i' + s0⟩ :: us, by rw [hu]; rfl, .cons ha0 ⟨rfl, rfl, rfl⟩ hi2⟩
        · rw [if_neg hc0]
          exact Or.inl ⟨_, rfl⟩
end Go.Proofs.YtnmdnjdibdmodaaGreatDoor
