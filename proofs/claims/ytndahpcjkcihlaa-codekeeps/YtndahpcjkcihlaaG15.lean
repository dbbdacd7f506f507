/- Texts of ours, joined: Kh. -/
import Derived.Test.YtndahpcjkcihlaaG03
/- Heights, from place to place. Plain mathematics. -/
namespace Go.Proofs.Ytndahpcjkcihlaa
set_option linter.unusedVariables false
set_option linter.unusedSimpArgs false

theorem psh_pos (op : Int) : 0 ≤ psh op ∧ psh op ≤ 1 := by unfold psh; split <;> omega
/-- What is known of a place that was gone through. -/
def Gone (fs : List Fu) (f : Fu) (hs : List Int) (p : Nat) : Prop := ∃ i x, f.code[p]? = some i ∧ hs[p]? = some x ∧ 0 ≤ x ∧ 0 ≤ x - popN fs i ∧ hgt fs i x ≤ f.stack ∧ ∀ q ∈ nxt p i, hs[q]? = some (hgt fs i x)
/-- Heights so far (-1: none yet), and which places were gone through. -/
structure HInv (fs : List Fu) (f : Fu) (hs : List Int) (sn : List Bool) : Prop where
  hl : hs.length = f.code.length
  sl : sn.length = f.code.length
  zero : hs[0]? = some 0
  low : ∀ (p : Nat) (x : Int), hs[p]? = some x → -1 ≤ x ∧ x ≤ 256
  seen : ∀ (p : Nat), sn[p]? = some true → Gone fs f hs p
  sub : ∀ H, Lab fs f H → ∀ (p : Nat) (x : Int), hs[p]? = some x → 0 ≤ x → H p = some x
/-- A place under way, behind so many of those where it goes on. -/
structure HPart (fs : List Fu) (f : Fu) (at_ : Nat) (i : In) (x0 : Int) (k : Nat) (hs : List Int) (sn : List Bool) : Prop where
  hl : hs.length = f.code.length
  sl : sn.length = f.code.length
  zero : hs[0]? = some 0
  low : ∀ (p : Nat) (x : Int), hs[p]? = some x → -1 ≤ x ∧ x ≤ 256
  seen : ∀ (p : Nat), p ≠ at_ → sn[p]? = some true → Gone fs f hs p
  sub : ∀ H, Lab fs f H → ∀ (p : Nat) (x : Int), hs[p]? = some x → 0 ≤ x → H p = some x
  ci : f.code[at_]? = some i
  cx : hs[at_]? = some x0
  c0 : 0 ≤ x0
  x1 : 0 ≤ x0 - popN fs i
  x3 : hgt fs i x0 ≤ f.stack
  dn : ∀ q ∈ (nxt at_ i).take k, hs[q]? = some (hgt fs i x0)
theorem HInv.init {fs : List Fu} {f : Fu} (h : 1 ≤ f.code.length) : HInv fs f ((List.replicate f.code.length (-1)).set 0 0) (List.replicate f.code.length false) := by
  refine ⟨by simp, by simp, ?_, fun p x hp => ?_, fun p hp => ?_, fun H hH p x hp h0 => ?_⟩
  · rw [List.getElem?_set_self (by simp; omega)]
  · rw [List.getElem?_set] at hp
    split at hp
    · split at hp
      · simp at hp; omega
      · simp at hp
    · rw [List.getElem?_replicate] at hp
      split at hp
      · simp at hp; omega
      · simp at hp
  · rw [List.getElem?_replicate] at hp
    split at hp <;> simp at hp
  · rw [List.getElem?_set] at hp
    split at hp
    · rename_i e
      split at hp
      · simp at hp; rw [← e, ← hp]; exact hH.zero
      · simp at hp
    · rw [List.getElem?_replicate] at hp
      split at hp
      · simp at hp; omega
      · simp at hp
theorem HInv.done {fs : List Fu} {f : Fu} {hs : List Int} {sn : List Bool} (h : HInv fs f hs sn) (hn : ∀ (p : Nat) (x : Int), hs[p]? = some x → 0 ≤ x → sn[p]? = some true) : WalkOk fs f := by
  refine ⟨fun p => (hs[p]?).bind fun x => if 0 ≤ x then some x else none, ?_, fun p x hp => ?_⟩
  · rw [h.zero]; rfl
  · rcases hx : hs[p]? with _ | y
    · rw [hx] at hp; cases hp
    · rw [hx] at hp
      have hp' : (if 0 ≤ y then some y else none) = some x := hp
      split at hp'
      · rename_i h0
        have e : y = x := Option.some.inj hp'
        rw [e] at hx h0
        clear hp hp'
        obtain ⟨i, z, h1, h2, h3, h4, h5, h6⟩ := h.seen p (hn p x hx h0)
        rw [hx] at h2
        cases h2
        refine ⟨i, h1, h4, h5, fun q hq => ?_⟩
        rw [h6 q hq]
        show (if 0 ≤ hgt fs i x then some (hgt fs i x) else none) = _
        have := psh_pos i.op
        rw [if_pos (by unfold hgt; omega)]
      · cases hp'
theorem HInv.into {fs : List Fu} {f : Fu} {hs : List Int} {sn : List Bool} (h : HInv fs f hs sn) {at_ : Nat} {i : In} {x0 : Int} (hx : hs[at_]? = some x0) (h0 : 0 ≤ x0) (hc : f.code[at_]? = some i) (x1 : 0 ≤ x0 - popN fs i) (x3 : hgt fs i x0 ≤ f.stack) : HPart fs f at_ i x0 0 hs (sn.set at_ true) :=
  ⟨h.hl, by rw [List.length_set]; exact h.sl, h.zero, h.low, fun p hp hs' => h.seen p (by rwa [List.getElem?_set_ne (Ne.symm hp)] at hs'), h.sub, hc, hx, h0, x1, x3, fun q hq => by simp at hq⟩
theorem no_under {fs : List Fu} {f : Fu} {hs : List Int} {sn : List Bool} (h : HInv fs f hs sn) {at_ : Nat} {i : In} {x0 : Int} (hx : hs[at_]? = some x0) (h0 : 0 ≤ x0) (hc : f.code[at_]? = some i) (hbad : ¬ 0 ≤ x0 - popN fs i ∨ ¬ hgt fs i x0 ≤ f.stack) : ¬ WalkOk fs f := by
  rintro ⟨H, hH⟩
  obtain ⟨j, h1, h2, h3, _⟩ := hH.step _ _ (h.sub H hH _ _ hx h0)
  rw [hc] at h1
  cases h1
  rcases hbad with hb | hb
  · exact hb h2
  · exact hb h3
theorem HPart.lab {fs : List Fu} {f : Fu} {at_ : Nat} {i : In} {x0 : Int} {k : Nat} {hs : List Int} {sn : List Bool} (h : HPart fs f at_ i x0 k hs sn) {H : Nat → Option Int} (hH : Lab fs f H) {q : Nat} (hq : q ∈ nxt at_ i) : H q = some (hgt fs i x0) := by
  obtain ⟨j, h1, _, _, h4⟩ := hH.step _ _ (h.sub H hH _ _ h.cx h.c0)
  rw [h.ci] at h1
  cases h1
  exact h4 q hq
theorem HPart.no {fs : List Fu} {f : Fu} {at_ : Nat} {i : In} {x0 : Int} {k : Nat} {hs : List Int} {sn : List Bool} (h : HPart fs f at_ i x0 k hs sn) {q : Nat} (hq : (nxt at_ i)[k]? = some q) (hbad : f.code.length ≤ q ∨ ∃ y, hs[q]? = some y ∧ 0 ≤ y ∧ y ≠ hgt fs i x0) : ¬ WalkOk fs f := by
  rintro ⟨H, hH⟩
  have h1 := h.lab hH (List.mem_of_getElem? hq)
  rcases hbad with hb | ⟨y, h2, h3, h4⟩
  · obtain ⟨j, h5, _⟩ := hH.step _ _ h1
    have := (List.getElem?_eq_some_iff.1 h5).1
    omega
  · have := h.sub H hH q y h2 h3
    rw [h1] at this
    cases this
    exact h4 rfl
theorem HPart.set {fs : List Fu} {f : Fu} {at_ : Nat} {i : In} {x0 : Int} {k : Nat} {hs : List Int} {sn : List Bool} (h : HPart fs f at_ i x0 k hs sn) (hst : f.stack ≤ 256) {q : Nat} (hq : (nxt at_ i)[k]? = some q) {y : Int} (hy : hs[q]? = some y) (hyx : y < 0 ∨ y = hgt fs i x0) : HPart fs f at_ i x0 (k + 1) (hs.set q (hgt fs i x0)) sn := by
  have hpos : 0 ≤ hgt fs i x0 := by have := psh_pos i.op; have := h.x1; unfold hgt; omega
  have hql := (List.getElem?_eq_some_iff.1 hy).1
  -- what is not below 0 stays
  have hkeep : ∀ (p : Nat) (z : Int), hs[p]? = some z → 0 ≤ z → (hs.set q (hgt fs i x0))[p]? = some z := by
    intro p z hz h0
    by_cases e : q = p
    · subst e
      rw [hy] at hz
      cases hz
      rw [List.getElem?_set_self hql]
      rcases hyx with h1 | h1
      · omega
      · rw [h1]
    · rw [List.getElem?_set_ne e]; exact hz
  have hgone : ∀ p, Gone fs f hs p → Gone fs f (hs.set q (hgt fs i x0)) p := by
    rintro p ⟨j, z, a1, a2, a3, a4, a5, a6⟩
    refine ⟨j, z, a1, hkeep p z a2 a3, a3, a4, a5, fun r hr => hkeep r _ (a6 r hr) ?_⟩
    have := psh_pos j.op
    unfold hgt; omega
  refine ⟨by rw [List.length_set]; exact h.hl, h.sl, hkeep 0 0 h.zero (by omega), fun p z hz => ?_, fun p hp hs' => hgone p (h.seen p hp hs'), fun H hH p z hz h0 => ?_, h.ci, hkeep _ _ h.cx h.c0, h.c0, h.x1, h.x3, fun r hr => ?_⟩
  · rw [List.getElem?_set] at hz
    split at hz
    · simp at hz; have := h.x3; omega
    · exact h.low p z hz
  · rw [List.getElem?_set] at hz
    split at hz
    · rename_i e
      simp at hz
      rw [← e, ← hz]
      exact h.lab hH (List.mem_of_getElem? hq)
    · exact h.sub H hH p z hz h0
  · rw [List.take_add_one, hq] at hr
    rcases List.mem_append.1 hr with hr | hr
    · exact hkeep r _ (h.dn r hr) hpos
    · simp at hr
      subst hr
      rw [List.getElem?_set_self hql]
theorem HPart.out {fs : List Fu} {f : Fu} {at_ : Nat} {i : In} {x0 : Int} {k : Nat} {hs : List Int} {sn : List Bool} (h : HPart fs f at_ i x0 k hs sn) (hk : (nxt at_ i).length ≤ k) : HInv fs f hs sn := by
  refine ⟨h.hl, h.sl, h.zero, h.low, fun p hs' => ?_, h.sub⟩
  by_cases e : p = at_
  · subst e
    exact ⟨i, x0, h.ci, h.cx, h.c0, h.x1, h.x3, fun q hq => h.dn q (by rwa [List.take_of_length_le hk])⟩
  · exact h.seen p e hs'
/-- How many places were not gone through. -/
def left (sn : List Bool) : Nat := (sn.filter fun b => !b).length
theorem left_set : ∀ (sn : List Bool) (p : Nat), sn[p]? = some false → left (sn.set p true) + 1 = left sn
  | [], p, h => by simp at h
  | b :: r, 0, h => by simp at h; subst h; simp [left]
  | b :: r, p + 1, h => by
    have ih := left_set r p (by simpa using h)
    unfold left at *
    cases b
    · simp only [List.set_cons_succ, List.filter_cons, Bool.not_false, if_true, List.length_cons]; omega
    · simp only [List.set_cons_succ, List.filter_cons, Bool.not_true, Bool.false_eq_true, if_false]; omega
end Go.Proofs.Ytndahpcjkcihlaa
