/- Texts of ours, joined: Jh. -/
import Derived.Test.YtndahpcjkcihlaaG15
/- Heights along all ways, each place once: the program's. Plain mathematics. -/
namespace Go.Proofs.Ytndahpcjkcihlaa
set_option linter.unusedVariables false
set_option linter.unusedSimpArgs false

/-- A place under way, behind those of its ways that are done. -/
structure HQ (fs : List Fu) (f : Fu) (at_ : Nat) (i : In) (x0 : Int) (dn : List Nat) (hs : List Int) (sn : List Bool) : Prop where
  hl : hs.length = f.code.length
  sl : sn.length = f.code.length
  zero : hs[0]? = some 0
  low : ∀ (p : Nat) (x : Int), hs[p]? = some x → -1 ≤ x ∧ x ≤ 256
  seen : ∀ (p : Nat), p ≠ at_ → sn[p]? = some true → Gone fs f hs p
  sub : ∀ H, Lab fs f H → ∀ (p : Nat) (x : Int), hs[p]? = some x → 0 ≤ x → H p = some x
  ci : f.code[at_]? = some i
  cx : hs[at_]? = some x0
  c0 : 0 ≤ x0
  x1 : 0 ≤ x0 - popN fs i
  x3 : hgt fs i x0 ≤ f.stack
  dne : ∀ q ∈ dn, hs[q]? = some (hgt fs i x0)
theorem HInv.intoQ {fs : List Fu} {f : Fu} {hs : List Int} {sn : List Bool} (h : HInv fs f hs sn) {at_ : Nat} {i : In} {x0 : Int} (hx : hs[at_]? = some x0) (h0 : 0 ≤ x0) (hc : f.code[at_]? = some i) (x1 : 0 ≤ x0 - popN fs i) (x3 : hgt fs i x0 ≤ f.stack) : HQ fs f at_ i x0 [] hs (sn.set at_ true) :=
  ⟨h.hl, by rw [List.length_set]; exact h.sl, h.zero, h.low, fun p hp hs' => h.seen p (by rwa [List.getElem?_set_ne (Ne.symm hp)] at hs'), h.sub, hc, hx, h0, x1, x3, fun q hq => by simp at hq⟩
theorem HQ.lab {fs : List Fu} {f : Fu} {at_ : Nat} {i : In} {x0 : Int} {dn : List Nat} {hs : List Int} {sn : List Bool} (h : HQ fs f at_ i x0 dn hs sn) {H : Nat → Option Int} (hH : Lab fs f H) {q : Nat} (hq : q ∈ nxt at_ i) : H q = some (hgt fs i x0) := by
  obtain ⟨j, h1, _, _, h4⟩ := hH.step _ _ (h.sub H hH _ _ h.cx h.c0)
  rw [h.ci] at h1
  cases h1
  exact h4 q hq
theorem HQ.no {fs : List Fu} {f : Fu} {at_ : Nat} {i : In} {x0 : Int} {dn : List Nat} {hs : List Int} {sn : List Bool} (h : HQ fs f at_ i x0 dn hs sn) {q : Nat} (hq : q ∈ nxt at_ i) (hbad : f.code.length ≤ q ∨ ∃ y, hs[q]? = some y ∧ 0 ≤ y ∧ y ≠ hgt fs i x0) : ¬ WalkOk fs f := by
  rintro ⟨H, hH⟩
  have h1 := h.lab hH hq
  rcases hbad with hb | ⟨y, h2, h3, h4⟩
  · obtain ⟨j, h5, _⟩ := hH.step _ _ h1
    have := (List.getElem?_eq_some_iff.1 h5).1
    omega
  · have := h.sub H hH q y h2 h3
    rw [h1] at this
    cases this
    exact h4 rfl
theorem HQ.pos {fs : List Fu} {f : Fu} {at_ : Nat} {i : In} {x0 : Int} {dn : List Nat} {hs : List Int} {sn : List Bool} (h : HQ fs f at_ i x0 dn hs sn) : 0 ≤ hgt fs i x0 := by have := psh_pos i.op; have := h.x1; unfold hgt; omega
theorem HQ.old {fs : List Fu} {f : Fu} {at_ : Nat} {i : In} {x0 : Int} {dn : List Nat} {hs : List Int} {sn : List Bool} (h : HQ fs f at_ i x0 dn hs sn) {q : Nat} (hy : hs[q]? = some (hgt fs i x0)) : HQ fs f at_ i x0 (q :: dn) hs sn :=
  ⟨h.hl, h.sl, h.zero, h.low, h.seen, h.sub, h.ci, h.cx, h.c0, h.x1, h.x3, fun r hr => by
    rcases List.mem_cons.1 hr with rfl | hr
    · exact hy
    · exact h.dne r hr⟩
theorem HQ.set {fs : List Fu} {f : Fu} {at_ : Nat} {i : In} {x0 : Int} {dn : List Nat} {hs : List Int} {sn : List Bool} (h : HQ fs f at_ i x0 dn hs sn) (hst : f.stack ≤ 256) {q : Nat} (hq : q ∈ nxt at_ i) {y : Int} (hy : hs[q]? = some y) (hyx : y < 0) : HQ fs f at_ i x0 (q :: dn) (hs.set q (hgt fs i x0)) sn := by
  have hpos := h.pos
  have hql := (List.getElem?_eq_some_iff.1 hy).1
  have hkeep : ∀ (p : Nat) (z : Int), hs[p]? = some z → 0 ≤ z → (hs.set q (hgt fs i x0))[p]? = some z := by
    intro p z hz h0
    by_cases e : q = p
    · subst e
      rw [hy] at hz
      cases hz
      omega
    · rw [List.getElem?_set_ne e]; exact hz
  have hgone : ∀ p, Gone fs f hs p → Gone fs f (hs.set q (hgt fs i x0)) p := by
    rintro p ⟨j, z, a1, a2, a3, a4, a5, a6⟩
    refine ⟨j, z, a1, hkeep p z a2 a3, a3, a4, a5, fun r hr => hkeep r _ (a6 r hr) ?_⟩
    have := psh_pos j.op
    unfold hgt; omega
  refine ⟨by rw [List.length_set]; exact h.hl, h.sl, hkeep 0 0 h.zero (by omega), fun p z hz => ?_, fun p hp hs' => hgone p (h.seen p hp hs'), fun H hH p z hz h0 => ?_, h.ci, hkeep _ _ h.cx h.c0, h.c0, h.x1, h.x3, fun r hr => ?_⟩
  · rw [List.getElem?_set] at hz
    split at hz
    · simp at hz; have := h.x3; omega
    · exact h.low p z hz
  · rw [List.getElem?_set] at hz
    split at hz
    · rename_i e
      simp at hz
      rw [← e, ← hz]
      exact h.lab hH hq
    · exact h.sub H hH p z hz h0
  · rcases List.mem_cons.1 hr with rfl | hr
    · rw [List.getElem?_set_self hql]
    · exact hkeep r _ (h.dne r hr) hpos
theorem HQ.out {fs : List Fu} {f : Fu} {at_ : Nat} {i : In} {x0 : Int} {dn : List Nat} {hs : List Int} {sn : List Bool} (h : HQ fs f at_ i x0 dn hs sn) (hk : ∀ q ∈ nxt at_ i, q ∈ dn) : HInv fs f hs sn := by
  refine ⟨h.hl, h.sl, h.zero, h.low, fun p hs' => ?_, h.sub⟩
  by_cases e : p = at_
  · subst e
    exact ⟨i, x0, h.ci, h.cx, h.c0, h.x1, h.x3, fun q hq => h.dne q (hk q hq)⟩
  · exact h.seen p e hs'
/-- A place is come to: each height is one more, 0 is none; which places are to be looked at. -/
def rch (hs : List Int) (td : List Nat) (q : Nat) (h : Int) : Option (List Int × List Nat) :=
  match hs[q]? with
  | none => none
  | some y => if y = 0 then some (hs.set q (h + 1), td ++ [q]) else if y - 1 = h then some (hs, td) else none
def rchs (h : Int) : List Int → List Nat → List Nat → Option (List Int × List Nat)
  | hs, td, [] => some (hs, td)
  | hs, td, q :: r => (rch hs td q h).bind fun s => rchs h s.1 s.2 r
/-- The ways of an instruction, in the program's order. -/
def lnx (p : Nat) (i : In) : List Nat := if i.op = 7 then [i.a.toNat] else if i.op = 8 then [p + 1, i.a.toNat] else if i.op = 10 then [] else [p + 1]
theorem lnx_mem {p : Nat} {i : In} {q : Nat} : q ∈ lnx p i ↔ q ∈ nxt p i := by
  unfold lnx nxt
  by_cases h7 : i.op = 7
  · simp [h7]
  · by_cases h8 : i.op = 8
    · simp [h8, or_comm]
    · by_cases h10 : i.op = 10 <;> simp [h7, h8, h10]
/-- How many places have none. -/
def zrs (l : List Int) : Nat := (l.filter fun x => x == 0).length
theorem zrs_set : ∀ (l : List Int) (p : Nat) (y : Int), l[p]? = some 0 → y ≠ 0 → zrs (l.set p y) + 1 = zrs l
  | [], p, y, h, hy => by simp at h
  | b :: r, 0, y, h, hy => by simp at h; subst h; simp [zrs, hy]
  | b :: r, p + 1, y, h, hy => by
    have ih := zrs_set r p y (by simpa using h) hy
    unfold zrs at *
    by_cases hb : b = 0
    · subst hb
      simp only [List.set_cons_succ, List.filter_cons, beq_self_eq_true, if_true, List.length_cons]; omega
    · have : (b == 0) = false := by simpa using hb
      simp only [List.set_cons_succ, List.filter_cons, this, Bool.false_eq_true, if_false]; omega
abbrev dnH (hs : List Int) : List Int := hs.map (· - 1)
theorem dnH_get {hs : List Int} {p : Nat} {x : Int} (h : hs[p]? = some x) : (dnH hs)[p]? = some (x - 1) := by rw [List.getElem?_map, h]; rfl
theorem dnH_of {hs : List Int} {p : Nat} {x : Int} (h : (dnH hs)[p]? = some x) : hs[p]? = some (x + 1) := by
  rw [List.getElem?_map] at h
  rcases e : hs[p]? with _ | y
  · rw [e] at h; cases h
  · rw [e] at h
    have : y - 1 = x := by simpa using h
    rw [show y = x + 1 by omega]
theorem dnH_set (hs : List Int) (q : Nat) (h : Int) : dnH (hs.set q (h + 1)) = (dnH hs).set q h := by
  rw [dnH, List.map_set]
  congr 1
  omega
/-- What is to be looked at. -/
structure Tdo (f : Fu) (hs : List Int) (td : List Nat) (sn : List Bool) : Prop where
  td_ : ∀ n ∈ td, (∃ x, hs[n]? = some x ∧ 1 ≤ x) ∧ sn[n]? = some false
  nd : td.Nodup
  cov : ∀ (p : Nat) (x : Int), hs[p]? = some x → 1 ≤ x → sn[p]? = some true ∨ p ∈ td
  few : td.length + zrs hs ≤ f.code.length
theorem rch_no {fs : List Fu} {f : Fu} {at_ : Nat} {i : In} {x0 : Int} {dn : List Nat} {hs : List Int} {td : List Nat} {sn : List Bool} (h : HQ fs f at_ i x0 dn (dnH hs) sn) {q : Nat} (hq : q ∈ nxt at_ i) (hr : rch hs td q (hgt fs i x0) = none) : ¬ WalkOk fs f := by
  have hl : hs.length = f.code.length := by have := h.hl; simpa using this
  unfold rch at hr
  rcases e : hs[q]? with _ | y
  · exact h.no hq (Or.inl (by have := List.getElem?_eq_none_iff.1 e; omega))
  · rw [e] at hr
    have hr' : (if y = 0 then some (hs.set q (hgt fs i x0 + 1), td ++ [q]) else if y - 1 = hgt fs i x0 then some (hs, td) else none) = none := hr
    have hlow := h.low q (y - 1) (dnH_get e)
    split at hr'
    · cases hr'
    · split at hr'
      · cases hr'
      · exact h.no hq (Or.inr ⟨y - 1, dnH_get e, by omega, by assumption⟩)
theorem rch_yes {fs : List Fu} {f : Fu} {at_ : Nat} {i : In} {x0 : Int} {dn : List Nat} {hs : List Int} {td : List Nat} {sn : List Bool} (h : HQ fs f at_ i x0 dn (dnH hs) sn) (ht : Tdo f hs td sn) (hst : f.stack ≤ 256) {q : Nat} (hq : q ∈ nxt at_ i) {s : List Int × List Nat} (hr : rch hs td q (hgt fs i x0) = some s) : HQ fs f at_ i x0 (q :: dn) (dnH s.1) sn ∧ Tdo f s.1 s.2 sn := by
  have hl : hs.length = f.code.length := by have := h.hl; simpa using this
  have hpos := h.pos
  unfold rch at hr
  rcases e : hs[q]? with _ | y
  · rw [e] at hr; cases hr
  · rw [e] at hr
    have hr' : (if y = 0 then some (hs.set q (hgt fs i x0 + 1), td ++ [q]) else if y - 1 = hgt fs i x0 then some (hs, td) else none) = some s := hr
    have hql := (List.getElem?_eq_some_iff.1 e).1
    split at hr'
    · rename_i y0
      cases hr'
      subst y0
      have hsf : sn[q]? = some false := by
        rcases e2 : sn[q]? with _ | b
        · have := List.getElem?_eq_none_iff.1 e2
          have := h.sl
          omega
        · cases b with
          | false => rfl
          | true =>
            have hd := dnH_get e
            by_cases ea : q = at_
            · rw [ea, h.cx] at hd
              have := h.c0
              have h5 := Option.some.inj hd
              omega
            · obtain ⟨j, z, a1, a2, a3, -⟩ := h.seen q ea e2
              rw [hd] at a2
              have h5 := Option.some.inj a2
              omega
      have hnt : q ∉ td := fun hm => by
        obtain ⟨⟨x, h1, h2⟩, -⟩ := ht.td_ q hm
        rw [e] at h1
        have h5 := Option.some.inj h1
        omega
      refine ⟨?_, fun n hn => ?_, ?_, fun p x hp hx => ?_, ?_⟩
      · show HQ fs f at_ i x0 (q :: dn) (dnH (hs.set q (hgt fs i x0 + 1))) sn
        rw [dnH_set]
        exact h.set hst hq (dnH_get e) (by omega)
      · show (∃ x, (hs.set q (hgt fs i x0 + 1))[n]? = some x ∧ 1 ≤ x) ∧ _
        have hn' : n ∈ td ++ [q] := hn
        rcases List.mem_append.1 hn' with hn | hn
        · obtain ⟨⟨x, h1, h2⟩, h3⟩ := ht.td_ n hn
          exact ⟨⟨x, by rw [List.getElem?_set_ne (by rintro rfl; exact hnt hn)]; exact h1, h2⟩, h3⟩
        · simp at hn
          subst hn
          exact ⟨⟨_, List.getElem?_set_self hql, by omega⟩, hsf⟩
      · show (td ++ [q]).Nodup
        rw [List.nodup_append]
        refine ⟨ht.nd, by simp, fun a ha b hb => ?_⟩
        simp at hb
        subst hb
        rintro rfl
        exact hnt ha
      · have hp' : (hs.set q (hgt fs i x0 + 1))[p]? = some x := hp
        by_cases ep : q = p
        · subst ep
          exact Or.inr (List.mem_append.2 (Or.inr (by simp)))
        · rw [List.getElem?_set_ne ep] at hp'
          rcases ht.cov p x hp' hx with h1 | h1
          · exact Or.inl h1
          · exact Or.inr (List.mem_append.2 (Or.inl h1))
      · have h1 := ht.few
        have h2 := zrs_set hs q (hgt fs i x0 + 1) e (by omega)
        show (td ++ [q]).length + zrs (hs.set q (hgt fs i x0 + 1)) ≤ _
        rw [List.length_append, List.length_singleton]
        omega
    · split at hr'
      · rename_i y1
        cases hr'
        exact ⟨h.old (by rw [← y1]; exact dnH_get e), ht⟩
      · cases hr'
theorem rchs_no {fs : List Fu} {f : Fu} {at_ : Nat} {i : In} {x0 : Int} {sn : List Bool} (hst : f.stack ≤ 256) : ∀ (l : List Nat) {dn : List Nat} {hs : List Int} {td : List Nat}, (∀ q ∈ l, q ∈ nxt at_ i) → HQ fs f at_ i x0 dn (dnH hs) sn → Tdo f hs td sn → rchs (hgt fs i x0) hs td l = none → ¬ WalkOk fs f
  | [], dn, hs, td, hm, h, ht, hr => by cases hr
  | q :: r, dn, hs, td, hm, h, ht, hr => by
    rw [rchs] at hr
    rcases e : rch hs td q (hgt fs i x0) with _ | s
    · exact rch_no h (hm q (by simp)) e
    · rw [e] at hr
      obtain ⟨h1, h2⟩ := rch_yes h ht hst (hm q (by simp)) e
      exact rchs_no hst r (fun q' hq' => hm q' (by simp [hq'])) h1 h2 hr
theorem rchs_yes {fs : List Fu} {f : Fu} {at_ : Nat} {i : In} {x0 : Int} {sn : List Bool} (hst : f.stack ≤ 256) : ∀ (l : List Nat) {dn : List Nat} {hs : List Int} {td : List Nat} {s : List Int × List Nat}, (∀ q ∈ l, q ∈ nxt at_ i) → HQ fs f at_ i x0 dn (dnH hs) sn → Tdo f hs td sn → rchs (hgt fs i x0) hs td l = some s → (∃ dn', HQ fs f at_ i x0 dn' (dnH s.1) sn ∧ (∀ q ∈ l, q ∈ dn') ∧ ∀ q ∈ dn, q ∈ dn') ∧ Tdo f s.1 s.2 sn
  | [], dn, hs, td, s, hm, h, ht, hr => by
    cases hr
    exact ⟨⟨dn, h, fun q hq => by simp at hq, fun q hq => hq⟩, ht⟩
  | q :: r, dn, hs, td, s, hm, h, ht, hr => by
    rw [rchs] at hr
    rcases e : rch hs td q (hgt fs i x0) with _ | s1
    · rw [e] at hr; cases hr
    · rw [e] at hr
      obtain ⟨h1, h2⟩ := rch_yes h ht hst (hm q (by simp)) e
      obtain ⟨⟨dn', h3, h4, h5⟩, h6⟩ := rchs_yes hst r (fun q' hq' => hm q' (by simp [hq'])) h1 h2 hr
      refine ⟨⟨dn', h3, fun q' hq' => ?_, fun q' hq' => h5 q' (by simp [hq'])⟩, h6⟩
      rcases List.mem_cons.1 hq' with rfl | hq'
      · exact h5 _ (by simp)
      · exact h4 q' hq'
/-- The state of the reckoning. -/
structure WInv (fs : List Fu) (f : Fu) (hs : List Int) (td : List Nat) (sn : List Bool) : Prop where
  inv : HInv fs f (dnH hs) sn
  tdo : Tdo f hs td sn
theorem WInv.len {fs : List Fu} {f : Fu} {hs : List Int} {td : List Nat} {sn : List Bool} (h : WInv fs f hs td sn) : hs.length = f.code.length := by have := h.inv.hl; simpa using this
theorem WInv.init {fs : List Fu} {f : Fu} (h : 1 ≤ f.code.length) : WInv fs f ((List.replicate f.code.length 0).set 0 1) [0] (List.replicate f.code.length false) := by
  have e : dnH ((List.replicate f.code.length 0).set 0 1) = (List.replicate f.code.length (-1)).set 0 0 := by
    rw [dnH, List.map_set, List.map_replicate]; rfl
  have hg : ∀ (p : Nat) (x : Int), ((List.replicate f.code.length (0 : Int)).set 0 1)[p]? = some x → 1 ≤ x → p = 0 := fun p x hp hx => by
    by_cases e : 0 = p
    · exact e.symm
    · rw [List.getElem?_set_ne e, List.getElem?_replicate] at hp
      split at hp
      · have h5 := Option.some.inj hp
        omega
      · cases hp
  refine ⟨by rw [e]; exact HInv.init h, fun n hn => ?_, by simp, fun p x hp hx => Or.inr (by rw [hg p x hp hx]; simp), ?_⟩
  · simp at hn
    subst hn
    exact ⟨⟨1, List.getElem?_set_self (by simp; omega), by omega⟩, by rw [List.getElem?_replicate, if_pos (by omega)]⟩
  · have h2 := zrs_set (List.replicate f.code.length (0 : Int)) 0 1 (by rw [List.getElem?_replicate, if_pos (by omega)]) (by omega)
    have h3 : zrs (List.replicate f.code.length (0 : Int)) ≤ f.code.length := by
      unfold zrs
      exact Nat.le_trans (List.length_filter_le _ _) (by simp)
    simp only [List.length_singleton]
    omega
theorem WInv.done {fs : List Fu} {f : Fu} {hs : List Int} {sn : List Bool} (h : WInv fs f hs [] sn) : WalkOk fs f :=
  h.inv.done (fun p x hp hx => by
    rcases h.tdo.cov p (x + 1) (dnH_of hp) (by omega) with h1 | h1
    · exact h1
    · simp at h1)
theorem WInv.top {fs : List Fu} {f : Fu} {hs : List Int} {td : List Nat} {at_ : Nat} {sn : List Bool} (h : WInv fs f hs (td ++ [at_]) sn) : ∃ y i, hs[at_]? = some y ∧ 1 ≤ y ∧ y ≤ 257 ∧ f.code[at_]? = some i ∧ sn[at_]? = some false := by
  obtain ⟨⟨y, h1, h2⟩, h3⟩ := h.tdo.td_ at_ (by simp)
  have h4 := (h.inv.low _ _ (dnH_get h1)).2
  have h5 := h.len
  have h6 := (List.getElem?_eq_some_iff.1 h1).1
  exact ⟨y, f.code[at_]'(by omega), h1, h2, by omega, List.getElem?_eq_getElem _, h3⟩
theorem WInv.bad {fs : List Fu} {f : Fu} {hs : List Int} {td : List Nat} {sn : List Bool} (h : WInv fs f hs td sn) {at_ : Nat} {i : In} {y : Int} (hy : hs[at_]? = some y) (h1 : 1 ≤ y) (hc : f.code[at_]? = some i) (hb : ¬ 0 ≤ y - 1 - popN fs i ∨ ¬ hgt fs i (y - 1) ≤ f.stack) : ¬ WalkOk fs f :=
  no_under h.inv (dnH_get hy) (by omega) hc hb
theorem Tdo.pop {f : Fu} {hs : List Int} {td : List Nat} {at_ : Nat} {sn : List Bool} (h : Tdo f hs (td ++ [at_]) sn) : Tdo f hs td (sn.set at_ true) := by
  have hnd := List.nodup_append.1 h.nd
  refine ⟨fun n hn => ?_, hnd.1, fun p x hp hx => ?_, ?_⟩
  · obtain ⟨h1, h2⟩ := h.td_ n (by simp [hn])
    refine ⟨h1, ?_⟩
    rw [List.getElem?_set_ne]
    · exact h2
    · rintro rfl
      exact hnd.2.2 _ hn _ (by simp) rfl
  · by_cases e : p = at_
    · subst e
      obtain ⟨-, h2⟩ := h.td_ p (by simp)
      exact Or.inl (by rw [List.getElem?_set_self (List.getElem?_eq_some_iff.1 h2).1])
    · rcases h.cov p x hp hx with h1 | h1
      · exact Or.inl (by rw [List.getElem?_set_ne (Ne.symm e)]; exact h1)
      · rcases List.mem_append.1 h1 with h1 | h1
        · exact Or.inr h1
        · simp at h1
          exact absurd h1 e
  · have := h.few
    rw [List.length_append, List.length_singleton] at this
    omega
theorem WInv.none {fs : List Fu} {f : Fu} {hs : List Int} {td : List Nat} {at_ : Nat} {sn : List Bool} (h : WInv fs f hs (td ++ [at_]) sn) (hst : f.stack ≤ 256) {i : In} {y : Int} (hy : hs[at_]? = some y) (h1 : 1 ≤ y) (hc : f.code[at_]? = some i) (x1 : 0 ≤ y - 1 - popN fs i) (x3 : hgt fs i (y - 1) ≤ f.stack) (hr : rchs (hgt fs i (y - 1)) hs td (lnx at_ i) = none) : ¬ WalkOk fs f :=
  rchs_no hst _ (fun q hq => lnx_mem.1 hq) (h.inv.intoQ (dnH_get hy) (by omega) hc x1 x3) h.tdo.pop hr
theorem WInv.next {fs : List Fu} {f : Fu} {hs : List Int} {td : List Nat} {at_ : Nat} {sn : List Bool} (h : WInv fs f hs (td ++ [at_]) sn) (hst : f.stack ≤ 256) {i : In} {y : Int} (hy : hs[at_]? = some y) (h1 : 1 ≤ y) (hc : f.code[at_]? = some i) (x1 : 0 ≤ y - 1 - popN fs i) (x3 : hgt fs i (y - 1) ≤ f.stack) {s : List Int × List Nat} (hr : rchs (hgt fs i (y - 1)) hs td (lnx at_ i) = some s) : WInv fs f s.1 s.2 (sn.set at_ true) ∧ left (sn.set at_ true) < left sn := by
  obtain ⟨⟨dn', h3, h4, -⟩, h6⟩ := rchs_yes hst _ (fun q hq => lnx_mem.1 hq) (h.inv.intoQ (dnH_get hy) (by omega) hc x1 x3) h.tdo.pop hr
  refine ⟨⟨h3.out (fun q hq => h4 q (lnx_mem.2 hq)), h6⟩, ?_⟩
  obtain ⟨-, h7⟩ := h.tdo.td_ at_ (by simp)
  have := left_set sn at_ h7
  omega
end Go.Proofs.Ytndahpcjkcihlaa
