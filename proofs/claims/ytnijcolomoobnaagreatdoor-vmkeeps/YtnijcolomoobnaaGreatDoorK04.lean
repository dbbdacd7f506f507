/- Texts of ours, joined: Jh, Jb, Kf. -/
import Derived.Test.YtnijcolomoobnaaGreatDoorK03
namespace Go.Proofs.YtnijcolomoobnaaGreatDoor
set_option linter.unusedVariables false
set_option linter.unusedSimpArgs false

structure HQ (fs : List Fu) (f : Fu) (at_ : Nat) (i : In) (x0 : Int) (dn : List Nat) (hs : List Int) (sn : List Bool) : Prop where
  hl : hs.length = f.code.length
  sl : sn.length = f.code.length
  zero : hs[0]? = some 0
  low : ∀ (p : Nat) (x : Int), hs[p]? = some x → -1 ≤ x ∧ x ≤ 256
  seen : ∀ (p : Nat), p ≠ at_ → sn[p]? = some true → Gone fs f hs p
  sub : ∀ H, Lab fs f H → ∀ (p : Nat) (x : Int), hs[p]? = some x → 0 ≤ x → H p = some x
  ci : f.code[at_]? = some i
  cx : hs[at_]? = some x0
  c0 : 0 ≤ x0
  x1 : 0 ≤ x0 - popN fs i
  x3 : hgt fs i x0 ≤ f.stack
  dne : ∀ q ∈ dn, hs[q]? = some (hgt fs i x0)
theorem HInv.intoQ {fs : List Fu} {f : Fu} {hs : List Int} {sn : List Bool} (h : HInv fs f hs sn) {at_ : Nat} {i : In} {x0 : Int} (hx : hs[at_]? = some x0) (h0 : 0 ≤ x0) (hc : f.code[at_]? = some i) (x1 : 0 ≤ x0 - popN fs i) (x3 : hgt fs i x0 ≤ f.stack) : HQ fs f at_ i x0 [] hs (sn.set at_ true) :=
  ⟨h.hl, by rw [List.length_set]; exact h.sl, h.zero, h.low, fun p hp hs' => h.seen p (by rwa [List.getElem?_set_ne (Ne.symm hp)] at hs'), h.sub, hc, hx, h0, x1, x3, fun q hq => by simp at hq⟩
theorem HQ.lab {fs : List Fu} {f : Fu} {at_ : Nat} {i : In} {x0 : Int} {dn : List Nat} {hs : List Int} {sn : List Bool} (h : HQ fs f at_ i x0 dn hs sn) {H : Nat → Option Int} (hH : Lab fs f H) {q : Nat} (hq : q ∈ nxt at_ i) : H q = some (hgt fs i x0) := by
  obtain ⟨j, h1, _, _, h4⟩ := hH.step _ _ (h.sub H hH _ _ h.cx h.c0)
  rw [h.ci] at h1
  cases h1
  exact h4 q hq
theorem HQ.no {fs : List Fu} {f : Fu} {at_ : Nat} {i : In} {x0 : Int} {dn : List Nat} {hs : List Int} {sn : List Bool} (h : HQ fs f at_ i x0 dn hs sn) {q : Nat} (hq : q ∈ nxt at_ i) (hbad : f.code.length ≤ q ∨ ∃ y, hs[q]? = some y ∧ 0 ≤ y ∧ y ≠ hgt fs i x0) : ¬ WalkOk fs f := by
  rintro ⟨H, hH⟩
  have h1 := h.lab hH hq
  rcases hbad with hb | ⟨y, h2, h3, h4⟩
  · obtain ⟨j, h5, _⟩ := hH.step _ _ h1
    have := (List.getElem?_eq_some_iff.1 h5).1
    omega
  · have := h.sub H hH q y h2 h3
    rw [h1] at this
    cases this
    exact h4 rfl
theorem HQ.pos {fs : List Fu} {f : Fu} {at_ : Nat} {i : In} {x0 : Int} {dn : List Nat} {hs : List Int} {sn : List Bool} (h : HQ fs f at_ i x0 dn hs sn) : 0 ≤ hgt fs i x0 := by have := psh_pos i.op; have := h.x1; unfold hgt; omega
theorem HQ.old {fs : List Fu} {f : Fu} {at_ : Nat} {i : In} {x0 : Int} {dn : List Nat} {hs : List Int} {sn : List Bool} (h : HQ fs f at_ i x0 dn hs sn) {q : Nat} (hy : hs[q]? = some (hgt fs i x0)) : HQ fs f at_ i x0 (q :: dn) hs sn :=
  ⟨h.hl, h.sl, h.zero, h.low, h.seen, h.sub, h.ci, h.cx, h.c0, h.x1, h.x3, fun r hr => by
    rcases List.mem_cons.1 hr with rfl | hr
    · exact hy
    · exact h.dne r hr⟩
theorem HQ.set {fs : List Fu} {f : Fu} {at_ : Nat} {i : In} {x0 : Int} {dn : List Nat} {hs : List Int} {sn : List Bool} (h : HQ fs f at_ i x0 dn hs sn) (hst : f.stack ≤ 256) {q : Nat} (hq : q ∈ nxt at_ i) {y : Int} (hy : hs[q]? = some y) (hyx : y < 0) : HQ fs f at_ i x0 (q :: dn) (hs.set q (hgt fs i x0)) sn := by
  have hpos := h.pos
  have hql := (List.getElem?_eq_some_iff.1 hy).1
  have hkeep : ∀ (p : Nat) (z : Int), hs[p]? = some z → 0 ≤ z → (hs.set q (hgt fs i x0))[p]? = some z := by
    intro p z hz h0
    by_cases e : q = p
    · subst e
      rw [hy] at hz
      cases hz
      omega
    · rw [List.getElem?_set_ne e]; exact hz
  have hgone : ∀ p, Gone fs f hs p → Gone fs f (hs.set q (hgt fs i x0)) p := by
    rintro p ⟨j, z, a1, a2, a3, a4, a5, a6⟩
    refine ⟨j, z, a1, hkeep p z a2 a3, a3, a4, a5, fun r hr => hkeep r _ (a6 r hr) ?_⟩
    have := psh_pos j.op
    unfold hgt; omega
  refine ⟨by rw [List.length_set]; exact h.hl, h.sl, hkeep 0 0 h.zero (by omega), fun p z hz => ?_, fun p hp hs' => hgone p (h.seen p hp hs'), fun H hH p z hz h0 => ?_, h.ci, hkeep _ _ h.cx h.c0, h.c0, h.x1, h.x3, fun r hr => ?_⟩
  · rw [List.getElem?_set] at hz
    split at hz
    · simp at hz; have := h.x3; omega
    · exact h.low p z hz
  · rw [List.getElem?_set] at hz
    split at hz
    · rename_i e
      simp at hz
      rw [← e, ← hz]
      exact h.lab hH hq
    · exact h.sub H hH p z hz h0
  · rcases List.mem_cons.1 hr with rfl | hr
    · rw [List.getElem?_set_self hql]
    · exact hkeep r _ (h.dne r hr) hpos
theorem HQ.out {fs : List Fu} {f : Fu} {at_ : Nat} {i : In} {x0 : Int} {dn : List Nat} {hs : List Int} {sn : List Bool} (h : HQ fs f at_ i x0 dn hs sn) (hk : ∀ q ∈ nxt at_ i, q ∈ dn) : HInv fs f hs sn := by
  refine ⟨h.hl, h.sl, h.zero, h.low, fun p hs' => ?_, h.sub⟩
  by_cases e : p = at_
  · subst e
    exact ⟨i, x0, h.ci, h.cx, h.c0, h.x1, h.x3, fun q hq => h.dne q (hk q hq)⟩
  · exact h.seen p e hs'
def rch (hs : List Int) (td : List Nat) (q : Nat) (h : Int) : Option (List Int × List Nat) :=
  match hs[q]? with
  | none => none
  | some y => if y = 0 then some (hs.set q (h + 1), td ++ [q]) else if y - 1 = h then some (hs, td) else none
def rchs (h : Int) : List Int → List Nat → List Nat → Option (List Int × List Nat)
  | hs, td, [] => some (hs, td)
  | hs, td, q :: r => (rch hs td q h).bind fun s => rchs h s.1 s.2 r
def lnx (p : Nat) (i : In) : List Nat := if i.op = 7 then [i.a.toNat] else if i.op = 8 then [p + 1, i.a.toNat] else if i.op = 10 then [] else [p + 1]
theorem lnx_mem {p : Nat} {i : In} {q : Nat} : q ∈ lnx p i ↔ q ∈ nxt p i := by
  unfold lnx nxt
  by_cases h7 : i.op = 7
  · simp [h7]
  · by_cases h8 : i.op = 8
    · simp [h8, or_comm]
    · by_cases h10 : i.op = 10 <;> simp [h7, h8, h10]
def zrs (l : List Int) : Nat := (l.filter fun x => x == 0).length
theorem zrs_set : ∀ (l : List Int) (p : Nat) (y : Int), l[p]? = some 0 → y ≠ 0 → zrs (l.set p y) + 1 = zrs l
  | [], p, y, h, hy => by simp at h
  | b :: r, 0, y, h, hy => by simp at h; subst h; simp [zrs, hy]
  | b :: r, p + 1, y, h, hy => by
    have ih := zrs_set r p y (by simpa using h) hy
    unfold zrs at *
    by_cases hb : b = 0
    · subst hb
      simp only [List.set_cons_succ, List.filter_cons, beq_self_eq_true, if_true, List.length_cons]; omega
    · have : (b == 0) = false := by simpa using hb
      simp only [List.set_cons_succ, List.filter_cons, this, Bool.false_eq_true, if_false]; omega
abbrev dnH (hs : List Int) : List Int := hs.map (· - 1)
theorem dnH_get {hs : List Int} {p : Nat} {x : Int} (h : hs[p]? = some x) : (dnH hs)[p]? = some (x - 1) := by rw [List.getElem?_map, h]; rfl
theorem dnH_of {hs : List Int} {p : Nat} {x : Int} (h : (dnH hs)[p]? = some x) : hs[p]? = some (x + 1) := by
  rw [List.getElem?_map] at h
  rcases e : hs[p]? with _ | y
  · rw [e] at h; cases h
  · rw [e] at h
    have : y - 1 = x := by simpa using h
    rw [show y = x + 1 by omega]
theorem dnH_set (hs : List Int) (q : Nat) (h : Int) : dnH (hs.set q (h + 1)) = (dnH hs).set q h := by
  rw [dnH, List.map_set]
  congr 1
  omega
structure Tdo (f : Fu) (hs : List Int) (td : List Nat) (sn : List Bool) : Prop where
  td_ : ∀ n ∈ td, (∃ x, hs[n]? = some x ∧ 1 ≤ x) ∧ sn[n]? = some false
  nd : td.Nodup
  cov : ∀ (p : Nat) (x : Int), hs[p]? = some x → 1 ≤ x → sn[p]? = some true ∨ p ∈ td
  few : td.length + zrs hs ≤ f.code.length
theorem rch_no {fs : List Fu} {f : Fu} {at_ : Nat} {i : In} {x0 : Int} {dn : List Nat} {hs : List Int} {td : List Nat} {sn : List Bool} (h : HQ fs f at_ i x0 dn (dnH hs) sn) {q : Nat} (hq : q ∈ nxt at_ i) (hr : rch hs td q (hgt fs i x0) = none) : ¬ WalkOk fs f := by
  have hl : hs.length = f.code.length := by have := h.hl; simpa using this
  unfold rch at hr
  rcases e : hs[q]? with _ | y
  · exact h.no hq (Or.inl (by have := List.getElem?_eq_none_iff.1 e; omega))
  · rw [e] at hr
    have hr' : (if y = 0 then some (hs.set q (hgt fs i x0 + 1), td ++ [q]) else if y - 1 = hgt fs i x0 then some (hs, td) else none) = none := hr
    have hlow := h.low q (y - 1) (dnH_get e)
    split at hr'
    · cases hr'
    · split at hr'
      · cases hr'
      · exact h.no hq (Or.inr ⟨y - 1, dnH_get e, by omega, by assumption⟩)
theorem rch_yes {fs : List Fu} {f : Fu} {at_ : Nat} {i : In} {x0 : Int} {dn : List Nat} {hs : List Int} {td : List Nat} {sn : List Bool} (h : HQ fs f at_ i x0 dn (dnH hs) sn) (ht : Tdo f hs td sn) (hst : f.stack ≤ 256) {q : Nat} (hq : q ∈ nxt at_ i) {s : List Int × List Nat} (hr : rch hs td q (hgt fs i x0) = some s) : HQ fs f at_ i x0 (q :: dn) (dnH s.1) sn ∧ Tdo f s.1 s.2 sn := by
  have hl : hs.length = f.code.length := by have := h.hl; simpa using this
  have hpos := h.pos
  unfold rch at hr
  rcases e : hs[q]? with _ | y
  · rw [e] at hr; cases hr
  · rw [e] at hr
    have hr' : (if y = 0 then some (hs.set q (hgt fs i x0 + 1), td ++ [q]) else if y - 1 = hgt fs i x0 then some (hs, td) else none) = some s := hr
    have hql := (List.getElem?_eq_some_iff.1 e).1
    split at hr'
    · rename_i y0
      cases hr'
      subst y0
      have hsf : sn[q]? = some false := by
        rcases e2 : sn[q]? with _ | b
        · have := List.getElem?_eq_none_iff.1 e2
          have := h.sl
          omega
        · cases b with
          | false => rfl
          | true =>
            have hd := dnH_get e
            by_cases ea : q = at_
            · rw [ea, h.cx] at hd
              have := h.c0
              have h5 := Option.some.inj hd
              omega
            · obtain ⟨j, z, a1, a2, a3, -⟩ := h.seen q ea e2
              rw [hd] at a2
              have h5 := Option.some.inj a2
              omega
      have hnt : q ∉ td := fun hm => by
        obtain ⟨⟨x, h1, h2⟩, -⟩ := ht.td_ q hm
        rw [e] at h1
        have h5 := Option.some.inj h1
        omega
      refine ⟨?_, fun n hn => ?_, ?_, fun p x hp hx => ?_, ?_⟩
      · show HQ fs f at_ i x0 (q :: dn) (dnH (hs.set q (hgt fs i x0 + 1))) sn
        rw [dnH_set]
        exact h.set hst hq (dnH_get e) (by omega)
      · show (∃ x, (hs.set q (hgt fs i x0 + 1))[n]? = some x ∧ 1 ≤ x) ∧ _
        have hn' : n ∈ td ++ [q] := hn
        rcases List.mem_append.1 hn' with hn | hn
        · obtain ⟨⟨x, h1, h2⟩, h3⟩ := ht.td_ n hn
          exact ⟨⟨x, by rw [List.getElem?_set_ne (by rintro rfl; exact hnt hn)]; exact h1, h2⟩, h3⟩
        · simp at hn
          subst hn
          exact ⟨⟨_, List.getElem?_set_self hql, by omega⟩, hsf⟩
      · show (td ++ [q]).Nodup
        rw [List.nodup_append]
        refine ⟨ht.nd, by simp, fun a ha b hb => ?_⟩
        simp at hb
        subst hb
        rintro rfl
        exact hnt ha
      · have hp' : (hs.set q (hgt fs i x0 + 1))[p]? = some x := hp
        by_cases ep : q = p
        · subst ep
          exact Or.inr (List.mem_append.2 (Or.inr (by simp)))
        · rw [List.getElem?_set_ne ep] at hp'
          rcases ht.cov p x hp' hx with h1 | h1
          · exact Or.inl h1
          · exact Or.inr (List.mem_append.2 (Or.inl h1))
      · have h1 := ht.few
        have h2 := zrs_set hs q (hgt fs i x0 + 1) e (by omega)
        show (td ++ [q]).length + zrs (hs.set q (hgt fs i x0 + 1)) ≤ _
        rw [List.length_append, List.length_singleton]
        omega
    · split at hr'
      · rename_i y1
        cases hr'
        exact ⟨h.old (by rw [← y1]; exact dnH_get e), ht⟩
      · cases hr'
theorem rchs_no {fs : List Fu} {f : Fu} {at_ : Nat} {i : In} {x0 : Int} {sn : List Bool} (hst : f.stack ≤ 256) : ∀ (l : List Nat) {dn : List Nat} {hs : List Int} {td : List Nat}, (∀ q ∈ l, q ∈ nxt at_ i) → HQ fs f at_ i x0 dn (dnH hs) sn → Tdo f hs td sn → rchs (hgt fs i x0) hs td l = none → ¬ WalkOk fs f
  | [], dn, hs, td, hm, h, ht, hr => by cases hr
  | q :: r, dn, hs, td, hm, h, ht, hr => by
    rw [rchs] at hr
    rcases e : rch hs td q (hgt fs i x0) with _ | s
    · exact rch_no h (hm q (by simp)) e
    · rw [e] at hr
      obtain ⟨h1, h2⟩ := rch_yes h ht hst (hm q (by simp)) e
      exact rchs_no hst r (fun q' hq' => hm q' (by simp [hq'])) h1 h2 hr
theorem rchs_yes {fs : List Fu} {f : Fu} {at_ : Nat} {i : In} {x0 : Int} {sn : List Bool} (hst : f.stack ≤ 256) : ∀ (l : List Nat) {dn : List Nat} {hs : List Int} {td : List Nat} {s : List Int × List Nat}, (∀ q ∈ l, q ∈ nxt at_ i) → HQ fs f at_ i x0 dn (dnH hs) sn → Tdo f hs td sn → rchs (hgt fs i x0) hs td l = some s → (∃ dn', HQ fs f at_ i x0 dn' (dnH s.1) sn ∧ (∀ q ∈ l, q ∈ dn') ∧ ∀ q ∈ dn, q ∈ dn') ∧ Tdo f s.1 s.2 sn
  | [], dn, hs, td, s, hm, h, ht, hr => by
    cases hr
    exact ⟨⟨dn, h, fun q hq => by simp at hq, fun q hq => hq⟩, ht⟩
  | q :: r, dn, hs, td, s, hm, h, ht, hr => by
    rw [rchs] at hr
    rcases e : rch hs td q (hgt fs i x0) with _ | s1
    · rw [e] at hr; cases hr
    · rw [e] at hr
      obtain ⟨h1, h2⟩ := rch_yes h ht hst (hm q (by simp)) e
      obtain ⟨⟨dn', h3, h4, h5⟩, h6⟩ := rchs_yes hst r (fun q' hq' => hm q' (by simp [hq'])) h1 h2 hr
      refine ⟨⟨dn', h3, fun q' hq' => ?_, fun q' hq' => h5 q' (by simp [hq'])⟩, h6⟩
      rcases List.mem_cons.1 hq' with rfl | hq'
      · exact h5 _ (by simp)
      · exact h4 q' hq'
structure WInv (fs : List Fu) (f : Fu) (hs : List Int) (td : List Nat) (sn : List Bool) : Prop where
  inv : HInv fs f (dnH hs) sn
  tdo : Tdo f hs td sn
theorem WInv.len {fs : List Fu} {f : Fu} {hs : List Int} {td : List Nat} {sn : List Bool} (h : WInv fs f hs td sn) : hs.length = f.code.length := by have := h.inv.hl; simpa using this
theorem WInv.init {fs : List Fu} {f : Fu} (h : 1 ≤ f.code.length) : WInv fs f ((List.replicate f.code.length 0).set 0 1) [0] (List.replicate f.code.length false) := by
  have e : dnH ((List.replicate f.code.length 0).set 0 1) = (List.replicate f.code.length (-1)).set 0 0 := by
    rw [dnH, List.map_set, List.map_replicate]; rfl
  have hg : ∀ (p : Nat) (x : Int), ((List.replicate f.code.length (0 : Int)).set 0 1)[p]? = some x → 1 ≤ x → p = 0 := fun p x hp hx => by
    by_cases e : 0 = p
    · exact e.symm
    · rw [List.getElem?_set_ne e, List.getElem?_replicate] at hp
      split at hp
      · have h5 := Option.some.inj hp
        omega
      · cases hp
  refine ⟨by rw [e]; exact HInv.init h, fun n hn => ?_, by simp, fun p x hp hx => Or.inr (by rw [hg p x hp hx]; simp), ?_⟩
  · simp at hn
    subst hn
    exact ⟨⟨1, List.getElem?_set_self (by simp; omega), by omega⟩, by rw [List.getElem?_replicate, if_pos (by omega)]⟩
  · have h2 := zrs_set (List.replicate f.code.length (0 : Int)) 0 1 (by rw [List.getElem?_replicate, if_pos (by omega)]) (by omega)
    have h3 : zrs (List.replicate f.code.length (0 : Int)) ≤ f.code.length := by
      unfold zrs
      exact Nat.le_trans (List.length_filter_le _ _) (by simp)
    simp only [List.length_singleton]
    omega
theorem WInv.done {fs : List Fu} {f : Fu} {hs : List Int} {sn : List Bool} (h : WInv fs f hs [] sn) : WalkOk fs f :=
  h.inv.done (fun p x hp hx => by
    rcases h.tdo.cov p (x + 1) (dnH_of hp) (by omega) with h1 | h1
    · exact h1
    · simp at h1)
theorem WInv.top {fs : List Fu} {f : Fu} {hs : List Int} {td : List Nat} {at_ : Nat} {sn : List Bool} (h : WInv fs f hs (td ++ [at_]) sn) : ∃ y i, hs[at_]? = some y ∧ 1 ≤ y ∧ y ≤ 257 ∧ f.code[at_]? = some i ∧ sn[at_]? = some false := by
  obtain ⟨⟨y, h1, h2⟩, h3⟩ := h.tdo.td_ at_ (by simp)
  have h4 := (h.inv.low _ _ (dnH_get h1)).2
  have h5 := h.len
  have h6 := (List.getElem?_eq_some_iff.1 h1).1
  exact ⟨y, f.code[at_]'(by omega), h1, h2, by omega, List.getElem?_eq_getElem _, h3⟩
theorem WInv.bad {fs : List Fu} {f : Fu} {hs : List Int} {td : List Nat} {sn : List Bool} (h : WInv fs f hs td sn) {at_ : Nat} {i : In} {y : Int} (hy : hs[at_]? = some y) (h1 : 1 ≤ y) (hc : f.code[at_]? = some i) (hb : ¬ 0 ≤ y - 1 - popN fs i ∨ ¬ hgt fs i (y - 1) ≤ f.stack) : ¬ WalkOk fs f :=
  no_under h.inv (dnH_get hy) (by omega) hc hb
theorem Tdo.pop {f : Fu} {hs : List Int} {td : List Nat} {at_ : Nat} {sn : List Bool} (h : Tdo f hs (td ++ [at_]) sn) : Tdo f hs td (sn.set at_ true) := by
  have hnd := List.nodup_append.1 h.nd
  refine ⟨fun n hn => ?_, hnd.1, fun p x hp hx => ?_, ?_⟩
  · obtain ⟨h1, h2⟩ := h.td_ n (by simp [hn])
    refine ⟨h1, ?_⟩
    rw [List.getElem?_set_ne]
    · exact h2
    · rintro rfl
      exact hnd.2.2 _ hn _ (by simp) rfl
  · by_cases e : p = at_
    · subst e
      obtain ⟨-, h2⟩ := h.td_ p (by simp)
      exact Or.inl (by rw [List.getElem?_set_self (List.getElem?_eq_some_iff.1 h2).1])
    · rcases h.cov p x hp hx with h1 | h1
      · exact Or.inl (by rw [List.getElem?_set_ne (Ne.symm e)]; exact h1)
      · rcases List.mem_append.1 h1 with h1 | h1
        · exact Or.inr h1
        · simp at h1
          exact absurd h1 e
  · have := h.few
    rw [List.length_append, List.length_singleton] at this
    omega
theorem WInv.none {fs : List Fu} {f : Fu} {hs : List Int} {td : List Nat} {at_ : Nat} {sn : List Bool} (h : WInv fs f hs (td ++ [at_]) sn) (hst : f.stack ≤ 256) {i : In} {y : Int} (hy : hs[at_]? = some y) (h1 : 1 ≤ y) (hc : f.code[at_]? = some i) (x1 : 0 ≤ y - 1 - popN fs i) (x3 : hgt fs i (y - 1) ≤ f.stack) (hr : rchs (hgt fs i (y - 1)) hs td (lnx at_ i) = none) : ¬ WalkOk fs f :=
  rchs_no hst _ (fun q hq => lnx_mem.1 hq) (h.inv.intoQ (dnH_get hy) (by omega) hc x1 x3) h.tdo.pop hr
theorem WInv.next {fs : List Fu} {f : Fu} {hs : List Int} {td : List Nat} {at_ : Nat} {sn : List Bool} (h : WInv fs f hs (td ++ [at_]) sn) (hst : f.stack ≤ 256) {i : In} {y : Int} (hy : hs[at_]? = some y) (h1 : 1 ≤ y) (hc : f.code[at_]? = some i) (x1 : 0 ≤ y - 1 - popN fs i) (x3 : hgt fs i (y - 1) ≤ f.stack) {s : List Int × List Nat} (hr : rchs (hgt fs i (y - 1)) hs td (lnx at_ i) = some s) : WInv fs f s.1 s.2 (sn.set at_ true) ∧ left (sn.set at_ true) < left sn := by
  obtain ⟨⟨dn', h3, h4, -⟩, h6⟩ := rchs_yes hst _ (fun q hq => lnx_mem.1 hq) (h.inv.intoQ (dnH_get hy) (by omega) hc x1 x3) h.tdo.pop hr
  refine ⟨⟨h3.out (fun q hq => h4 q (lnx_mem.2 hq)), h6⟩, ?_⟩
  obtain ⟨-, h7⟩ := h.tdo.td_ at_ (by simp)
  have := left_set sn at_ h7
  omega
end Go.Proofs.YtnijcolomoobnaaGreatDoor
namespace Go.Proofs.YtnijcolomoobnaaGreatDoor
open Go.RowKit
set_option linter.unusedVariables false
set_option linter.unusedSimpArgs false
attribute [local go_sem ↓] Go.wp_at_zero Go.wp_at_succ

def wn (x lo hi : Int) : Bool := decide (lo ≤ x) && decide (x ≤ hi)
theorem wn_iff {x lo hi : Int} : wn x lo hi = true ↔ lo ≤ x ∧ x ≤ hi := by unfold wn; simp
set_option maxRecDepth 100000 in
set_option maxHeartbeats 1000000 in
theorem within_any (x lo hi : Int) (w : World) : Calls Tryz.prog 118 #[.int .i64 x, .int .i64 lo, .int .i64 hi] w fun e w' => e = .returned (.bool (wn x lo hi)) ∧ w' = w := by
  by_cases h1 : lo ≤ x
  · by_cases h2 : x ≤ hi
    · have hr : wn x lo hi = true := by unfold wn; simp [h1, h2]
      rw [hr]
      go_enter Tryz.func118, Tryz.ntmps118
      go_wp2
      go_ret
      exact ⟨by simp [h1, h2], rfl⟩
    · have hr : wn x lo hi = false := by unfold wn; simp [h1, h2]
      rw [hr]
      go_enter Tryz.func118, Tryz.ntmps118
      go_wp2
      go_ret
      exact ⟨by simp [h1, h2], rfl⟩
  · have hr : wn x lo hi = false := by unfold wn; simp [h1]
    rw [hr]
    go_enter Tryz.func118, Tryz.ntmps118
    go_wp2
    go_ret
    exact ⟨by simp [h1], rfl⟩
theorem box8 (w : World) (x0 x1 x2 x3 x4 x5 x6 x7 : Value) (T : TypeId) : ∃ w0, w.alloc (.cells #[x0, x1, x2, x3, x4, x5, x6, x7] T) = w0 ∧ Below w.heap.size w w0 ∧ w0.heap.size = w.heap.size + 1 ∧ w0.heap[w.heap.size]? = some (.cells #[x0, x1, x2, x3, x4, x5, x6, x7] T (0, 0)) :=
  ⟨_, rfl, (Below.refl _ _).alloc (Nat.le_refl _) _, by simp, heap_new _ _⟩
theorem cells_k8 {w : World} {g : Nat} {y0 y1 y2 y3 y4 y5 y6 y7 : Value} {T : TypeId} (h : w.heap[g]? = some (.cells #[y0, y1, y2, y3, y4, y5, y6, y7] T (0, 0))) : w.cell? ⟨g, 0, none⟩ = some y0 ∧ w.cell? ⟨g, 1, none⟩ = some y1 ∧ w.cell? ⟨g, 2, none⟩ = some y2 ∧ w.cell? ⟨g, 3, none⟩ = some y3 ∧ w.cell? ⟨g, 4, none⟩ = some y4 ∧ w.cell? ⟨g, 5, none⟩ = some y5 ∧ w.cell? ⟨g, 6, none⟩ = some y6 ∧ w.cell? ⟨g, 7, none⟩ = some y7 ∧ g < w.heap.size := by
  refine ⟨?_, ?_, ?_, ?_, ?_, ?_, ?_, ?_, (Array.getElem?_eq_some_iff.1 h).1⟩
  all_goals simp [World.cell?, h]
def pshL (op : Int) : Int := if op == 3 || op == 5 || op == 6 || op == 7 || op == 8 || op == 10 || op == 11 then 0 else 1
theorem pshL_eq {op : Int} (h1 : 1 ≤ op) (h2 : op ≤ 21) : pshL op = psh op := by
  have : op = 1 ∨ op = 2 ∨ op = 3 ∨ op = 4 ∨ op = 5 ∨ op = 6 ∨ op = 7 ∨ op = 8 ∨ op = 9 ∨ op = 10 ∨ op = 11 ∨ op = 12 ∨ op = 13 ∨ op = 14 ∨ op = 15 ∨ op = 16 ∨ op = 17 ∨ op = 18 ∨ op = 19 ∨ op = 20 ∨ op = 21 := by omega
  rcases this with rfl | rfl | rfl | rfl | rfl | rfl | rfl | rfl | rfl | rfl | rfl | rfl | rfl | rfl | rfl | rfl | rfl | rfl | rfl | rfl | rfl <;> rfl
set_option maxRecDepth 100000 in
set_option maxHeartbeats 4000000 in
theorem lpushes_any (op : Int) (w : World) : Calls Tryz.prog 149 #[.int .i64 op] w fun e w' => e = .returned (.int .i64 (pshL op)) ∧ w' = w := by
  obtain ⟨r, hr⟩ : ∃ r, Hid (pshL op = r) := ⟨_, rfl⟩
  rw [hr.out]
  go_enter Tryz.func149, Tryz.ntmps149
  go_wp2
  all_goals (try go_ret)
  all_goals (refine ⟨?_, rfl⟩; rw [← hr.out]; unfold pshL; simp_all)
set_option maxRecDepth 100000 in
set_option maxHeartbeats 4000000 in
theorem lpops_other {f : Fu} {cd bl : Value} {nc st : Int} {fs : List Fu} {i : In} {w : World} (h9 : (i.op == 9) = false) : Calls Tryz.prog 148 #[.agg #[.int .i64 f.params, .int .i64 f.locals, .int .i64 f.zero, .int .i64 f.stack, cd, .int .i64 nc, .int .i64 st, bl], .agg #[.int .i64 i.op, .int .i64 i.a]] w fun e w' => e = .returned (.int .i64 (popN fs i)) ∧ Below w.heap.size w w' := by
  obtain ⟨w0, hW0, hb0, hl0, hx0⟩ := box8 w (.int .i64 f.params) (.int .i64 f.locals) (.int .i64 f.zero) (.int .i64 f.stack) cd (.int .i64 nc) (.int .i64 st) bl 131
  obtain ⟨w1, hW, hb, hl, hx⟩ := box2 w0 (.int .i64 i.op) (.int .i64 i.a) 48
  obtain ⟨c0, c1, -, -, hlt⟩ := cells_k2 hx
  have hB : Below w.heap.size w w1 := hb0.trans (hb.mono (by omega))
  obtain ⟨r, hr⟩ : ∃ r, Hid (popN fs i = r) := ⟨_, rfl⟩
  rw [hr.out]
  obtain ⟨op, a⟩ := i
  simp only at *
  clear hx hl hx0 hl0
  go_enter Tryz.func148, Tryz.ntmps148
  go_wp2
  all_goals (try go_ret)
  all_goals (refine ⟨?_, hB⟩; rw [← hr.out]; unfold popN pop1 pop2; simp_all)
set_option maxRecDepth 100000 in
set_option maxHeartbeats 4000000 in
theorem lpops_call {B : Nat → Prop} {fs : List Fu} {f0 : Fu} {cd : Value} {nc st : Int} {af : Option Addr} {cf : Nat} {i : In} {w : World} {n : Nat} {f : Fu} (hm : IsFus B w fs (.slice af fs.length cf)) (h9 : i.op = 9) (hn : i.a = (n : Int)) (hf : fs[n]? = some f) : Calls Tryz.prog 148 #[.agg #[.int .i64 f0.params, .int .i64 f0.locals, .int .i64 f0.zero, .int .i64 f0.stack, cd, .int .i64 nc, .int .i64 st, .slice af fs.length cf], .agg #[.int .i64 i.op, .int .i64 i.a]] w fun e w' => e = .returned (.int .i64 (popN fs i)) ∧ Below w.heap.size w w' := by
  obtain ⟨w0, hW0, hb0, hl0, hx0⟩ := box8 w (.int .i64 f0.params) (.int .i64 f0.locals) (.int .i64 f0.zero) (.int .i64 f0.stack) cd (.int .i64 nc) (.int .i64 st) (.slice af fs.length cf) 131
  obtain ⟨w1, hW, hb, hl, hx⟩ := box2 w0 (.int .i64 i.op) (.int .i64 i.a) 48
  obtain ⟨c0, c1, -, -, hlt⟩ := cells_k2 hx
  obtain ⟨-, -, -, -, -, -, -, d7, hlt0⟩ := cells_k8 ((hb.block _ (by omega)).trans hx0)
  have hB : Below w.heap.size w w1 := hb0.trans (hb.mono (by omega))
  obtain ⟨g, o, ac, cc, rfl, -, hg, e0, -⟩ := (hm.since (Since.of_below hB)).get hf
  have hr : popN fs i = f.params := by
    unfold popN pop1 pop2
    rw [h9, hn]
    simp [hf]
  rw [hr]
  have hnl := (List.getElem?_eq_some_iff.1 hf).1
  have hI : (n : Int) < (fs.length : Int) := by omega
  have h0 : (0 : Int) ≤ (n : Int) := by omega
  rw [h9] at c0
  rw [hn] at c1
  rw [h9, hn] at hW
  rw [h9, hn]
  clear hx hl hx0 hl0 hr hf hm hnl h9 hn
  go_enter Tryz.func148, Tryz.ntmps148
  go_wp2
  go_ret
  exact ⟨rfl, hB⟩
def enHi (nc : Nat) (states : Int) (n : Nat) (f : Fu) (op : Int) : Int :=
  if op == 1 then nc - 1 else if op == 2 || op == 3 then f.locals - 1 else if op == 4 || op == 5 then states - 1 else if op == 7 || op == 8 then f.code.length - 1
  else if op == 9 then n - 1 else if op == 11 then 1099511627776 else if op == 12 then 13 else if op == 6 || op == 10 || op == 13 || op == 14 || op == 15 || op == 16 || op == 17 || op == 18 || op == 19 || op == 20 || op == 21 then 0 else -1
theorem en_inB {nc : Nat} {states : Int} {n : Nat} {f : Fu} {i : In} : wn i.a (inLow i.op) (enHi nc states n f i.op) = inB nc states n f i := by
  obtain ⟨op, a⟩ := i
  rw [Bool.eq_iff_iff, wn_iff]
  show _ ↔ InOk nc states n f ⟨op, a⟩
  rw [inOk_iff]
  show inLow op ≤ a ∧ a ≤ enHi nc states n f op ↔ 1 ≤ op ∧ op ≤ 21 ∧ inLow op ≤ a ∧ a < inTop nc states n f op
  by_cases h : 1 ≤ op ∧ op ≤ 21
  · obtain ⟨h1, h2⟩ := h
    have h3 : enHi nc states n f op = inTop nc states n f op - 1 := by
      have : op = 1 ∨ op = 2 ∨ op = 3 ∨ op = 4 ∨ op = 5 ∨ op = 6 ∨ op = 7 ∨ op = 8 ∨ op = 9 ∨ op = 10 ∨ op = 11 ∨ op = 12 ∨ op = 13 ∨ op = 14 ∨ op = 15 ∨ op = 16 ∨ op = 17 ∨ op = 18 ∨ op = 19 ∨ op = 20 ∨ op = 21 := by omega
      unfold enHi inTop
      rcases this with rfl | rfl | rfl | rfl | rfl | rfl | rfl | rfl | rfl | rfl | rfl | rfl | rfl | rfl | rfl | rfl | rfl | rfl | rfl | rfl | rfl <;> simp
    rw [h3]
    omega
  · have h3 : enHi nc states n f op = -1 := by
      unfold enHi
      repeat' split
      all_goals (try simp_all)
      all_goals omega
    have h4 : 0 ≤ inLow op := by unfold inLow; split <;> omega
    rw [h3]
    omega
set_option maxRecDepth 100000 in
set_option maxHeartbeats 8000000 in
theorem ends_any {f : Fu} {ak af : Option Addr} {ck cf nc n : Nat} {states : Int} (hk : f.code.length ≤ 900000) (hl : 0 ≤ f.locals ∧ f.locals ≤ 256) (hnc : nc ≤ 900000) (hn : n ≤ 900000) (hst : 0 ≤ states ∧ states ≤ 32) (op : Int) (w : World) : Calls Tryz.prog 145 #[.agg #[.int .i64 f.params, .int .i64 f.locals, .int .i64 f.zero, .int .i64 f.stack, .slice ak f.code.length ck, .int .i64 nc, .int .i64 states, .slice af n cf], .int .i64 op] w fun e w' => e = .returned (.tuple #[.int .i64 (inLow op), .int .i64 (enHi nc states n f op)]) ∧ Below w.heap.size w w' := by
  obtain ⟨w0, hW0, hb0, hl0, hx0⟩ := box8 w (.int .i64 f.params) (.int .i64 f.locals) (.int .i64 f.zero) (.int .i64 f.stack) (.slice ak f.code.length ck) (.int .i64 nc) (.int .i64 states) (.slice af n cf) 131
  obtain ⟨d0, d1, d2, d3, d4, d5, d6, d7, hlt0⟩ := cells_k8 hx0
  obtain ⟨r1, hr1⟩ : ∃ r, Hid (inLow op = r) := ⟨_, rfl⟩
  obtain ⟨r2, hr2⟩ : ∃ r, Hid (enHi nc states n f op = r) := ⟨_, rfl⟩
  rw [hr1.out, hr2.out]
  obtain ⟨l1, l2⟩ := hl
  obtain ⟨s1, s2⟩ := hst
  clear hx0 hl0 d0 d2 d3
  go_enter Tryz.func145, Tryz.ntmps145
  go_wp2
  all_goals (try go_region_held3 (fun w' => w'.cell? ⟨w.heap.size, 1, none⟩ = some (.int .i64 f.locals) ∧ w'.cell? ⟨w.heap.size, 4, none⟩ = some (.slice ak f.code.length ck) ∧ w'.cell? ⟨w.heap.size, 5, none⟩ = some (.int .i64 nc) ∧ w'.cell? ⟨w.heap.size, 6, none⟩ = some (.int .i64 states) ∧ w'.cell? ⟨w.heap.size, 7, none⟩ = some (.slice af n cf)) (go_keep) (fail))
  all_goals (try go_wp2)
  all_goals (try go_ret2)
  all_goals (refine ⟨?_, by first | exact hb0 | exact hb0.drew⟩; rw [← hr1.out, ← hr2.out]; clear hr1 hr2 hW0 hb0 d1 d4 d5 d6 d7; unfold inLow enHi; simp_all <;> (rw [IntKind.wrap_i64]; omega))
end Go.Proofs.YtnijcolomoobnaaGreatDoor
namespace Go.Proofs.YtnijcolomoobnaaGreatDoor
open Go.RowKit
set_option linter.unusedVariables false
set_option linter.unusedSimpArgs false
attribute [local go_sem ↓] Go.wp_at_zero Go.wp_at_succ

theorem fbox (w : World) (x0 x1 x2 x3 x4 : Value) : ∃ wz w4, w.alloc (.cells #[.int .i64 0, .int .i64 0, .int .i64 0, .int .i64 0, .slice none 0 0] 52) = wz ∧ ((((wz.setCell ⟨w.heap.size, 0, none⟩ x0).setCell ⟨w.heap.size, 1, none⟩ x1).setCell ⟨w.heap.size, 2, none⟩ x2).setCell ⟨w.heap.size, 3, none⟩ x3).setCell ⟨w.heap.size, 4, none⟩ x4 = w4 ∧ Below w.heap.size w wz ∧ Below w.heap.size w w4 ∧ w4.heap.size = w.heap.size + 1 ∧ w4.heap[w.heap.size]? = some (.cells #[x0, x1, x2, x3, x4] 52 (0, 0)) ∧ wz.heap[w.heap.size]? = some (.cells #[.int .i64 0, .int .i64 0, .int .i64 0, .int .i64 0, .slice none 0 0] 52 (0, 0)) := by
  have hb : Below w.heap.size w (w.alloc (.cells #[.int .i64 0, .int .i64 0, .int .i64 0, .int .i64 0, .slice none 0 0] 52)) := (Below.refl _ _).alloc (Nat.le_refl _) _
  have hz : (w.alloc (.cells #[.int .i64 0, .int .i64 0, .int .i64 0, .int .i64 0, .slice none 0 0] 52)).heap[w.heap.size]? = some (.cells #[.int .i64 0, .int .i64 0, .int .i64 0, .int .i64 0, .slice none 0 0] 52 (0, 0)) := heap_new _ _
  refine ⟨_, _, rfl, rfl, hb, ((((hb.setCell (p := ⟨w.heap.size, 0, none⟩) (Nat.le_refl _) x0).setCell (p := ⟨w.heap.size, 1, none⟩) (Nat.le_refl _) x1).setCell (p := ⟨w.heap.size, 2, none⟩) (Nat.le_refl _) x2).setCell (p := ⟨w.heap.size, 3, none⟩) (Nat.le_refl _) x3).setCell (p := ⟨w.heap.size, 4, none⟩) (Nat.le_refl _) x4, by simp [World.setCell], ?_, hz⟩
  generalize w.alloc (.cells #[.int .i64 0, .int .i64 0, .int .i64 0, .int .i64 0, .slice none 0 0] 52) = wz at *
  simp [World.setCell, Array.getElem?_modify, hz]
end Go.Proofs.YtnijcolomoobnaaGreatDoor
