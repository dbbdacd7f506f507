/- A region that draws its order, and in which a part of the operations (N) keeps what the loads read (S): the loads may be taken first. Behind the others nothing is asked. -/
import Derived.Test.YtkbplffckkjbfaaVr
import Derived.OrdersHeld
namespace Go.Proofs.Ytkbplffckkjbfaa
open Go Go.RowKit
set_option linter.unusedSimpArgs false
set_option linter.unusedVariables false

section
variable {P : Program} {ops : Array Oper} {Q : Exit → Act → World → Prop} {md : Region.Mode} {S T : World → Prop} {N : Nat → Bool}
/-- Whatever comes up next; behind the operations that N names S holds. -/
def wpE (P : Program) (md : Region.Mode) (ops : Array Oper) (Q : Exit → Act → World → Prop) (S : World → Prop) (N : Nat → Bool) : Nat → Array Bool → Act → World → Prop
  | 0, listed, a, w => Region.ready md ops listed = [] ∧ Q .normal a w
  | f + 1, listed, a, w => (Region.ready md ops listed = [] → Q .normal a w) ∧ ∀ i ∈ Region.ready md ops listed, wpOp P ops Q i (fun a' w' => (N i = true → S w') ∧ wpE P md ops Q S N f (listed.setIfInBounds i true) a' w') a w
theorem wpE_any : ∀ (f : Nat) (listed : Array Bool) (a : Act) (w : World), wpE P md ops Q S N f listed a w → wpAny P md ops Q f listed a w
  | 0, _, _, _, h => h
  | f + 1, _, _, _, h => ⟨h.1, fun i hi => wpOp_mono (fun a' w' hh => wpE_any f _ a' w' hh.2) (h.2 i hi)⟩
theorem wpE_first {i : Nat} {oi : Oper} {v : Value} (hi : ops[i]? = some oi) (hsel : ∀ (j : Nat) (o : Oper) cs b, ops[j]? = some o → o.op ≠ .select cs b) (hQ : ∀ c a w, Q (.panic c) (a.put oi.dst v) w → Q (.panic c) a w) (hTS : ∀ w, T w → N i = true → S w) :
    ∀ (f : Nat) (listed : Array Bool) (a : Act) (w : World),
      (∀ j oj, ops[j]? = some oj → j ≠ i → listed.getD j true = false → (∀ e ∈ oj.after, Region.binds md e = true → e.on ≠ i) → oi.apart ops oj = true ∧ ∀ w', (N j = true → S w') → T w') →
      i ∈ Region.ready md ops listed → YieldsIf P ops T oi v a → T w → wpE P md ops Q S N f (listed.setIfInBounds i true) (a.put oi.dst v) w → wpE P md ops Q S N (f + 1) listed a w := by
  intro f
  induction f with
  | zero =>
    intro listed a w hfr hr hy hT H
    refine ⟨fun h => absurd hr (by rw [h]; simp), fun j hj => ?_⟩
    by_cases hji : j = i
    · subst hji
      exact hy.wpOp hi hT ⟨hTS w hT, H⟩
    · have h0 := ready_mono hj hji
      rw [H.1] at h0
      simp at h0
  | succ f ih =>
    intro listed a w hfr hr hy hT H
    refine ⟨fun h => absurd hr (by rw [h]; simp), fun j hj => ?_⟩
    by_cases hji : j = i
    · subst hji
      exact hy.wpOp hi hT ⟨hTS w hT, H⟩
    · have h1 := H.2 j (ready_mono hj hji)
      obtain ⟨hun, oj, hoj, hall⟩ := mem_ready.1 hj
      have hnot : ∀ e ∈ oj.after, Region.binds md e = true → e.on ≠ i := by
        intro e he hb heq
        have hon := hall e he hb
        have hun0 := (mem_ready.1 hr).1
        rw [heq] at hon
        by_cases hlt : i < listed.size
        · simp [hlt] at hun0 hon
          rw [hun0] at hon; simp at hon
        · simp [Array.getElem?_eq_none (Nat.le_of_not_lt hlt)] at hon
      obtain ⟨hap, hTj⟩ := hfr j oj hoj hji hun hnot
      have h2 := wpOp_putIf hoj hap (fun cs b => hsel i oi cs b hi) (fun cs b => hsel j oj cs b hoj) hQ hy h1
      have hfr' : ∀ k ok, ops[k]? = some ok → k ≠ i → (listed.setIfInBounds j true).getD k true = false → (∀ e ∈ ok.after, Region.binds md e = true → e.on ≠ i) → oi.apart ops ok = true ∧ ∀ w', (N k = true → S w') → T w' := by
        intro k ok hk hki hunk hno
        refine hfr k ok hk hki ?_ hno
        by_cases hjk : j = k
        · rw [← hjk]; exact hun
        · rw [getD_set_ne true hjk] at hunk; exact hunk
      refine wpOp_mono (fun a' w' h3 => ⟨h3.2.1, ih _ a' w' hfr' (ready_mono hr (fun e => hji e.symm)) h3.1 (hTj w' h3.2.1) ?_⟩) h2
      rw [Array.setIfInBounds_comm _ _ hji]
      exact h3.2.2
/-- All that N does not name wait for number i. -/
def lateWait (md : Region.Mode) (ops : Array Oper) (N : Nat → Bool) (i : Nat) : Bool := (List.range ops.size).all fun j => N j || j == i || ((ops[j]?).map fun o => o.after.any fun e => Region.binds md e && e.on == i).getD true
theorem lateWait_spec {i j : Nat} {oj : Oper} (h : lateWait md ops N i = true) (hj : ops[j]? = some oj) (hne : j ≠ i) (hno : ∀ e ∈ oj.after, Region.binds md e = true → e.on ≠ i) : N j = true := by
  have h1 := List.all_eq_true.1 h j (by simp; exact (Array.getElem?_eq_some_iff.1 hj).1)
  simp only [hj, Option.map_some, Option.getD_some, Bool.or_eq_true, beq_iff_eq] at h1
  rcases h1 with (h1 | h1) | h1
  · exact h1
  · exact absurd h1 hne
  · obtain ⟨e, he, hb⟩ := List.any_eq_true.1 (by rw [Array.any_toList]; exact h1)
    simp only [Bool.and_eq_true, beq_iff_eq] at hb
    exact absurd hb.2 (hno e (by simpa using he) hb.1)
/-- Take number i first: what it yields it yields in every world that meets S. -/
theorem wpE_take {i : Nat} {oi : Oper} {v : Value} {f : Nat} {listed : Array Bool} {a : Act} {w : World} (hi : ops[i]? = some oi) (hs : Region.noSelect ops = true) (hf : Region.free md ops listed i = true) (hr : (Region.ready md ops listed).contains i = true) (hl : lateWait md ops N i = true)
    (hQ : ∀ c a w, Q (.panic c) (a.put oi.dst v) w → Q (.panic c) a w) (hw : Region.wanted oi (yielded ops a.tmps) = true) (hy : ∀ w, S w → (execOp a.eval oi).run P w = .ok (.value v) w) (hS : S w) (h : wpE P md ops Q S N f (listed.setIfInBounds i true) (a.put oi.dst v) w) : wpE P md ops Q S N (f + 1) listed a w :=
  wpE_first (T := S) hi (Region.noSelect_spec hs) hQ (fun _ h _ => h) f listed a w (fun j oj h1 h2 h3 h4 => ⟨Region.free_spec hi hf j oj h1 h2 h3 h4, fun w' hw' => hw' (lateWait_spec hl h1 h2 h4)⟩) (by simpa using hr) (Or.inl ⟨hw, hy⟩) hS h
/-- Take number i first, behind all that N names: it yields in whatever world. -/
theorem wpE_takeL {i : Nat} {oi : Oper} {v : Value} {f : Nat} {listed : Array Bool} {a : Act} {w : World} (hi : ops[i]? = some oi) (hs : Region.noSelect ops = true) (hf : Region.free md ops listed i = true) (hr : (Region.ready md ops listed).contains i = true) (hN : N i = false)
    (hQ : ∀ c a w, Q (.panic c) (a.put oi.dst v) w → Q (.panic c) a w) (hw : Region.wanted oi (yielded ops a.tmps) = true) (hy : ∀ w, (execOp a.eval oi).run P w = .ok (.value v) w) (h : wpE P md ops Q S N f (listed.setIfInBounds i true) (a.put oi.dst v) w) : wpE P md ops Q S N (f + 1) listed a w :=
  wpE_first (T := fun _ => True) hi (Region.noSelect_spec hs) hQ (fun _ _ h => by rw [hN] at h; simp at h) f listed a w (fun j oj h1 h2 h3 h4 => ⟨Region.free_spec hi hf j oj h1 h2 h3 h4, fun _ _ => trivial⟩) (by simpa using hr) (Or.inl ⟨hw, fun w _ => hy w⟩) trivial h
/-- The same, where those that W names wait, one behind the other, for number i. -/
theorem wpE_firstW {i : Nat} {oi : Oper} {v : Value} {W : Nat → Bool} (hi : ops[i]? = some oi) (hsel : ∀ (j : Nat) (o : Oper) cs b, ops[j]? = some o → o.op ≠ .select cs b) (hQ : ∀ c a w, Q (.panic c) (a.put oi.dst v) w → Q (.panic c) a w) (hTS : ∀ w, T w → N i = true → S w)
    (hW : ∀ j oj, ops[j]? = some oj → W j = true → ∃ e ∈ oj.after, Region.binds md e = true ∧ (e.on = i ∨ W e.on = true)) :
    ∀ (f : Nat) (listed : Array Bool) (a : Act) (w : World), (∀ j, W j = true → j < listed.size ∧ listed.getD j true = false) →
      (∀ j oj, ops[j]? = some oj → j ≠ i → W j = false → listed.getD j true = false → (∀ e ∈ oj.after, Region.binds md e = true → e.on ≠ i) → oi.apart ops oj = true ∧ ∀ w', (N j = true → S w') → T w') →
      i ∈ Region.ready md ops listed → YieldsIf P ops T oi v a → T w → wpE P md ops Q S N f (listed.setIfInBounds i true) (a.put oi.dst v) w → wpE P md ops Q S N (f + 1) listed a w := by
  intro f
  induction f with
  | zero =>
    intro listed a w hWl hfr hr hy hT H
    refine ⟨fun h => absurd hr (by rw [h]; simp), fun j hj => ?_⟩
    by_cases hji : j = i
    · subst hji
      exact hy.wpOp hi hT ⟨hTS w hT, H⟩
    · have h0 := ready_mono hj hji
      rw [H.1] at h0
      simp at h0
  | succ f ih =>
    intro listed a w hWl hfr hr hy hT H
    refine ⟨fun h => absurd hr (by rw [h]; simp), fun j hj => ?_⟩
    by_cases hji : j = i
    · subst hji
      exact hy.wpOp hi hT ⟨hTS w hT, H⟩
    · have h1 := H.2 j (ready_mono hj hji)
      obtain ⟨hun, oj, hoj, hall⟩ := mem_ready.1 hj
      have hiun : ¬ (listed.getD i false = true) := by
        have hun0 := (mem_ready.1 hr).1
        by_cases hlt : i < listed.size
        · simp [hlt] at hun0 ⊢
          exact hun0
        · simp [Array.getElem?_eq_none (Nat.le_of_not_lt hlt)]
      have hnot : ∀ e ∈ oj.after, Region.binds md e = true → e.on ≠ i := by
        intro e he hb heq
        have hon := hall e he hb
        rw [heq] at hon
        exact hiun (by simpa using hon)
      have hWj : W j = false := by
        rcases hw : W j with _ | _
        · rfl
        · obtain ⟨e, he, hb, ho⟩ := hW j oj hoj hw
          have hon := hall e he hb
          rcases ho with ho | ho
          · exact absurd ho (hnot e he hb)
          · obtain ⟨h2, h3⟩ := hWl _ ho
            simp [h2] at hon h3
            rw [h3] at hon; cases hon
      obtain ⟨hap, hTj⟩ := hfr j oj hoj hji hWj hun hnot
      have h2 := wpOp_putIf hoj hap (fun cs b => hsel i oi cs b hi) (fun cs b => hsel j oj cs b hoj) hQ hy h1
      have hWl' : ∀ k, W k = true → k < (listed.setIfInBounds j true).size ∧ (listed.setIfInBounds j true).getD k true = false := by
        intro k hk
        have hjk : j ≠ k := by rintro rfl; rw [hk] at hWj; cases hWj
        obtain ⟨g1, g2⟩ := hWl k hk
        exact ⟨by simpa using g1, by rw [getD_set_ne true hjk]; exact g2⟩
      have hfr' : ∀ k ok, ops[k]? = some ok → k ≠ i → W k = false → (listed.setIfInBounds j true).getD k true = false → (∀ e ∈ ok.after, Region.binds md e = true → e.on ≠ i) → oi.apart ops ok = true ∧ ∀ w', (N k = true → S w') → T w' := by
        intro k ok hk hki hwk hunk hno
        refine hfr k ok hk hki hwk ?_ hno
        by_cases hjk : j = k
        · rw [← hjk]; exact hun
        · rw [getD_set_ne true hjk] at hunk; exact hunk
      refine wpOp_mono (fun a' w' h3 => ⟨h3.2.1, ih _ a' w' hWl' hfr' (ready_mono hr (fun e => hji e.symm)) h3.1 (hTj w' h3.2.1) ?_⟩) h2
      rw [Array.setIfInBounds_comm _ _ hji]
      exact h3.2.2
/-- Those that W names wait for number i; all others but i keep S. -/
def waitW (md : Region.Mode) (ops : Array Oper) (N W : Nat → Bool) (listed : Array Bool) (i : Nat) : Bool := (List.range ops.size).all fun j => if W j then (listed[j]? == some false) && ((ops[j]?).map fun o => o.after.any fun e => Region.binds md e && (e.on == i || W e.on)).getD false else (N j || j == i)
theorem wpE_takeW {i : Nat} {oi : Oper} {v : Value} {f : Nat} {listed : Array Bool} {a : Act} {w : World} (W : Nat → Bool) (hi : ops[i]? = some oi) (hs : Region.noSelect ops = true) (hf : Region.free md ops listed i = true) (hr : (Region.ready md ops listed).contains i = true) (hl : waitW md ops N W listed i = true) (hWs : ∀ j, W j = true → j < ops.size)
    (hQ : ∀ c a w, Q (.panic c) (a.put oi.dst v) w → Q (.panic c) a w) (hw : Region.wanted oi (yielded ops a.tmps) = true) (hy : ∀ w, S w → (execOp a.eval oi).run P w = .ok (.value v) w) (hS : S w) (h : wpE P md ops Q S N f (listed.setIfInBounds i true) (a.put oi.dst v) w) : wpE P md ops Q S N (f + 1) listed a w := by
  have hall := List.all_eq_true.1 hl
  refine wpE_firstW (T := S) (W := W) hi (Region.noSelect_spec hs) hQ (fun _ h _ => h) ?_ f listed a w ?_ (fun j oj h1 h2 hWj h3 h4 => ⟨Region.free_spec hi hf j oj h1 h2 h3 h4, fun w' hw' => hw' ?_⟩) (by simpa using hr) (Or.inl ⟨hw, hy⟩) hS h
  · intro j oj hj hWj
    have h1 := hall j (by simp; exact (Array.getElem?_eq_some_iff.1 hj).1)
    simp only [hWj, if_true, hj, Option.map_some, Option.getD_some, Bool.and_eq_true] at h1
    obtain ⟨e, he, hb⟩ := List.any_eq_true.1 (by rw [Array.any_toList]; exact h1.2)
    simp only [Bool.and_eq_true, Bool.or_eq_true, beq_iff_eq] at hb
    exact ⟨e, by simpa using he, hb.1, hb.2⟩
  · intro j hWj
    have h1 := hall j (by simp; exact hWs j hWj)
    simp only [hWj, if_true, Bool.and_eq_true, beq_iff_eq] at h1
    obtain ⟨h2, h3⟩ := Array.getElem?_eq_some_iff.1 h1.1
    exact ⟨h2, by simp [h2, h3]⟩
  · have h5 := hall j (by simp; exact (Array.getElem?_eq_some_iff.1 h1).1)
    simp only [hWj, Bool.false_eq_true, if_false, Bool.or_eq_true, beq_iff_eq] at h5
    rcases h5 with h5 | h5
    · exact h5
    · exact absurd h5 h2
theorem wpE_one {i : Nat} {f : Nat} {listed : Array Bool} {a : Act} {w : World} {oi : Oper} (hr : Region.ready md ops listed = [i]) (hi : ops[i]? = some oi) (hw : Region.wanted oi (yielded ops a.tmps) = true)
    (h : ∀ K : Act → World → Prop, (∀ a' w', (N i = true → S w') → wpE P md ops Q S N f (listed.setIfInBounds i true) a' w' → K a' w') → oi.wp P a w K Q) : wpE P md ops Q S N (f + 1) listed a w := by
  refine ⟨fun h0 => by rw [hr] at h0; simp at h0, fun j hj => ?_⟩
  rw [hr] at hj
  simp at hj
  subst hj
  unfold wpOp
  simp only [hi, hw, if_true]
  exact Or.inl (h _ (fun a' w' h1 h2 => ⟨h1, h2⟩))
theorem wpE_two {i j : Nat} {f : Nat} {listed : Array Bool} {a : Act} {w : World} {oi oj : Oper} (hr : Region.ready md ops listed = [i, j]) (hi : ops[i]? = some oi) (hj : ops[j]? = some oj) (hwi : Region.wanted oi (yielded ops a.tmps) = true) (hwj : Region.wanted oj (yielded ops a.tmps) = true)
    (h1 : ∀ K : Act → World → Prop, (∀ a' w', (N i = true → S w') → wpE P md ops Q S N f (listed.setIfInBounds i true) a' w' → K a' w') → oi.wp P a w K Q)
    (h2 : ∀ K : Act → World → Prop, (∀ a' w', (N j = true → S w') → wpE P md ops Q S N f (listed.setIfInBounds j true) a' w' → K a' w') → oj.wp P a w K Q) : wpE P md ops Q S N (f + 1) listed a w := by
  refine ⟨fun h0 => by rw [hr] at h0; simp at h0, fun k hk => ?_⟩
  rw [hr] at hk
  simp at hk
  unfold wpOp
  rcases hk with rfl | rfl
  · simp only [hi, hwi, if_true]
    exact Or.inl (h1 _ (fun a' w' h1 h2 => ⟨h1, h2⟩))
  · simp only [hj, hwj, if_true]
    exact Or.inl (h2 _ (fun a' w' h1 h2 => ⟨h1, h2⟩))
theorem wpE_done {f : Nat} {listed : Array Bool} {a : Act} {w : World} (hr : Region.ready md ops listed = []) (h : Q .normal a w) : wpE P md ops Q S N f listed a w := by
  cases f with
  | zero => exact ⟨hr, h⟩
  | succ f => exact ⟨fun _ => h, by rw [hr]; simp⟩
theorem wpE_begin {id : Nat} {a : Act} {w : World} (hm : P.follows .mixedOrders = true) (h : wpE P .any ops Q S N ops.size (Array.replicate ops.size false) a w.drew) : (Code.region id ops true).wp P Q a w := wp_region_any hm (wpE_any _ _ _ _ h)
end
end Go.Proofs.Ytkbplffckkjbfaa
