import Derived.Test.YtnmdnjdibdmodaaGreatDoorRfB
import Derived.Test.YtnmdnjdibdmodaaGreatDoorPsE
/- The document's statement: its box, and what turns in it. -/
namespace Go.Proofs.YtnmdnjdibdmodaaGreatDoor
open Go.RowKit
set_option linter.unusedSimpArgs false
set_option linter.unusedVariables false

theorem Fr.fo {b : Nat} {w w' : World} (f : Fr b w w') : Fo b w.heap.size w w' := ⟨f.os, f.tape, f.output, f.size, fun k h1 h2 => f.block k h1 h2⟩
theorem Fr.sinceB {b : Nat} {w w' : World} {B : Nat → Prop} (f : Fr b w w') (hb : ¬ B b) : Since B w w' := ⟨f.size, fun k h1 h2 => f.block k h2 (fun e => hb (by rw [← e]; exact h1))⟩
/-- What the reading of a statement answers: nine cells, whatever behind a fault; else the statement. -/
def SP (b ga ca : Nat) (ts : List Lx.Tok) (q : Px.P Px.St) (S : RSt) (w : World) (r : Ending) (w' : World) : Prop :=
  ∃ (k : Nat) (nm : Lx.B) (a1 : Option Addr) (n1 c1 : Nat) (a2 : Option Addr) (n2 c2 : Nat) (a3 : Option Addr) (n3 c3 pl : Nat), r = .returned (sV k nm (.slice a1 n1 c1) (.slice a2 n2 c2) (.slice a3 n3 c3) pl) ∧ RS b ga ca ts (st (lift q S)) w' ∧ Fr b w w' ∧
    ∀ s l', lift q S = .inl (s, l') → IsSt (From w.heap.size) w' s (sL k nm (.slice a1 n1 c1) (.slice a2 n2 c2) (.slice a3 n3 c3) pl)
/-- What the reading of a block answers. -/
def BP (b ga ca : Nat) (ts : List Lx.Tok) (q : Px.P (List Px.St)) (S : RSt) (w : World) (r : Ending) (w' : World) : Prop :=
  ∃ (ao : Option Addr) (an ac : Nat), r = .returned (.slice ao an ac) ∧ RS b ga ca ts (st (lift q S)) w' ∧ Fr b w w' ∧ ∀ xs l', lift q S = .inl (xs, l') → IsSts (From w.heap.size) w' xs (.slice ao an ac)
/-- How the document's reading of a statement stands: w0 is where it began; M, M1, M2: which expressions and statements its lists hold. -/
structure RT (b ga ca : Nat) (ts : List Lx.Tok) (gs : Nat) (w0 : World) (S : RSt) (k : Nat) (nm : Lx.B) (ao : Option Addr) (n cap : Nat) (row : List Value) (b1 b2 : Value) (pl : Nat) (M : List Px.Ex → Prop) (M1 M2 : List Px.St → Prop) (w : World) : Prop where
  rs : RS b ga ca ts S w
  box : w.heap[gs]? = some (sO k nm (.slice ao n cap) b1 b2 pl)
  out : w.heap[w0.heap.size]? = some zeroS
  fr : Fr b w0 w
  own : w.ownsRow (gs + 1) 51 8 (.slice ao n cap) n row
  vals : ∀ xs, M xs → xs.length = n ∧ AllEx (fun k => gs + 1 ≤ k ∧ (Value.slice ao n cap).ownBlock ≠ some k) w xs row
  v1 : ∀ xs, M1 xs → IsSts (From (gs + 1)) w xs b1
  v2 : ∀ xs, M2 xs → IsSts (From (gs + 1)) w xs b2
  lo : b < w0.heap.size ∧ ga < w0.heap.size ∧ w0.heap.size < gs
section
variable {b ga ca : Nat} {ts : List Lx.Tok} {gs : Nat} {w0 : World} {S S' : RSt} {k k' : Nat} {nm nm' : Lx.B} {ao : Option Addr} {n cap : Nat} {row : List Value} {b1 b2 b1' b2' : Value} {pl : Nat} {M : List Px.Ex → Prop} {M1 M2 M1' M2' : List Px.St → Prop} {w w' : World}
theorem RT.lts (h : RT b ga ca ts gs w0 S k nm ao n cap row b1 b2 pl M M1 M2 w) : gs < w.heap.size ∧ w0.heap.size < w.heap.size ∧ b < w.heap.size ∧ ga < w.heap.size ∧ gs ≠ b ∧ gs ≠ ga ∧ w0.heap.size ≠ b ∧ w0.heap.size ≠ ga ∧ w0.heap.size ≠ gs ∧ gs ≠ w0.heap.size := by
  obtain ⟨l1, l2, l3⟩ := h.lo
  have h1 := (Array.getElem?_eq_some_iff.1 h.box).1
  have h2 := (Array.getElem?_eq_some_iff.1 h.out).1
  omega
theorem RT.call (h : RT b ga ca ts gs w0 S k nm ao n cap row b1 b2 pl M M1 M2 w) (f : Fr b w w') (hr : RS b ga ca ts S' w') : RT b ga ca ts gs w0 S' k nm ao n cap row b1 b2 pl M M1 M2 w' := by
  obtain ⟨q1, q2, q3, q4, q5, q6, q7, q8, q9, q10⟩ := h.lts
  obtain ⟨l1, l2, l3⟩ := h.lo
  exact ⟨hr, (f.block gs q1 q5).trans h.box, (f.block _ q2 q7).trans h.out, h.fr.trans f, owns_fo h.own f.fo (by omega), fun xs hx => ⟨(h.vals xs hx).1, (h.vals xs hx).2.since (f.sinceB (fun hh => by omega))⟩, fun xs hx => (h.v1 xs hx).since' (f.sinceB (fun hh => by have : gs + 1 ≤ b := hh; omega)), fun xs hx => (h.v2 xs hx).since' (f.sinceB (fun hh => by have : gs + 1 ≤ b := hh; omega)), h.lo⟩
theorem RT.set {j : Nat} {v : Value} (h : RT b ga ca ts gs w0 S k nm ao n cap row b1 b2 pl M M1 M2 w)
    (hset : w.heap[gs]? = some (sO k nm (.slice ao n cap) b1 b2 pl) → (w.setCell ⟨gs, j, none⟩ v).heap[gs]? = some (sO k' nm' (.slice ao n cap) b1' b2' pl)) (h1 : ∀ xs, M1' xs → IsSts (From (gs + 1)) w xs b1') (h2 : ∀ xs, M2' xs → IsSts (From (gs + 1)) w xs b2') : RT b ga ca ts gs w0 S k' nm' ao n cap row b1' b2' pl M M1' M2' (w.setCell ⟨gs, j, none⟩ v) := by
  obtain ⟨q1, q2, q3, q4, q5, q6, q7, q8, q9, q10⟩ := h.lts
  obtain ⟨l1, l2, l3⟩ := h.lo
  have hsn : ∀ B : Nat → Prop, ¬ B gs → Since B w (w.setCell ⟨gs, j, none⟩ v) := fun B hB => ⟨by simp [World.setCell], fun i hi _ => Below.heap_setCell _ _ _ _ (fun e => hB (by rw [← (show i = gs from e)]; exact hi))⟩
  exact ⟨h.rs.other j v q5 q6, hset h.box, (Below.heap_setCell _ _ _ _ q9).trans h.out, h.fr.fresh (by omega) j v, ownsRow_setCell_below h.own (a := ⟨gs, j, none⟩) (by show gs < gs + 1; omega) v, fun xs hx => ⟨(h.vals xs hx).1, (h.vals xs hx).2.since (hsn _ (fun hh => by omega))⟩, fun xs hx => (h1 xs hx).since' (hsn _ (fun hh => by have : gs + 1 ≤ gs := hh; omega)), fun xs hx => (h2 xs hx).since' (hsn _ (fun hh => by have : gs + 1 ≤ gs := hh; omega)), h.lo⟩
/-- One expression more. -/
theorem RT.app {w5 : World} {g cap5 : Nat} {cs : List Value} {X : Px.Ex → Prop} (h : RT b ga ca ts gs w0 S k nm ao n cap row (.slice none 0 0) (.slice none 0 0) pl M (· = []) (· = []) w) (hG : Grew w w5 (.slice ao n cap) g)
    (hown5 : w5.ownsRow (gs + 1) 51 8 (.slice (some ⟨g, 0, none⟩) (n + 1) cap5) (n + 1) (row ++ cs)) (hx : ∀ x, X x → IsEx (fun k => gs + 1 ≤ k ∧ (Value.slice ao n cap).ownBlock ≠ some k) w x cs) {w6 : World} (h6 : w6 = w5.setCell ⟨gs, 5, none⟩ (.slice (some ⟨g, 0, none⟩) (n + 1) cap5)) :
    RT b ga ca ts gs w0 S k nm (some ⟨g, 0, none⟩) (n + 1) cap5 (row ++ cs) (.slice none 0 0) (.slice none 0 0) pl (fun xs => ∃ ys x, M ys ∧ X x ∧ xs = ys ++ [x]) (· = []) (· = []) w6 := by
  obtain ⟨q1, q2, q3, q4, q5, q6, q7, q8, q9, q10⟩ := h.lts
  obtain ⟨l1, l2, l3⟩ := h.lo
  have far : ∀ j, j ≤ gs → some j ≠ (Value.slice ao n cap).ownBlock := fun j hj e => by have := (h.own.lt j e.symm).1; omega
  have hoth : ∀ j, j ≠ gs → w6.heap[j]? = w5.heap[j]? := fun j hj => by rw [h6]; exact Below.heap_setCell _ _ _ _ hj
  have hsz : w6.heap.size = w5.heap.size := by rw [h6]; simp [World.setCell]
  have hgs := hG.size
  have hold : ∀ j, j < gs → w6.heap[j]? = w.heap[j]? := fun j hj => (hoth j (by omega)).trans (hG.block j (by omega) (far j (by omega)))
  have hb5 : w5.heap[gs]? = w.heap[gs]? := hG.block gs q1 (far gs (Nat.le_refl _))
  have hne : ∀ j, gs + 1 ≤ j ∧ (Value.slice ao n cap).ownBlock ≠ some j → j < w.heap.size → j ≠ g := by
    intro j hj hl he
    subst he
    rcases hG.place with hp | hp
    · exact hj.2 hp
    · omega
  have hown6 : w6.ownsRow (gs + 1) 51 8 (.slice (some ⟨g, 0, none⟩) (n + 1) cap5) (n + 1) (row ++ cs) := by
    rw [h6]
    exact ownsRow_setCell_below hown5 (a := ⟨gs, 5, none⟩) (by show gs < gs + 1; omega) _
  have hlow : ∀ j, (gs + 1 ≤ j ∧ (Value.slice ao n cap).ownBlock ≠ some j) → j < w.heap.size → gs + 1 ≤ j ∧ (Value.slice (some ⟨g, 0, none⟩) (n + 1) cap5).ownBlock ≠ some j ∧ (gs + 1 ≤ j ∧ (Value.slice ao n cap).ownBlock ≠ some j) := fun j h1 h2 => ⟨h1.1, fun e => hne j h1 h2 (by simpa [Value.ownBlock] using e.symm), h1⟩
  have hsince : Since (fun j => gs + 1 ≤ j ∧ (Value.slice (some ⟨g, 0, none⟩) (n + 1) cap5).ownBlock ≠ some j ∧ (gs + 1 ≤ j ∧ (Value.slice ao n cap).ownBlock ≠ some j)) w w6 := ⟨by omega, fun j h1 h2 => (hoth j (by omega)).trans (hG.block j h2 (fun e => h1.2.2.2 e.symm))⟩
  refine ⟨h.rs.keep (hold b (by omega)) (hold ga (by omega)) (by omega), ?_, (hold _ l3).trans h.out, ?_, hown6, ?_, fun xs hh => by rw [hh]; exact IsSts.nil' _ _, fun xs hh => by rw [hh]; exact IsSts.nil' _ _, h.lo⟩
  · rw [h6]
    simp [World.setCell, Array.getElem?_modify, hb5, h.box]
  · refine ⟨?_, ?_, ?_, by have := h.fr.size; omega, fun j h1 h2 => (hold j (by omega)).trans (h.fr.block j h1 h2)⟩
    · rw [h6]; exact hG.os.trans h.fr.os
    · rw [h6]; exact hG.tape.trans h.fr.tape
    · rw [h6]; exact hG.output.trans h.fr.output
  · rintro xs ⟨ys, x, hy, hX, rfl⟩
    obtain ⟨hlen, hall⟩ := h.vals ys hy
    refine ⟨by simp [hlen], ?_⟩
    exact ((hall.plow hlow).since hsince |>.base (fun j h => ⟨h.1, h.2.1⟩)).snoc (((hx x hX).plow hlow).since hsince |>.base (fun j h => ⟨h.1, h.2.1⟩))
/-- A statement is handed on: stored into the answer's box. -/
theorem RT.ret {q : Px.P Px.St} {l : List Lx.Tok} {a2 a3 : Option Addr} {n2 c2 n3 c3 : Nat} (h : RT b ga ca ts gs w0 S k nm ao n cap row (.slice a2 n2 c2) (.slice a3 n3 c3) pl M M1 M2 w) (hst : st (lift q (.inl l)) = S)
    (hv : ∀ s l', lift q (.inl l) = .inl (s, l') → ∃ es bs cs, M es ∧ M1 bs ∧ M2 cs ∧ s = .mk k nm es bs cs pl) : SP b ga ca ts q (.inl l) w0 (.returned (sV k nm (.slice ao n cap) (.slice a2 n2 c2) (.slice a3 n3 c3) pl)) (sS w w0.heap.size k nm (.slice ao n cap) (.slice a2 n2 c2) (.slice a3 n3 c3) pl) := by
  obtain ⟨q1, q2, q3, q4, q5, q6, q7, q8, q9, q10⟩ := h.lts
  obtain ⟨l1, l2, l3⟩ := h.lo
  refine ⟨k, nm, ao, n, cap, a2, n2, c2, a3, n3, c3, pl, rfl, ?_, ?_, fun s l' hs => ?_⟩
  · rw [hst]
    exact h.rs.keep (w9_other (fun e => q7 e.symm) _ _ _ _ _ _ _ _ _) (w9_other (fun e => q8 e.symm) _ _ _ _ _ _ _ _ _) (by rw [w9_size]; exact Nat.le_refl _)
  · exact (((((((((h.fr.fresh (Nat.le_refl _) 0 _).fresh (Nat.le_refl _) 1 _).fresh (Nat.le_refl _) 2 _).fresh (Nat.le_refl _) 3 _).fresh (Nat.le_refl _) 4 _).fresh (Nat.le_refl _) 5 _).fresh (Nat.le_refl _) 6 _).fresh (Nat.le_refl _) 7 _).fresh (Nat.le_refl _) 8 _)
  · obtain ⟨es, bs, cs, m0, m1, m2, rfl⟩ := hv s l' hs
    obtain ⟨hlen, hall⟩ := h.vals es m0
    obtain ⟨r2, x1, x2⟩ := h.v1 bs m1
    obtain ⟨r3, y1, y2⟩ := h.v2 cs m2
    have hh : IsSt (From (gs + 1)) w (.mk k nm es bs cs pl) (sL k nm (.slice ao n cap) (.slice a2 n2 c2) (.slice a3 n3 c3) pl) := by
      rw [IsSt]
      exact ⟨_, _, _, row, r2, r3, rfl, by rw [hlen]; exact owns_slrow h.own (fun j hj _ => hj), hall.base (fun j hj => hj.1), x1, x2, y1, y2⟩
    exact (hh.since (Since.set9' (fun hk => by have : gs + 1 ≤ w0.heap.size := hk; omega) _ _ _ _ _ _ _ _ _)).base (from_mono (by omega))
end
end Go.Proofs.YtnmdnjdibdmodaaGreatDoor
/- The document's statement: the parts' states, in plain mathematics. -/
namespace Go.Proofs.YtnmdnjdibdmodaaGreatDoor
open Go.RowKit
set_option linter.unusedSimpArgs false
set_option linter.unusedVariables false

def needKS (k : Nat) (x : Lx.B) (S : RSt) : RSt := st (lift (Px.needK k x) S)
theorem needKS_yes {k : Nat} {x : Lx.B} {S : RSt} (h : seesS k x S = true) : needKS k x S = gotS k x S := by
  obtain ⟨t, r, rfl, _, _, hs⟩ := seesS_cases h
  simp only [needKS, lift, Px.needK, gotS]
  rw [if_pos hs, if_pos hs]; rfl
theorem needKS_no {k : Nat} {x : Lx.B} {S : RSt} (h : seesS k x S = false) : needKS k x S = failS 31 S := by
  rcases S with l | f
  · simp only [needKS, lift, Px.needK, failS]
    rw [if_neg (by rw [show Px.sees k x l = false from h]; simp)]; rfl
  · rfl
theorem let_st (E : Px.P Px.Ex) (pl : Nat) (r : List Lx.Tok) : st (letR E pl r) = needS [59] (st (lift E (needS [61] (st (lift Px.name (.inl r)))))) := by
  simp only [letR, valueR, needS, lift]
  rcases Px.name r with ⟨u, l1⟩ | f
  · simp only [Px.bind, st, lift]
    rcases Px.need [61] l1 with ⟨v, l2⟩ | f
    · simp only [Px.bind, st, lift]
      rcases E l2 with ⟨x, l3⟩ | f
      · simp only [Px.bind, st, lift]
        rcases Px.need [59] l3 with ⟨v2, l4⟩ | f <;> rfl
      · rfl
    · rfl
  · rfl
theorem let_val {E : Px.P Px.Ex} {pl : Nat} {r : List Lx.Tok} {s : Px.St} {l' : List Lx.Tok} (h : letR E pl r = .inl (s, l')) : ∃ u l1 x l3, lift Px.name (.inl r) = .inl (u, l1) ∧ lift E (needS [61] (st (lift Px.name (.inl r)))) = .inl (x, l3) ∧ s = .mk 1 u.text [x] [] [] pl := by
  revert h
  simp only [letR, valueR, needS, lift]
  rcases Px.name r with ⟨u, l1⟩ | f
  · simp only [Px.bind, st, lift]
    rcases Px.need [61] l1 with ⟨v, l2⟩ | f
    · simp only [Px.bind, st, lift]
      rcases hE : E l2 with ⟨x, l3⟩ | f
      · simp only [Px.bind]
        rcases Px.need [59] l3 with ⟨v2, l4⟩ | f
        · intro h; simp only [Sum.inl.injEq, Prod.mk.injEq] at h
          exact ⟨u, l1, x, l3, rfl, rfl, h.1.symm⟩
        · intro h; simp at h
      · intro h; simp [Px.bind] at h
    · intro h; simp [Px.bind] at h
  · intro h; simp [Px.bind] at h
theorem setA_st {E : Px.P Px.Ex} {pl : Nat} {r : List Lx.Tok} (hs : seesS 4 [91] (st (lift Px.name (.inl r))) = false) : st (setR E pl r) = needS [59] (st (lift E (needS [61] (st (lift Px.name (.inl r)))))) := by
  revert hs
  simp only [setR, valueR, needS, lift]
  rcases Px.name r with ⟨u, l1⟩ | f
  · simp only [Px.bind, st, lift, seesS]
    intro hs
    rw [if_neg (by rw [hs]; simp)]
    rcases Px.need [61] l1 with ⟨v, l2⟩ | f
    · simp only [Px.bind, st, lift]
      rcases E l2 with ⟨x, l3⟩ | f
      · simp only [Px.bind, st, lift]
        rcases Px.need [59] l3 with ⟨v2, l4⟩ | f <;> rfl
      · rfl
    · rfl
  · intro hs; rfl
theorem setA_val {E : Px.P Px.Ex} {pl : Nat} {r : List Lx.Tok} {s : Px.St} {l' : List Lx.Tok} (hs : seesS 4 [91] (st (lift Px.name (.inl r))) = false) (h : setR E pl r = .inl (s, l')) : ∃ u l1 x l3, lift Px.name (.inl r) = .inl (u, l1) ∧ lift E (needS [61] (st (lift Px.name (.inl r)))) = .inl (x, l3) ∧ s = .mk 2 u.text [x] [] [] pl := by
  revert hs h
  simp only [setR, valueR, needS, lift]
  rcases Px.name r with ⟨u, l1⟩ | f
  · simp only [Px.bind, st, lift, seesS]
    intro hs
    rw [if_neg (by rw [hs]; simp)]
    rcases Px.need [61] l1 with ⟨v, l2⟩ | f
    · simp only [Px.bind, st, lift]
      rcases hE : E l2 with ⟨x, l3⟩ | f
      · simp only [Px.bind]
        rcases Px.need [59] l3 with ⟨v2, l4⟩ | f
        · intro h; simp only [Sum.inl.injEq, Prod.mk.injEq] at h
          exact ⟨u, l1, x, l3, rfl, rfl, h.1.symm⟩
        · intro h; simp at h
      · intro h; simp [Px.bind] at h
    · intro h; simp [Px.bind] at h
  · intro hs h; simp [Px.bind] at h
theorem setB_st {E : Px.P Px.Ex} {pl : Nat} {r : List Lx.Tok} (hs : seesS 4 [91] (st (lift Px.name (.inl r))) = true) : st (setR E pl r) = needS [59] (st (lift E (needS [61] (needS [93] (st (lift E (gotS 4 [91] (st (lift Px.name (.inl r)))))))))) := by
  revert hs
  simp only [setR, valueR, placeR, needS, lift]
  rcases Px.name r with ⟨u, l1⟩ | f
  · simp only [Px.bind, st, lift, seesS, gotS]
    intro hs
    rw [if_pos hs, if_pos hs]
    have hn : Px.need [91] l1 = .inl ((), l1.tail) := by unfold Px.need Px.needK; rw [if_pos hs]
    rw [hn]
    simp only [Px.bind]
    rcases E l1.tail with ⟨y, l2⟩ | f
    · simp only [Px.bind, st, lift]
      rcases Px.need [93] l2 with ⟨v, l3⟩ | f
      · simp only [Px.bind, st, lift]
        rcases Px.need [61] l3 with ⟨v, l4⟩ | f
        · simp only [Px.bind, st, lift]
          rcases E l4 with ⟨x, l5⟩ | f
          · simp only [Px.bind, st, lift]
            rcases Px.need [59] l5 with ⟨v2, l6⟩ | f <;> rfl
          · rfl
        · rfl
      · rfl
    · rfl
  · intro hs; rfl
theorem setB_val {E : Px.P Px.Ex} {pl : Nat} {r : List Lx.Tok} {s : Px.St} {l' : List Lx.Tok} (hs : seesS 4 [91] (st (lift Px.name (.inl r))) = true) (h : setR E pl r = .inl (s, l')) : ∃ u l1 y l2 x l3, lift Px.name (.inl r) = .inl (u, l1) ∧ lift E (gotS 4 [91] (st (lift Px.name (.inl r)))) = .inl (y, l2) ∧ lift E (needS [61] (needS [93] (st (lift E (gotS 4 [91] (st (lift Px.name (.inl r)))))))) = .inl (x, l3) ∧ s = .mk 2 u.text [y, x] [] [] pl := by
  revert hs h
  simp only [setR, valueR, placeR, needS, lift]
  rcases Px.name r with ⟨u, l1⟩ | f
  · simp only [Px.bind, st, lift, seesS, gotS]
    intro hs
    rw [if_pos hs]
    have hn : Px.need [91] l1 = .inl ((), l1.tail) := by unfold Px.need Px.needK; rw [if_pos hs]
    rw [hn]
    simp only [Px.bind]
    rw [if_pos hs]
    simp only
    rcases hE : E l1.tail with ⟨y, l2⟩ | f
    · simp only [Px.bind, st, lift]
      rcases Px.need [93] l2 with ⟨v, l3⟩ | f
      · simp only [Px.bind, st, lift]
        rcases Px.need [61] l3 with ⟨v, l4⟩ | f
        · simp only [Px.bind, st, lift]
          rcases hE2 : E l4 with ⟨x, l5⟩ | f
          · simp only [Px.bind, st, lift]
            rcases Px.need [59] l5 with ⟨v2, l6⟩ | f
            · intro h; simp only [Sum.inl.injEq, Prod.mk.injEq] at h
              exact ⟨u, l1, y, l2, x, l5, rfl, rfl, rfl, h.1.symm⟩
            · intro h; simp at h
          · intro h; simp [Px.bind] at h
        · intro h; simp [Px.bind] at h
      · intro h; simp [Px.bind] at h
    · intro h; simp [Px.bind] at h
  · intro hs h; simp [Px.bind] at h
theorem del_st (E : Px.P Px.Ex) (pl : Nat) (r : List Lx.Tok) : st (delR E pl r) = needS [59] (needS [93] (st (lift E (needS [91] (st (lift Px.name (.inl r))))))) := by
  simp only [delR, placeR, needS, lift]
  rcases Px.name r with ⟨u, l1⟩ | f
  · simp only [Px.bind, st, lift]
    rcases Px.need [91] l1 with ⟨v, l2⟩ | f
    · simp only [Px.bind, st, lift]
      rcases E l2 with ⟨x, l3⟩ | f
      · simp only [Px.bind, st, lift]
        rcases Px.need [93] l3 with ⟨v2, l4⟩ | f
        · simp only [Px.bind, st, lift]
          rcases Px.need [59] l4 with ⟨v2, l5⟩ | f <;> rfl
        · rfl
      · rfl
    · rfl
  · rfl
theorem del_val {E : Px.P Px.Ex} {pl : Nat} {r : List Lx.Tok} {s : Px.St} {l' : List Lx.Tok} (h : delR E pl r = .inl (s, l')) : ∃ u l1 x l3, lift Px.name (.inl r) = .inl (u, l1) ∧ lift E (needS [91] (st (lift Px.name (.inl r)))) = .inl (x, l3) ∧ s = .mk 3 u.text [x] [] [] pl := by
  revert h
  simp only [delR, placeR, needS, lift]
  rcases Px.name r with ⟨u, l1⟩ | f
  · simp only [Px.bind, st, lift]
    rcases Px.need [91] l1 with ⟨v, l2⟩ | f
    · simp only [Px.bind, st, lift]
      rcases hE : E l2 with ⟨x, l3⟩ | f
      · simp only [Px.bind]
        rcases Px.need [93] l3 with ⟨v2, l4⟩ | f
        · simp only [Px.bind]
          rcases Px.need [59] l4 with ⟨v2, l5⟩ | f
          · intro h; simp only [Sum.inl.injEq, Prod.mk.injEq] at h
            exact ⟨u, l1, x, l3, rfl, rfl, h.1.symm⟩
          · intro h; simp at h
        · intro h; simp [Px.bind] at h
      · intro h; simp [Px.bind] at h
    · intro h; simp [Px.bind] at h
  · intro h; simp [Px.bind] at h
theorem ret_st {E : Px.P Px.Ex} {pl : Nat} {u : Lx.Tok} {r : List Lx.Tok} (hs : Px.sees 1 [114, 101, 116] (u :: r) = true) : st (retR E pl (u :: r)) = needS [59] (st (lift E (.inl r))) := by
  simp only [retR, needS, lift, Px.needK]
  rw [if_pos hs]
  simp only [Px.bind, List.tail_cons]
  rcases E r with ⟨x, l3⟩ | f
  · simp only [Px.bind, st, lift]
    rcases Px.need [59] l3 with ⟨v2, l4⟩ | f <;> rfl
  · rfl
theorem ret_val {E : Px.P Px.Ex} {pl : Nat} {u : Lx.Tok} {r : List Lx.Tok} {s : Px.St} {l' : List Lx.Tok} (hs : Px.sees 1 [114, 101, 116] (u :: r) = true) (h : retR E pl (u :: r) = .inl (s, l')) : ∃ x l3, lift E (.inl r) = .inl (x, l3) ∧ s = .mk 6 [] [x] [] [] pl := by
  simp only [retR, needS, lift, Px.needK] at h ⊢
  rw [if_pos hs] at h
  simp only [Px.bind, List.tail_cons] at h
  rcases hE : E r with ⟨x, l3⟩ | f
  · rw [hE] at h
    revert h
    simp only [Px.bind]
    rcases Px.need [59] l3 with ⟨v2, l4⟩ | f
    · intro h
      simp only [Sum.inl.injEq, Prod.mk.injEq] at h
      exact ⟨x, l3, rfl, h.1.symm⟩
    · intro h; simp at h
  · rw [hE] at h; simp [Px.bind] at h
theorem ret_no {E : Px.P Px.Ex} {pl : Nat} {u : Lx.Tok} {r : List Lx.Tok} (hs : Px.sees 1 [114, 101, 116] (u :: r) = false) : retR E pl (u :: r) = .inr (u.place, 31) := by
  simp only [retR, Px.needK]
  rw [if_neg (by rw [hs]; simp)]
  rfl
theorem st_inl {α : Type} {X : Px.R α} {l : List Lx.Tok} (h : st X = .inl l) : ∃ x, X = .inl (x, l) := by
  rcases X with ⟨x, l1⟩ | f
  · simp [st] at h; exact ⟨x, by rw [h]⟩
  · simp [st] at h
theorem st_inr {α : Type} {X : Px.R α} {f : Nat × Nat} (h : st X = .inr f) : X = .inr f := by
  rcases X with ⟨x, l1⟩ | g
  · simp [st] at h
  · simp [st] at h; rw [h]
theorem if_bad {E : Px.P Px.Ex} {B : Px.P (List Px.St)} {pl : Nat} {r : List Lx.Tok} {f : Nat × Nat} (h : st (lift E (.inl r)) = .inr f) : ifR E B pl r = .inr f := by
  have := st_inr h
  simp only [lift] at this
  simp only [ifR]; rw [this]; rfl
theorem if_one {E : Px.P Px.Ex} {B : Px.P (List Px.St)} {pl : Nat} {r l3 : List Lx.Tok} (h : st (lift E (.inl r)) = .inl l3) (hs : seesS 1 [101, 108, 115, 101] (st (lift B (.inl l3))) = false) : ∃ x, lift E (.inl r) = .inl (x, l3) ∧ st (ifR E B pl r) = st (lift B (.inl l3)) ∧ ∀ s l', ifR E B pl r = .inl (s, l') → ∃ bs l2, lift B (.inl l3) = .inl (bs, l2) ∧ s = .mk 4 [] [x] bs [] pl := by
  obtain ⟨x, hx⟩ := st_inl h
  simp only [lift] at hx hs ⊢
  refine ⟨x, hx, ?_⟩
  simp only [ifR]
  rw [hx]
  simp only [Px.bind]
  rcases hB : B l3 with ⟨bs, l2⟩ | f
  · rw [hB] at hs
    simp only [st, seesS] at hs
    simp only [Px.bind]
    rw [if_neg (by rw [hs]; simp)]
    refine ⟨rfl, fun s l' he => ?_⟩
    simp only [Sum.inl.injEq, Prod.mk.injEq] at he
    exact ⟨bs, l2, rfl, he.1.symm⟩
  · exact ⟨rfl, fun s l' he => by simp [Px.bind] at he⟩
theorem if_two {E : Px.P Px.Ex} {B : Px.P (List Px.St)} {pl : Nat} {r l3 : List Lx.Tok} (h : st (lift E (.inl r)) = .inl l3) (hs : seesS 1 [101, 108, 115, 101] (st (lift B (.inl l3))) = true) : ∃ x, lift E (.inl r) = .inl (x, l3) ∧ st (ifR E B pl r) = st (lift B (gotS 1 [101, 108, 115, 101] (st (lift B (.inl l3))))) ∧ ∀ s l', ifR E B pl r = .inl (s, l') → ∃ bs l2 cs l4, lift B (.inl l3) = .inl (bs, l2) ∧ lift B (gotS 1 [101, 108, 115, 101] (st (lift B (.inl l3)))) = .inl (cs, l4) ∧ s = .mk 4 [] [x] bs cs pl := by
  obtain ⟨x, hx⟩ := st_inl h
  simp only [lift] at hx hs ⊢
  refine ⟨x, hx, ?_⟩
  simp only [ifR]
  rw [hx]
  simp only [Px.bind]
  rcases hB : B l3 with ⟨bs, l2⟩ | f
  · rw [hB] at hs
    simp only [st, seesS] at hs
    simp only [Px.bind, st, gotS, lift]
    rw [if_pos hs, if_pos hs]
    simp only
    rcases hC : B l2.tail with ⟨cs, l4⟩ | f
    · refine ⟨rfl, fun s l' he => ?_⟩
      simp only [Px.bind, Sum.inl.injEq, Prod.mk.injEq] at he
      exact ⟨bs, l2, cs, l4, rfl, rfl, he.1.symm⟩
    · exact ⟨rfl, fun s l' he => by simp [Px.bind] at he⟩
  · rw [hB] at hs
    simp [st, seesS] at hs
theorem for_bad {E : Px.P Px.Ex} {B : Px.P (List Px.St)} {pl : Nat} {r : List Lx.Tok} {f : Nat × Nat} (h : st (lift E (needKS 1 [116, 111] (st (lift Px.name (.inl r))))) = .inr f) : forR E B pl r = .inr f := by
  revert h
  simp only [needKS, lift, forR]
  rcases Px.name r with ⟨u, l1⟩ | g
  · simp only [Px.bind, st, lift]
    rcases Px.needK 1 [116, 111] l1 with ⟨v, l2⟩ | g
    · simp only [Px.bind, st, lift]
      rcases E l2 with ⟨x, l3⟩ | g
      · intro h; simp at h
      · intro h; simp at h; rw [h]
    · intro h; simp only [st] at h; simp at h; rw [h]
  · intro h; simp only [st] at h; simp at h; rw [h]; rfl
theorem for_one {E : Px.P Px.Ex} {B : Px.P (List Px.St)} {pl : Nat} {r l3 : List Lx.Tok} (h : st (lift E (needKS 1 [116, 111] (st (lift Px.name (.inl r))))) = .inl l3) : ∃ u l1 x, lift Px.name (.inl r) = .inl (u, l1) ∧ lift E (needKS 1 [116, 111] (st (lift Px.name (.inl r)))) = .inl (x, l3) ∧ st (forR E B pl r) = st (lift B (.inl l3)) ∧ ∀ s l', forR E B pl r = .inl (s, l') → ∃ bs l2, lift B (.inl l3) = .inl (bs, l2) ∧ s = .mk 5 u.text [x] bs [] pl := by
  revert h
  simp only [needKS, lift, forR]
  rcases Px.name r with ⟨u, l1⟩ | g
  · simp only [Px.bind, st, lift]
    rcases Px.needK 1 [116, 111] l1 with ⟨v, l2⟩ | g
    · simp only [Px.bind, st, lift]
      rcases hE : E l2 with ⟨x, l9⟩ | g
      · intro h
        simp at h
        subst h
        refine ⟨u, l1, x, rfl, rfl, ?_⟩
        simp only [Px.bind]
        rcases hB : B l9 with ⟨bs, l2⟩ | f
        · refine ⟨rfl, fun s l' he => ?_⟩
          simp only [Px.bind, Sum.inl.injEq, Prod.mk.injEq] at he
          exact ⟨bs, l2, rfl, he.1.symm⟩
        · exact ⟨rfl, fun s l' he => by simp [Px.bind] at he⟩
      · intro h; simp at h
    · intro h; simp at h
  · intro h; simp [st] at h
theorem if_word {E : Px.P Px.Ex} {B : Px.P (List Px.St)} {l : List Lx.Tok} (h1 : Px.sees 1 [108, 101, 116] l = false) (h2 : Px.sees 1 [115, 101, 116] l = false) (h3 : Px.sees 1 [100, 101, 108] l = false) (h4 : Px.sees 1 [105, 102] l = false) (h5 : Px.sees 1 [102, 111, 114] l = false) : Px.stmt E B l = retR E (Px.place l) l := by
  rw [stmt_forms, if_neg (by rw [h1]; simp), if_neg (by rw [h2]; simp), if_neg (by rw [h3]; simp), if_neg (by rw [h4]; simp), if_neg (by rw [h5]; simp)]
end Go.Proofs.YtnmdnjdibdmodaaGreatDoor
/- The document's block, walked over a contract of its statement. -/
namespace Go.Proofs.YtnmdnjdibdmodaaGreatDoor
open Go.RowKit
set_option linter.unusedSimpArgs false
set_option linter.unusedVariables false

/-- Where the loop over a block's statements is. -/
def BlkAt (G : Prop) (q : Px.P Px.St) (m : Nat) (res : Px.R (List Px.St)) (f : Nat) (S : RSt) (w : World) (sl : Value) : Prop :=
  (∃ acc l, G ∧ S = .inl l ∧ l.length < f ∧ acc.length + l.length ≤ 4096 ∧ GathS m w sl acc ∧ res = Px.stmts q f acc l) ∨ ∃ fl, S = .inr fl ∧ res = .inr fl
theorem RS.few {b ga ca : Nat} {ts l : List Lx.Tok} {w : World} (h : RS b ga ca ts (.inl l) w) : l.length ≤ 4096 := by
  obtain ⟨_, N, hN, hr⟩ := h
  have := hr.few
  rw [← hN]; simp; omega
set_option maxRecDepth 100000 in
set_option maxHeartbeats 16000000 in
theorem rblk_walk (b ga ca : Nat) (ts : List Lx.Tok) (d : Nat) (hd : d ≤ 25) (q : Px.P Px.St) (hok : Px.Ok q) (res : Px.R (List Px.St)) (S : RSt) (w : World) (h : RS b ga ca ts S w)
    (hstm : d ≤ 24 → ∀ (l : List Lx.Tok) (w : World), RS b ga ca ts (.inl l) w → Calls Tryz.prog 61 #[.pointer (some ⟨b, 0, none⟩), .int .i64 d] w fun r w' => SP b ga ca ts q (.inl l) w r w')
    (hstart : Aside ((∃ l1, d ≤ 24 ∧ needS [123] (deepS d S) = .inl l1 ∧ res = Px.stmts q (l1.length + 1) [] l1) ∨ ∃ fl, needS [123] (deepS d S) = .inr fl ∧ res = .inr fl)) :
    Calls Tryz.prog 41 #[.pointer (some ⟨b, 0, none⟩), .int .i64 d] w fun r w' => ∃ (ao : Option Addr) (an ac : Nat), r = .returned (.slice ao an ac) ∧ RS b ga ca ts (st res) w' ∧ Fr b w w' ∧ ∀ xs l', res = .inl (xs, l') → IsSts (From w.heap.size) w' xs (.slice ao an ac) := by
  obtain ⟨i0, hi0, hz0, hz1, hz2⟩ := info_parts stmtInfo
  have hbl := (h.at).choose_spec.choose_spec.choose_spec.1.there
  have hgl := (h.at).choose_spec.choose_spec.choose_spec.1.gl
  have hdeep := deep_any b ga ca ts S d w h
  go_enter Tryz.func41, Tryz.ntmps41
  go_wp2_with fail
  refine hdeep.mono ?_
  rintro e w1 ⟨rfl, hR1, hg1⟩
  clear hdeep
  go_wp2_with fail
  refine (need_any b ga ca ts _ [123] w1 hR1).mono ?_
  rintro e w2 ⟨rfl, hR2, hg2⟩
  have hf2 := hg1.trans hg2
  obtain ⟨F, hat⟩ : ∃ F, Aside (BlkAt (d ≤ 24) q w.heap.size res F (needS [123] (deepS d S)) w2 (.slice none 0 0)) := by
    rcases hstart.out with ⟨l1, h1, h2, h3⟩ | ⟨fl, h1, h2⟩
    · rw [h2] at hR2 ⊢
      exact ⟨l1.length + 1, Or.inl ⟨[], l1, h1, rfl, by omega, by have := hR2.few; simpa using this, GathS.nil _ _, h3⟩⟩
    · rw [h1]
      exact ⟨0, Or.inr ⟨fl, rfl, h2⟩⟩
  clear hR1 hg1 hg2 h hstart
  generalize needS [123] (deepS d S) = S2 at *
  go_wp2_with fail
  go_loopg [5] F (fun g v wr => ∃ (S' : RSt) (ao : Option Addr) (an cap : Nat), v = .slice ao an cap ∧ RS b ga ca ts S' wr ∧ Fr b w wr ∧ Aside (BlkAt (d ≤ 24) q w.heap.size res g S' wr (.slice ao an cap)))
  case atStart => exact ⟨S2, none, 0, 0, rfl, hR2, hf2, hat⟩
  case round =>
    clear hat hR2 hf2
    obtain ⟨S', ao, an, cap, rfl, hR, hf, hat⟩ := hrel
    obtain ⟨N, pp, er, hr, hcase⟩ := hR.at
    obtain ⟨c0, c1, c2, c3, f1, f2, f3⟩ := hr.cells
    have hbt := hr.there
    have hsz := hf.size
    rcases hcase with ⟨rfl, l', rfl⟩ | ⟨h0, rfl⟩
    · obtain ⟨acc, hd24, hlf, hcl, hgt, hch⟩ : ∃ acc, d ≤ 24 ∧ l'.length < gk ∧ acc.length + l'.length ≤ 4096 ∧ GathS w.heap.size wr (.slice ao an cap) acc ∧ res = Px.stmts q gk acc l' := by
        rcases hat.out with ⟨acc, l2, h0, h1, h2, h3, h4, h5⟩ | ⟨fl, h1, _⟩
        · simp at h1; subst h1; exact ⟨acc, h0, h2, h3, h4, h5⟩
        · simp at h1
      obtain ⟨F', rfl⟩ : ∃ F', gk = F' + 1 := ⟨gk - 1, by omega⟩
      go_wp2_with fail
      refine (got_any b ga ca ts (.inl l') 4 [125] wr (by decide) hR).mono ?_
      rintro e wA ⟨rfl, hRA, hgA⟩
      have hfA := hf.trans hgA
      have hgtA := hgt.fo hgA.fo hbl
      have hszA := hfA.size
      clear c0 c1 c2 c3 f1 f2 f3 hr hR hf hgt hgA hat
      rcases hse : seesS 4 [125] (.inl l') with _ | _
      case true =>
        have hsee : Px.sees 4 [125] l' = true := hse
        have e1 : gotS 4 [125] (.inl l') = .inl l'.tail := by simp only [gotS]; rw [if_pos hsee]
        rw [e1] at hRA
        have hr9 : Aside (res = .inl (acc, l'.tail)) := by show _ = _; rw [hch]; simp only [Px.stmts]; rw [if_pos hsee]
        clear hch e1
        go_wp2
        go_ret
        exact ⟨ao, an, cap, rfl, by rw [hr9.out]; exact hRA, hfA, fun xs l2 he => by rw [hr9.out] at he; simp at he; rw [← he.1]; exact hgtA.sts (fun k hk _ => hk)⟩
      case false =>
        rw [gotS_no hse] at hRA
        have hgd : Px.Good l' := hRA.1
        have hrr : Aside (res = Px.bind (q l') fun s l1 => Px.stmts q F' (acc ++ [s]) l1) := by
          show _ = _
          rw [hch]; simp only [Px.stmts]; rw [if_neg (by rw [show Px.sees 4 [125] l' = false from hse]; simp)]
        clear hch
        have hC := hstm hd24 l' wA hRA
        go_wp2_with fail
        refine hC.mono ?_
        rintro e w4 ⟨k, nm, a1, n1, c1, a2, n2, c2, a3, n3, c3, pl, rfl, hR4, hg4, hv4⟩
        have hf4 := hfA.trans hg4
        have hsz4 := hf4.size
        obtain ⟨row, hown, hall⟩ := hgtA
        obtain rfl : an = acc.length := by
          obtain ⟨a9, c9, h9⟩ := slice_of hown
          simp at h9
          exact h9.2.1
        have hown4 := owns_fo hown hg4.fo hbl
        have hall4 := hall.since (w' := w4) (hg4.sinceB (fun hh => by omega))
        have hv5 : ∀ s l1, lift q (.inl l') = .inl (s, l1) → IsSt (fun k => w.heap.size ≤ k ∧ (Value.slice ao acc.length cap).ownBlock ≠ some k) w4 s (sL k nm (.slice a1 n1 c1) (.slice a2 n2 c2) (.slice a3 n3 c3) pl) := fun s l1 hs => (hv4 s l1 hs).plow (fun k hk _ => ⟨by have : wA.heap.size ≤ k := hk; omega, fun e => by have := (hown.lt k e).2; have : wA.heap.size ≤ k := hk; omega⟩)
        clear hC hown hall hfA hRA hg4 hv4 hstm hse
        go_wp2_with (at_builtin; refine wpList_append_lies _ rfl _ _ 44 rfl w.heap.size 49 i0 _ 9 128 Tryz.underlying44 hi0 hz0 hz1 hz2 rfl (by decide) _ acc.length row rfl (hown4.alloc _) ⟨w4.heap.size, 0, none⟩ 1 1 (sL k nm (.slice a1 n1 c1) (.slice a2 n2 c2) (.slice a3 n3 c3) pl) rfl rfl (World.news_of_block (heap_new w4 _)) ?c1 (by decide) ?c3 ?c4 ?c5 (w4.heap.size + 1) ?c6 ?_)
        case c1 => simp [Value.oneCell']
        case c3 => unfold maxLen; omega
        case c4 => omega
        case c5 => simp; omega
        case c6 => simp
        intro g cap7 w7 hown7 hgrow hat7 hlt7
        have hG := grewB hgrow hat7
        have far : ∀ j, j < w.heap.size → w7.heap[j]? = w4.heap[j]? := fun j hj => hG.block j (by omega) (fun e => by have := (hown4.lt j e.symm).1; omega)
        have hR7 : RS b ga ca ts (st (lift q (.inl l'))) w7 := hR4.keep (far b hbl) (far ga hgl) hG.size
        have hf7 : Fr b w w7 := ⟨hG.os.trans hf4.os, hG.tape.trans hf4.tape, hG.output.trans hf4.output, Nat.le_trans hf4.size hG.size, fun j h1 h2 => (far j h1).trans (hf4.block j h1 h2)⟩
        have hsn : ∀ s l1, lift q (.inl l') = .inl (s, l1) → GathS w.heap.size w7 (.slice (some ⟨g, 0, none⟩) (acc.length + 1) cap7) (acc ++ [s]) := fun s l1 hs => gathS_snoc hown4 hall4 (hv5 s l1 hs) hG hown7
        clear hown4 hall4 hv5 hgrow hat7 hown7 hG far hR4 hf4
        go_wp2
        go_roundg F'
        case measure => omega
        case rel =>
          refine ⟨_, some ⟨g, 0, none⟩, acc.length + 1, cap7, rfl, hR7, hf7, ?_⟩
          show BlkAt _ _ _ _ _ _ _ _
          have hr2 := hrr.out
          simp only [lift] at hsn ⊢
          rcases hq : q l' with ⟨s, l1⟩ | fl
          · have ha := (hok l' hgd).ok s l1 hq
            have hle := ha.less
            rw [hq] at hr2
            exact Or.inl ⟨acc ++ [s], l1, hd24, rfl, by omega, by simp; omega, hsn s l1 hq, hr2⟩
          · rw [hq] at hr2
            exact Or.inr ⟨fl, rfl, hr2⟩
    · have her : ((er : Int) == 0) = false := by simp; omega
      have hrr : Aside (res = .inr (pp, er)) := by
        show _ = _
        rcases hat.out with ⟨acc, l2, _, h1, _⟩ | ⟨fl, h1, h2⟩
        · simp at h1
        · simp at h1; rw [h2, h1]
      clear hat hr hstm
      go_wp2
      go_ret
      exact ⟨ao, an, cap, rfl, by rw [hrr.out]; exact hR, hf, fun xs l2 he => by rw [hrr.out] at he; simp at he⟩
end Go.Proofs.YtnmdnjdibdmodaaGreatDoor
/- The document's statement, walked: let. -/
namespace Go.Proofs.YtnmdnjdibdmodaaGreatDoor
open Go.RowKit
set_option linter.unusedSimpArgs false
set_option linter.unusedVariables false

set_option maxRecDepth 100000 in
set_option maxHeartbeats 16000000 in
theorem rst_let (b ga ca : Nat) (ts : List Lx.Tok) (d : Nat) (hd : d ≤ 24) (E : Px.P Px.Ex) (B : Px.P (List Px.St))
    (hexp : ∀ (S : RSt) (w : World), RS b ga ca ts S w → Calls Tryz.prog 79 #[.pointer (some ⟨b, 0, none⟩), .int .i64 ((d : Int) + 1)] w fun r w' => EP b ga ca ts E S w r w')
    (hblk : ∀ (S : RSt) (w : World), RS b ga ca ts S w → Calls Tryz.prog 41 #[.pointer (some ⟨b, 0, none⟩), .int .i64 ((d : Int) + 1)] w fun r w' => BP b ga ca ts B S w r w')
    (u : Lx.Tok) (rr : List Lx.Tok) (w : World) (h : RS b ga ca ts (.inl (u :: rr)) w)
    (s0 : Px.sees 1 [108, 101, 116] (u :: rr) = true) :
    Calls Tryz.prog 61 #[.pointer (some ⟨b, 0, none⟩), .int .i64 d] w fun r w' => SP b ga ca ts (Px.stmt E B) (.inl (u :: rr)) w r w' := by
  have hwr : IntKind.i64.wrap ((d : Int) + 1) = (d : Int) + 1 := IntWalk.i64_in _ (by omega)
  have hbl := (h.at).choose_spec.choose_spec.choose_spec.1.there
  have hgl := (h.at).choose_spec.choose_spec.choose_spec.1.gl
  have hb0 : Below w.heap.size w (w.alloc zeroS) := (Below.refl _ _).alloc (Nat.le_refl _) _
  have ho0 : (w.alloc zeroS).heap[w.heap.size]? = some zeroS := heap_new w _
  have hR0 := h.below hb0
  have hf0 : Fr b w (w.alloc zeroS) := Fr.of_below hb0
  have hsz0 : w.heap.size < (w.alloc zeroS).heap.size := by simp
  obtain ⟨Nl, hNl, hr1⟩ := hR0.2
  obtain ⟨hu, hN2, hlt⟩ := drop_head hNl
  have hltI : (Nl : Int) < (ts.length : Int) := by omega
  have t0 : seesS 1 [108, 101, 116] (.inl (u :: rr)) = true := s0
  have g0 : gotS 1 [108, 101, 116] (.inl (u :: rr)) = .inl rr := by simp only [gotS]; rw [if_pos s0]; rfl
  have hU : Aside (lift (Px.stmt E B) (.inl (u :: rr)) = letR E u.place rr) := by
    show _ = _
    simp only [lift]
    rw [stmt_forms, if_pos s0]; rfl
  obtain ⟨i0, hi0, hz0, hz1, hz2⟩ := info_parts exprInfo
  go_enter Tryz.func61, Tryz.ntmps61
  go_upto_region 1 with fail
  generalize w.alloc zeroS = wz at *
  obtain ⟨c0, c1, c2, c3, f1, f2, f3⟩ := hr1.cells
  obtain ⟨x0, x1, x2, x3⟩ := hr1.row Nl u hu
  have hb3 := hr1.there
  have hgl3 := hr1.gl
  have hfew := hr1.few
  clear hb0 h
  go_region
  have hbA : Below wz.heap.size wz ((wz.alloc (sO 0 [] (.slice none 0 0) (.slice none 0 0) (.slice none 0 0) u.place)).drew) := ((Below.refl _ _).alloc (Nat.le_refl _) _).trans ⟨rfl, rfl, rfl, Nat.le_refl _, fun _ _ => rfl⟩
  have hv0 : RT b ga ca ts wz.heap.size w (.inl (u :: rr)) 0 [] none 0 0 [] (.slice none 0 0) (.slice none 0 0) u.place (· = []) (· = []) (· = []) ((wz.alloc (sO 0 [] (.slice none 0 0) (.slice none 0 0) (.slice none 0 0) u.place)).drew) :=
    ⟨hR0.below hbA, heap_new wz _, (hbA.block _ hsz0).trans ho0, hf0.trans (Fr.of_below hbA), ⟨rfl, Or.inl ⟨rfl, rfl⟩⟩, fun xs hx => by rw [hx]; exact ⟨rfl, by rw [AllEx]⟩, fun xs hx => by rw [hx]; exact IsSts.nil' _ _, fun xs hx => by rw [hx]; exact IsSts.nil' _ _, ⟨hbl, hgl, hsz0⟩⟩
  clear c0 c1 c2 c3 f1 f2 f3 x0 x1 x2 x3 hbA hR0 hf0 hr1 hb3 hgl3 hsz0 ho0 hNl hu hN2 hlt hltI
  generalize (wz.alloc (sO 0 [] (.slice none 0 0) (.slice none 0 0) (.slice none 0 0) u.place)).drew = v0 at *
  generalize wz.heap.size = gs at *
  obtain ⟨q1, q2, q3, q4, q5, q6, q7, q8, q9, q10⟩ := hv0.lts
  go_wp2_with fail
  refine (got_any b ga ca ts _ 1 [108, 101, 116] v0 (by decide) hv0.rs).mono ?_
  rintro e v1 ⟨rfl, hRz, hgz⟩
  rw [g0] at hRz
  rw [t0]
  have hv1 := hv0.call hgz hRz
  clear hv0 hRz hgz q1 q2 q3 q4 q5 q6 q7 q8 q9 q10
  obtain ⟨q1, q2, q3, q4, q5, q6, q7, q8, q9, q10⟩ := hv1.lts
  have x0 := (cells_of9 hv1.box).1
  have f0 := (cells_of9 hv1.box).2.2.2.2.2.2.2.2.2.1
  have hv2 := hv1.set (j := 0) (v := .int .i64 1) (k' := 1) (nm' := []) (b1' := .slice none 0 0) (b2' := .slice none 0 0) (M1' := (· = [])) (M2' := (· = [])) (fun hh => by simp [World.setCell, Array.getElem?_modify, hh]) hv1.v1 hv1.v2
  go_wp2_with fail
  generalize v1.setCell ⟨gs, 0, none⟩ (.int .i64 1) = v2 at *
  clear hv1 x0 f0 q1 q2 q3 q4 q5 q6 q7 q8 q9 q10
  refine (rname_any b ga ca ts _ v2 hv2.rs).mono ?_
  rintro e v3 ⟨tk, nm, tm, tp, rfl, hRz, hgz, hnm⟩
  replace hnm : Aside (∀ u l', lift Px.name (.inl rr) = .inl (u, l') → u = ⟨tk, nm, tm, tp⟩) := hnm
  have hf1 := tokF1
  have hv3 := hv2.call hgz hRz
  clear hv2 hRz hgz
  obtain ⟨q1, q2, q3, q4, q5, q6, q7, q8, q9, q10⟩ := hv3.lts
  have x1 := (cells_of9 hv3.box).2.1
  have f1 := (cells_of9 hv3.box).2.2.2.2.2.2.2.2.2.2.1
  have hv4 := hv3.set (j := 1) (v := .string ⟨nm.toArray⟩) (k' := 1) (nm' := nm) (b1' := .slice none 0 0) (b2' := .slice none 0 0) (M1' := (· = [])) (M2' := (· = [])) (fun hh => by simp [World.setCell, Array.getElem?_modify, hh]) hv3.v1 hv3.v2
  go_wp2_with fail
  generalize v3.setCell ⟨gs, 1, none⟩ (.string ⟨nm.toArray⟩) = v4 at *
  clear hv3 x1 f1 hf1 q1 q2 q3 q4 q5 q6 q7 q8 q9 q10
  refine (need_any b ga ca ts _ [61] v4 hv4.rs).mono ?_
  rintro e v5 ⟨rfl, hRz, hgz⟩
  have hv5 := hv4.call hgz hRz
  clear hv4 hRz hgz
  obtain ⟨ao, n, cap, row, hn4, hT⟩ : ∃ ao n cap row, n ≤ 0 ∧ RT b ga ca ts gs w (needS [61] (st (lift Px.name (.inl rr)))) _ _ ao n cap row (.slice none 0 0) (.slice none 0 0) u.place ((· = [])) (· = []) (· = []) v5 := ⟨_, _, _, _, by omega, hv5⟩
  clear hv5
  obtain ⟨q1, q2, q3, q4, q5, q6, q7, q8, q9, q10⟩ := hT.lts
  have c6 := (cells_of9 hT.box).2.2.2.2.2.1
  have hRd := hT.rs.drewN 1
  go_wp2_with fail
  refine wpE_begin (S := fun w' => w'.cell? ⟨gs, 5, none⟩ = some (.slice ao n cap)) (N := fun j => decide (j < 8)) (by kernel_rfl) ?_
  have hS0 : v5.drew.cell? ⟨gs, 5, none⟩ = some (.slice ao n cap) := c6
  refine wpE_take (i := 0) (v := .pointer (some ⟨gs, 5, none⟩)) rfl (by kernel_rfl) (by kernel_rfl) (by kernel_rfl) (by kernel_rfl) (fun _ _ _ h => h) rfl (fun w' hS => by have s1 := hS; go_simp) hS0 ?_
  try simp only [Act.put, List.setIfInBounds_toArray, List.set_cons_zero, List.set_cons_succ]
  refine wpE_take (i := 2) (v := .pointer (some ⟨b, 0, none⟩)) rfl (by kernel_rfl) (by kernel_rfl) (by kernel_rfl) (by kernel_rfl) (fun _ _ _ h => h) rfl (fun w' hS => by have s1 := hS; go_simp) hS0 ?_
  try simp only [Act.put, List.setIfInBounds_toArray, List.set_cons_zero, List.set_cons_succ]
  refine wpE_take (i := 3) (v := .int .i64 d) rfl (by kernel_rfl) (by kernel_rfl) (by kernel_rfl) (by kernel_rfl) (fun _ _ _ h => h) rfl (fun w' hS => by have s1 := hS; go_simp) hS0 ?_
  try simp only [Act.put, List.setIfInBounds_toArray, List.set_cons_zero, List.set_cons_succ]
  refine wpE_take (i := 1) (v := .slice ao n cap) rfl (by kernel_rfl) (by kernel_rfl) (by kernel_rfl) (by kernel_rfl) (fun _ _ _ h => h) rfl (fun w' hS => by have s1 := hS; go_simp) hS0 ?_
  try simp only [Act.put, List.setIfInBounds_toArray, List.set_cons_zero, List.set_cons_succ]
  refine wpE_take (i := 4) (v := .int .i64 ((d : Int) + 1)) rfl (by kernel_rfl) (by kernel_rfl) (by kernel_rfl) (by kernel_rfl) (fun _ _ _ h => h) rfl (fun w' hS => by have s1 := hS; go_simp) hS0 ?_
  try simp only [Act.put, List.setIfInBounds_toArray, List.set_cons_zero, List.set_cons_succ]
  refine wpE_one (i := 5) (by kernel_rfl) rfl rfl (fun K hK => ?_)
  go_simp
  refine (hexp _ _ hRd).mono ?_
  rintro e w4 ⟨k2, o2, n2, t2, ao2, an2, ac2, p2, rfl, hR4, hg4, hx4⟩
  have hgQ4 : Fr b v5 w4 := (Fr.drewN b v5 1).trans hg4
  have h4 := hT.call hgQ4 hR4
  have hx5 : ∀ x, (∃ l', lift E (needS [61] (st (lift Px.name (.inl rr)))) = .inl (x, l')) → IsEx (fun k => gs + 1 ≤ k ∧ (Value.slice ao n cap).ownBlock ≠ some k) w4 x (exL k2 o2 n2 t2 (.slice ao2 an2 ac2) p2) := fun x ⟨l', hl'⟩ => (hx4 x l' hl').low (fun k h1 h2 => ⟨by have : v5.heap.size ≤ k := h1; omega, fun e => by have := (hT.own.lt k e).2; have : v5.heap.size ≤ k := h1; omega⟩)
  have y6 := (cells_of9 h4.box).2.2.2.2.2.1
  obtain ⟨l4, _⟩ := h4.lts
  refine hK _ _ (fun _ => y6) ?_
  clear hK K
  try simp only [Act.put, List.setIfInBounds_toArray, List.set_cons_zero, List.set_cons_succ]
  refine wpE_one (i := 6) (by kernel_rfl) rfl rfl (fun K hK => ?_)
  go_simp
  refine hK _ _ (fun _ => (World.cell?_of_block (w := w4) (heap_old l4)).trans y6) ?_
  clear hK K
  try simp only [Act.put, List.setIfInBounds_toArray, List.set_cons_zero, List.set_cons_succ]
  refine wpE_one (i := 7) (by kernel_rfl) rfl rfl (fun K hK => ?_)
  refine wp_append_lies _ (.tmp 28) (.tmp 33) 47 rfl (gs + 1) 51 i0 _ 8 96 Tryz.underlying47 hi0 hz0 hz1 hz2 rfl (by omega) (.slice ao n cap) n row rfl (h4.own.alloc _) ⟨w4.heap.size, 0, none⟩ 1 1 (exL k2 o2 n2 t2 (.slice ao2 an2 ac2) p2) rfl rfl (World.news_of_block (heap_new w4 _)) (by simp [Value.oneCell']) (by omega) (by unfold maxLen; omega) (by omega) (by simp; omega) (w4.heap.size + 1) (by simp) ?_
  intro g cap5 w5 hown5 hgrow hat5 hlt5
  have hG := grewB hgrow hat5
  have far : some gs ≠ (Value.slice ao n cap).ownBlock := fun e => by have := (h4.own.lt gs e.symm).1; omega
  have hb5 : w5.heap[gs]? = w4.heap[gs]? := hG.block gs l4 far
  have z6 : w5.cell? ⟨gs, 5, none⟩ = some (.slice ao n cap) := (World.cell?_of_block (w := w4) hb5).trans y6
  have zf : w5.frozen? ⟨gs, 5, none⟩ = false := (World.frozen?_of_block (w := w4) hb5).trans (by have h9 := h4.box; simp [World.frozen?, h9])
  refine hK _ _ (fun _ => z6) ?_
  clear hK K
  try simp only [Act.put, List.setIfInBounds_toArray, List.set_cons_zero, List.set_cons_succ]
  refine wpE_takeL (i := 8) (v := .pointer (some ⟨gs, 5, none⟩)) rfl (by kernel_rfl) (by kernel_rfl) (by kernel_rfl) rfl (fun _ _ _ h => h) rfl (fun w' => by go_simp) ?_
  try simp only [Act.put, List.setIfInBounds_toArray, List.set_cons_zero, List.set_cons_succ]
  refine wpE_one (i := 9) (by kernel_rfl) rfl rfl (fun K hK => ?_)
  go_simp
  refine hK _ _ (fun h => absurd h (by decide)) (wpE_done (by kernel_rfl) ?_)
  clear hK K
  have hv6 := h4.app hG hown5 hx5 rfl
  generalize w5.setCell ⟨gs, 5, none⟩ (.slice (some ⟨g, 0, none⟩) (n + 1) cap5) = v6 at *
  clear hT h4 hG hown5 hx5 hx4 hR4 hg4 hgQ4 hgrow hat5 hlt5 far hb5 z6 zf y6 l4 c6 hRd hS0 q1 q2 q3 q4 q5 q6 q7 q8 q9 q10
  obtain ⟨q1, q2, q3, q4, q5, q6, q7, q8, q9, q10⟩ := hv6.lts
  go_wp2_with fail
  clear q1 q2 q3 q4 q5 q6 q7 q8 q9 q10
  refine (need_any b ga ca ts _ [59] v6 hv6.rs).mono ?_
  rintro e v7 ⟨rfl, hRz, hgz⟩
  have hv7 := hv6.call hgz hRz
  clear hv6 hRz hgz
  have hend := hv7.ret (q := Px.stmt E B) (l := u :: rr) (by rw [hU.out]; exact let_st E u.place rr) (fun s l' hs => by
    rw [hU.out] at hs
    obtain ⟨u9, l1, x, l3, e1, e2, rfl⟩ := let_val hs
    have := hnm.out u9 l1 e1
    subst this
    exact ⟨[x], [], [], ⟨[], x, rfl, ⟨l3, e2⟩, rfl⟩, rfl, rfl, rfl⟩)
  obtain ⟨q1, q2, q3, q4, q5, q6, q7, q8, q9, q10⟩ := hv7.lts
  obtain ⟨y0, y1, y2, y3, y4, y5, y6, y7, y8, _⟩ := cells_of9 hv7.box
  obtain ⟨e0, e1, e2, e3, e4, e5, e6, e7, e8, m0, m1, m2, m3, m4, m5, m6, m7, m8⟩ := cells_of9 hv7.out
  clear hv7
  generalize w.heap.size = gr at *
  go_wp2
  exact bodyPost_ret (v := sV 1 nm (.slice (some ⟨g, 0, none⟩) (n + 1) cap5) (.slice none 0 0) (.slice none 0 0) u.place) (by simp [results, Tryz.results61, go_sem, e0, e1, e2, e3, e4, e5, e6, e7, e8]) rfl hend
end Go.Proofs.YtnmdnjdibdmodaaGreatDoor
/- The document's statement, walked: set. -/
namespace Go.Proofs.YtnmdnjdibdmodaaGreatDoor
open Go.RowKit
set_option linter.unusedSimpArgs false
set_option linter.unusedVariables false

set_option maxRecDepth 100000 in
set_option maxHeartbeats 16000000 in
theorem rst_set (b ga ca : Nat) (ts : List Lx.Tok) (d : Nat) (hd : d ≤ 24) (E : Px.P Px.Ex) (B : Px.P (List Px.St))
    (hexp : ∀ (S : RSt) (w : World), RS b ga ca ts S w → Calls Tryz.prog 79 #[.pointer (some ⟨b, 0, none⟩), .int .i64 ((d : Int) + 1)] w fun r w' => EP b ga ca ts E S w r w')
    (hblk : ∀ (S : RSt) (w : World), RS b ga ca ts S w → Calls Tryz.prog 41 #[.pointer (some ⟨b, 0, none⟩), .int .i64 ((d : Int) + 1)] w fun r w' => BP b ga ca ts B S w r w')
    (u : Lx.Tok) (rr : List Lx.Tok) (w : World) (h : RS b ga ca ts (.inl (u :: rr)) w)
    (s0 : Px.sees 1 [108, 101, 116] (u :: rr) = false)
    (s1 : Px.sees 1 [115, 101, 116] (u :: rr) = true) :
    Calls Tryz.prog 61 #[.pointer (some ⟨b, 0, none⟩), .int .i64 d] w fun r w' => SP b ga ca ts (Px.stmt E B) (.inl (u :: rr)) w r w' := by
  have hwr : IntKind.i64.wrap ((d : Int) + 1) = (d : Int) + 1 := IntWalk.i64_in _ (by omega)
  have hbl := (h.at).choose_spec.choose_spec.choose_spec.1.there
  have hgl := (h.at).choose_spec.choose_spec.choose_spec.1.gl
  have hb0 : Below w.heap.size w (w.alloc zeroS) := (Below.refl _ _).alloc (Nat.le_refl _) _
  have ho0 : (w.alloc zeroS).heap[w.heap.size]? = some zeroS := heap_new w _
  have hR0 := h.below hb0
  have hf0 : Fr b w (w.alloc zeroS) := Fr.of_below hb0
  have hsz0 : w.heap.size < (w.alloc zeroS).heap.size := by simp
  obtain ⟨Nl, hNl, hr1⟩ := hR0.2
  obtain ⟨hu, hN2, hlt⟩ := drop_head hNl
  have hltI : (Nl : Int) < (ts.length : Int) := by omega
  have t0 : seesS 1 [108, 101, 116] (.inl (u :: rr)) = false := s0
  have t1 : seesS 1 [115, 101, 116] (.inl (u :: rr)) = true := s1
  have g1 : gotS 1 [115, 101, 116] (.inl (u :: rr)) = .inl rr := by simp only [gotS]; rw [if_pos s1]; rfl
  have hU : Aside (lift (Px.stmt E B) (.inl (u :: rr)) = setR E u.place rr) := by
    show _ = _
    simp only [lift]
    rw [stmt_forms, if_neg (by rw [s0]; simp), if_pos s1]; rfl
  obtain ⟨i0, hi0, hz0, hz1, hz2⟩ := info_parts exprInfo
  go_enter Tryz.func61, Tryz.ntmps61
  go_upto_region 1 with fail
  generalize w.alloc zeroS = wz at *
  obtain ⟨c0, c1, c2, c3, f1, f2, f3⟩ := hr1.cells
  obtain ⟨x0, x1, x2, x3⟩ := hr1.row Nl u hu
  have hb3 := hr1.there
  have hgl3 := hr1.gl
  have hfew := hr1.few
  clear hb0 h
  go_region
  have hbA : Below wz.heap.size wz ((wz.alloc (sO 0 [] (.slice none 0 0) (.slice none 0 0) (.slice none 0 0) u.place)).drew) := ((Below.refl _ _).alloc (Nat.le_refl _) _).trans ⟨rfl, rfl, rfl, Nat.le_refl _, fun _ _ => rfl⟩
  have hv0 : RT b ga ca ts wz.heap.size w (.inl (u :: rr)) 0 [] none 0 0 [] (.slice none 0 0) (.slice none 0 0) u.place (· = []) (· = []) (· = []) ((wz.alloc (sO 0 [] (.slice none 0 0) (.slice none 0 0) (.slice none 0 0) u.place)).drew) :=
    ⟨hR0.below hbA, heap_new wz _, (hbA.block _ hsz0).trans ho0, hf0.trans (Fr.of_below hbA), ⟨rfl, Or.inl ⟨rfl, rfl⟩⟩, fun xs hx => by rw [hx]; exact ⟨rfl, by rw [AllEx]⟩, fun xs hx => by rw [hx]; exact IsSts.nil' _ _, fun xs hx => by rw [hx]; exact IsSts.nil' _ _, ⟨hbl, hgl, hsz0⟩⟩
  clear c0 c1 c2 c3 f1 f2 f3 x0 x1 x2 x3 hbA hR0 hf0 hr1 hb3 hgl3 hsz0 ho0 hNl hu hN2 hlt hltI
  generalize (wz.alloc (sO 0 [] (.slice none 0 0) (.slice none 0 0) (.slice none 0 0) u.place)).drew = v0 at *
  generalize wz.heap.size = gs at *
  obtain ⟨q1, q2, q3, q4, q5, q6, q7, q8, q9, q10⟩ := hv0.lts
  go_wp2_with fail
  refine (got_any b ga ca ts _ 1 [108, 101, 116] v0 (by decide) hv0.rs).mono ?_
  rintro e v1 ⟨rfl, hRz, hgz⟩
  rw [gotS_no t0] at hRz
  rw [t0]
  have hv1 := hv0.call hgz hRz
  clear hv0 hRz hgz q1 q2 q3 q4 q5 q6 q7 q8 q9 q10
  obtain ⟨q1, q2, q3, q4, q5, q6, q7, q8, q9, q10⟩ := hv1.lts
  go_wp2_with fail
  refine (got_any b ga ca ts _ 1 [115, 101, 116] v1 (by decide) hv1.rs).mono ?_
  rintro e v2 ⟨rfl, hRz, hgz⟩
  rw [g1] at hRz
  rw [t1]
  have hv2 := hv1.call hgz hRz
  clear hv1 hRz hgz q1 q2 q3 q4 q5 q6 q7 q8 q9 q10
  obtain ⟨q1, q2, q3, q4, q5, q6, q7, q8, q9, q10⟩ := hv2.lts
  have x0 := (cells_of9 hv2.box).1
  have f0 := (cells_of9 hv2.box).2.2.2.2.2.2.2.2.2.1
  have hv3 := hv2.set (j := 0) (v := .int .i64 2) (k' := 2) (nm' := []) (b1' := .slice none 0 0) (b2' := .slice none 0 0) (M1' := (· = [])) (M2' := (· = [])) (fun hh => by simp [World.setCell, Array.getElem?_modify, hh]) hv2.v1 hv2.v2
  go_wp2_with fail
  generalize v2.setCell ⟨gs, 0, none⟩ (.int .i64 2) = v3 at *
  clear hv2 x0 f0 q1 q2 q3 q4 q5 q6 q7 q8 q9 q10
  refine (rname_any b ga ca ts _ v3 hv3.rs).mono ?_
  rintro e v4 ⟨tk, nm, tm, tp, rfl, hRz, hgz, hnm⟩
  replace hnm : Aside (∀ u l', lift Px.name (.inl rr) = .inl (u, l') → u = ⟨tk, nm, tm, tp⟩) := hnm
  have hf1 := tokF1
  have hv4 := hv3.call hgz hRz
  clear hv3 hRz hgz
  obtain ⟨q1, q2, q3, q4, q5, q6, q7, q8, q9, q10⟩ := hv4.lts
  have x1 := (cells_of9 hv4.box).2.1
  have f1 := (cells_of9 hv4.box).2.2.2.2.2.2.2.2.2.2.1
  have hv5 := hv4.set (j := 1) (v := .string ⟨nm.toArray⟩) (k' := 2) (nm' := nm) (b1' := .slice none 0 0) (b2' := .slice none 0 0) (M1' := (· = [])) (M2' := (· = [])) (fun hh => by simp [World.setCell, Array.getElem?_modify, hh]) hv4.v1 hv4.v2
  go_wp2_with fail
  generalize v4.setCell ⟨gs, 1, none⟩ (.string ⟨nm.toArray⟩) = v5 at *
  clear hv4 x1 f1 hf1 q1 q2 q3 q4 q5 q6 q7 q8 q9 q10
  refine (got_any b ga ca ts _ 4 [91] v5 (by decide) hv5.rs).mono ?_
  rintro e v6 ⟨rfl, hRz, hgz⟩
  have hv6 := hv5.call hgz hRz
  clear hv5 hRz hgz
  rcases hse : seesS 4 [91] (st (lift Px.name (.inl rr))) with _ | _
  case false =>
    rw [gotS_no hse] at hv6
    obtain ⟨q1, q2, q3, q4, q5, q6, q7, q8, q9, q10⟩ := hv6.lts
    go_wp2_with fail
    clear q1 q2 q3 q4 q5 q6 q7 q8 q9 q10
    refine (need_any b ga ca ts _ [61] v6 hv6.rs).mono ?_
    rintro e v7 ⟨rfl, hRz, hgz⟩
    have hv7 := hv6.call hgz hRz
    clear hv6 hRz hgz
    obtain ⟨ao, n, cap, row, hn4, hT⟩ : ∃ ao n cap row, n ≤ 0 ∧ RT b ga ca ts gs w (needS [61] (st (lift Px.name (.inl rr)))) _ _ ao n cap row (.slice none 0 0) (.slice none 0 0) u.place ((· = [])) (· = []) (· = []) v7 := ⟨_, _, _, _, by omega, hv7⟩
    clear hv7
    obtain ⟨q1, q2, q3, q4, q5, q6, q7, q8, q9, q10⟩ := hT.lts
    have c6 := (cells_of9 hT.box).2.2.2.2.2.1
    have hRd := hT.rs.drewN 1
    go_wp2_with fail
    refine wpE_begin (S := fun w' => w'.cell? ⟨gs, 5, none⟩ = some (.slice ao n cap)) (N := fun j => decide (j < 8)) (by kernel_rfl) ?_
    have hS0 : v7.drew.cell? ⟨gs, 5, none⟩ = some (.slice ao n cap) := c6
    refine wpE_take (i := 0) (v := .pointer (some ⟨gs, 5, none⟩)) rfl (by kernel_rfl) (by kernel_rfl) (by kernel_rfl) (by kernel_rfl) (fun _ _ _ h => h) rfl (fun w' hS => by have s1 := hS; go_simp) hS0 ?_
    try simp only [Act.put, List.setIfInBounds_toArray, List.set_cons_zero, List.set_cons_succ]
    refine wpE_take (i := 2) (v := .pointer (some ⟨b, 0, none⟩)) rfl (by kernel_rfl) (by kernel_rfl) (by kernel_rfl) (by kernel_rfl) (fun _ _ _ h => h) rfl (fun w' hS => by have s1 := hS; go_simp) hS0 ?_
    try simp only [Act.put, List.setIfInBounds_toArray, List.set_cons_zero, List.set_cons_succ]
    refine wpE_take (i := 3) (v := .int .i64 d) rfl (by kernel_rfl) (by kernel_rfl) (by kernel_rfl) (by kernel_rfl) (fun _ _ _ h => h) rfl (fun w' hS => by have s1 := hS; go_simp) hS0 ?_
    try simp only [Act.put, List.setIfInBounds_toArray, List.set_cons_zero, List.set_cons_succ]
    refine wpE_take (i := 1) (v := .slice ao n cap) rfl (by kernel_rfl) (by kernel_rfl) (by kernel_rfl) (by kernel_rfl) (fun _ _ _ h => h) rfl (fun w' hS => by have s1 := hS; go_simp) hS0 ?_
    try simp only [Act.put, List.setIfInBounds_toArray, List.set_cons_zero, List.set_cons_succ]
    refine wpE_take (i := 4) (v := .int .i64 ((d : Int) + 1)) rfl (by kernel_rfl) (by kernel_rfl) (by kernel_rfl) (by kernel_rfl) (fun _ _ _ h => h) rfl (fun w' hS => by have s1 := hS; go_simp) hS0 ?_
    try simp only [Act.put, List.setIfInBounds_toArray, List.set_cons_zero, List.set_cons_succ]
    refine wpE_one (i := 5) (by kernel_rfl) rfl rfl (fun K hK => ?_)
    go_simp
    refine (hexp _ _ hRd).mono ?_
    rintro e w4 ⟨k2, o2, n2, t2, ao2, an2, ac2, p2, rfl, hR4, hg4, hx4⟩
    have hgQ4 : Fr b v7 w4 := (Fr.drewN b v7 1).trans hg4
    have h4 := hT.call hgQ4 hR4
    have hx5 : ∀ x, (∃ l', lift E (needS [61] (st (lift Px.name (.inl rr)))) = .inl (x, l')) → IsEx (fun k => gs + 1 ≤ k ∧ (Value.slice ao n cap).ownBlock ≠ some k) w4 x (exL k2 o2 n2 t2 (.slice ao2 an2 ac2) p2) := fun x ⟨l', hl'⟩ => (hx4 x l' hl').low (fun k h1 h2 => ⟨by have : v7.heap.size ≤ k := h1; omega, fun e => by have := (hT.own.lt k e).2; have : v7.heap.size ≤ k := h1; omega⟩)
    have y6 := (cells_of9 h4.box).2.2.2.2.2.1
    obtain ⟨l4, _⟩ := h4.lts
    refine hK _ _ (fun _ => y6) ?_
    clear hK K
    try simp only [Act.put, List.setIfInBounds_toArray, List.set_cons_zero, List.set_cons_succ]
    refine wpE_one (i := 6) (by kernel_rfl) rfl rfl (fun K hK => ?_)
    go_simp
    refine hK _ _ (fun _ => (World.cell?_of_block (w := w4) (heap_old l4)).trans y6) ?_
    clear hK K
    try simp only [Act.put, List.setIfInBounds_toArray, List.set_cons_zero, List.set_cons_succ]
    refine wpE_one (i := 7) (by kernel_rfl) rfl rfl (fun K hK => ?_)
    refine wp_append_lies _ (.tmp 61) (.tmp 66) 47 rfl (gs + 1) 51 i0 _ 8 96 Tryz.underlying47 hi0 hz0 hz1 hz2 rfl (by omega) (.slice ao n cap) n row rfl (h4.own.alloc _) ⟨w4.heap.size, 0, none⟩ 1 1 (exL k2 o2 n2 t2 (.slice ao2 an2 ac2) p2) rfl rfl (World.news_of_block (heap_new w4 _)) (by simp [Value.oneCell']) (by omega) (by unfold maxLen; omega) (by omega) (by simp; omega) (w4.heap.size + 1) (by simp) ?_
    intro g cap5 w5 hown5 hgrow hat5 hlt5
    have hG := grewB hgrow hat5
    have far : some gs ≠ (Value.slice ao n cap).ownBlock := fun e => by have := (h4.own.lt gs e.symm).1; omega
    have hb5 : w5.heap[gs]? = w4.heap[gs]? := hG.block gs l4 far
    have z6 : w5.cell? ⟨gs, 5, none⟩ = some (.slice ao n cap) := (World.cell?_of_block (w := w4) hb5).trans y6
    have zf : w5.frozen? ⟨gs, 5, none⟩ = false := (World.frozen?_of_block (w := w4) hb5).trans (by have h9 := h4.box; simp [World.frozen?, h9])
    refine hK _ _ (fun _ => z6) ?_
    clear hK K
    try simp only [Act.put, List.setIfInBounds_toArray, List.set_cons_zero, List.set_cons_succ]
    refine wpE_takeL (i := 8) (v := .pointer (some ⟨gs, 5, none⟩)) rfl (by kernel_rfl) (by kernel_rfl) (by kernel_rfl) rfl (fun _ _ _ h => h) rfl (fun w' => by go_simp) ?_
    try simp only [Act.put, List.setIfInBounds_toArray, List.set_cons_zero, List.set_cons_succ]
    refine wpE_one (i := 9) (by kernel_rfl) rfl rfl (fun K hK => ?_)
    go_simp
    refine hK _ _ (fun h => absurd h (by decide)) (wpE_done (by kernel_rfl) ?_)
    clear hK K
    have hv8 := h4.app hG hown5 hx5 rfl
    generalize w5.setCell ⟨gs, 5, none⟩ (.slice (some ⟨g, 0, none⟩) (n + 1) cap5) = v8 at *
    clear hT h4 hG hown5 hx5 hx4 hR4 hg4 hgQ4 hgrow hat5 hlt5 far hb5 z6 zf y6 l4 c6 hRd hS0 q1 q2 q3 q4 q5 q6 q7 q8 q9 q10
    obtain ⟨q1, q2, q3, q4, q5, q6, q7, q8, q9, q10⟩ := hv8.lts
    go_wp2_with fail
    clear q1 q2 q3 q4 q5 q6 q7 q8 q9 q10
    refine (need_any b ga ca ts _ [59] v8 hv8.rs).mono ?_
    rintro e v9 ⟨rfl, hRz, hgz⟩
    have hv9 := hv8.call hgz hRz
    clear hv8 hRz hgz
    have hend := hv9.ret (q := Px.stmt E B) (l := u :: rr) (by rw [hU.out]; exact setA_st hse) (fun s l' hs => by
      rw [hU.out] at hs
      obtain ⟨u9, l1, x, l3, e1, e2, rfl⟩ := setA_val hse hs
      have := hnm.out u9 l1 e1
      subst this
      exact ⟨[x], [], [], ⟨[], x, rfl, ⟨l3, e2⟩, rfl⟩, rfl, rfl, rfl⟩)
    obtain ⟨q1, q2, q3, q4, q5, q6, q7, q8, q9, q10⟩ := hv9.lts
    obtain ⟨y0, y1, y2, y3, y4, y5, y6, y7, y8, _⟩ := cells_of9 hv9.box
    obtain ⟨e0, e1, e2, e3, e4, e5, e6, e7, e8, m0, m1, m2, m3, m4, m5, m6, m7, m8⟩ := cells_of9 hv9.out
    clear hv9
    generalize w.heap.size = gr at *
    go_wp2
    exact bodyPost_ret (v := sV 2 nm (.slice (some ⟨g, 0, none⟩) (n + 1) cap5) (.slice none 0 0) (.slice none 0 0) u.place) (by simp [results, Tryz.results61, go_sem, e0, e1, e2, e3, e4, e5, e6, e7, e8]) rfl hend
  case true =>
    obtain ⟨ao, n, cap, row, hn4, hT⟩ : ∃ ao n cap row, n ≤ 0 ∧ RT b ga ca ts gs w (gotS 4 [91] (st (lift Px.name (.inl rr)))) _ _ ao n cap row (.slice none 0 0) (.slice none 0 0) u.place ((· = [])) (· = []) (· = []) v6 := ⟨_, _, _, _, by omega, hv6⟩
    clear hv6
    obtain ⟨q1, q2, q3, q4, q5, q6, q7, q8, q9, q10⟩ := hT.lts
    have c6 := (cells_of9 hT.box).2.2.2.2.2.1
    have hRd := hT.rs.drewN 1
    go_wp2_with fail
    refine wpE_begin (S := fun w' => w'.cell? ⟨gs, 5, none⟩ = some (.slice ao n cap)) (N := fun j => decide (j < 8)) (by kernel_rfl) ?_
    have hS0 : v6.drew.cell? ⟨gs, 5, none⟩ = some (.slice ao n cap) := c6
    refine wpE_take (i := 0) (v := .pointer (some ⟨gs, 5, none⟩)) rfl (by kernel_rfl) (by kernel_rfl) (by kernel_rfl) (by kernel_rfl) (fun _ _ _ h => h) rfl (fun w' hS => by have s1 := hS; go_simp) hS0 ?_
    try simp only [Act.put, List.setIfInBounds_toArray, List.set_cons_zero, List.set_cons_succ]
    refine wpE_take (i := 2) (v := .pointer (some ⟨b, 0, none⟩)) rfl (by kernel_rfl) (by kernel_rfl) (by kernel_rfl) (by kernel_rfl) (fun _ _ _ h => h) rfl (fun w' hS => by have s1 := hS; go_simp) hS0 ?_
    try simp only [Act.put, List.setIfInBounds_toArray, List.set_cons_zero, List.set_cons_succ]
    refine wpE_take (i := 3) (v := .int .i64 d) rfl (by kernel_rfl) (by kernel_rfl) (by kernel_rfl) (by kernel_rfl) (fun _ _ _ h => h) rfl (fun w' hS => by have s1 := hS; go_simp) hS0 ?_
    try simp only [Act.put, List.setIfInBounds_toArray, List.set_cons_zero, List.set_cons_succ]
    refine wpE_take (i := 1) (v := .slice ao n cap) rfl (by kernel_rfl) (by kernel_rfl) (by kernel_rfl) (by kernel_rfl) (fun _ _ _ h => h) rfl (fun w' hS => by have s1 := hS; go_simp) hS0 ?_
    try simp only [Act.put, List.setIfInBounds_toArray, List.set_cons_zero, List.set_cons_succ]
    refine wpE_take (i := 4) (v := .int .i64 ((d : Int) + 1)) rfl (by kernel_rfl) (by kernel_rfl) (by kernel_rfl) (by kernel_rfl) (fun _ _ _ h => h) rfl (fun w' hS => by have s1 := hS; go_simp) hS0 ?_
    try simp only [Act.put, List.setIfInBounds_toArray, List.set_cons_zero, List.set_cons_succ]
    refine wpE_one (i := 5) (by kernel_rfl) rfl rfl (fun K hK => ?_)
    go_simp
    refine (hexp _ _ hRd).mono ?_
    rintro e w4 ⟨k2, o2, n2, t2, ao2, an2, ac2, p2, rfl, hR4, hg4, hx4⟩
    have hgQ4 : Fr b v6 w4 := (Fr.drewN b v6 1).trans hg4
    have h4 := hT.call hgQ4 hR4
    have hx5 : ∀ x, (∃ l', lift E (gotS 4 [91] (st (lift Px.name (.inl rr)))) = .inl (x, l')) → IsEx (fun k => gs + 1 ≤ k ∧ (Value.slice ao n cap).ownBlock ≠ some k) w4 x (exL k2 o2 n2 t2 (.slice ao2 an2 ac2) p2) := fun x ⟨l', hl'⟩ => (hx4 x l' hl').low (fun k h1 h2 => ⟨by have : v6.heap.size ≤ k := h1; omega, fun e => by have := (hT.own.lt k e).2; have : v6.heap.size ≤ k := h1; omega⟩)
    have y6 := (cells_of9 h4.box).2.2.2.2.2.1
    obtain ⟨l4, _⟩ := h4.lts
    refine hK _ _ (fun _ => y6) ?_
    clear hK K
    try simp only [Act.put, List.setIfInBounds_toArray, List.set_cons_zero, List.set_cons_succ]
    refine wpE_one (i := 6) (by kernel_rfl) rfl rfl (fun K hK => ?_)
    go_simp
    refine hK _ _ (fun _ => (World.cell?_of_block (w := w4) (heap_old l4)).trans y6) ?_
    clear hK K
    try simp only [Act.put, List.setIfInBounds_toArray, List.set_cons_zero, List.set_cons_succ]
    refine wpE_one (i := 7) (by kernel_rfl) rfl rfl (fun K hK => ?_)
    refine wp_append_lies _ (.tmp 48) (.tmp 53) 47 rfl (gs + 1) 51 i0 _ 8 96 Tryz.underlying47 hi0 hz0 hz1 hz2 rfl (by omega) (.slice ao n cap) n row rfl (h4.own.alloc _) ⟨w4.heap.size, 0, none⟩ 1 1 (exL k2 o2 n2 t2 (.slice ao2 an2 ac2) p2) rfl rfl (World.news_of_block (heap_new w4 _)) (by simp [Value.oneCell']) (by omega) (by unfold maxLen; omega) (by omega) (by simp; omega) (w4.heap.size + 1) (by simp) ?_
    intro g cap5 w5 hown5 hgrow hat5 hlt5
    have hG := grewB hgrow hat5
    have far : some gs ≠ (Value.slice ao n cap).ownBlock := fun e => by have := (h4.own.lt gs e.symm).1; omega
    have hb5 : w5.heap[gs]? = w4.heap[gs]? := hG.block gs l4 far
    have z6 : w5.cell? ⟨gs, 5, none⟩ = some (.slice ao n cap) := (World.cell?_of_block (w := w4) hb5).trans y6
    have zf : w5.frozen? ⟨gs, 5, none⟩ = false := (World.frozen?_of_block (w := w4) hb5).trans (by have h9 := h4.box; simp [World.frozen?, h9])
    refine hK _ _ (fun _ => z6) ?_
    clear hK K
    try simp only [Act.put, List.setIfInBounds_toArray, List.set_cons_zero, List.set_cons_succ]
    refine wpE_takeL (i := 8) (v := .pointer (some ⟨gs, 5, none⟩)) rfl (by kernel_rfl) (by kernel_rfl) (by kernel_rfl) rfl (fun _ _ _ h => h) rfl (fun w' => by go_simp) ?_
    try simp only [Act.put, List.setIfInBounds_toArray, List.set_cons_zero, List.set_cons_succ]
    refine wpE_one (i := 9) (by kernel_rfl) rfl rfl (fun K hK => ?_)
    go_simp
    refine hK _ _ (fun h => absurd h (by decide)) (wpE_done (by kernel_rfl) ?_)
    clear hK K
    have hv7 := h4.app hG hown5 hx5 rfl
    generalize w5.setCell ⟨gs, 5, none⟩ (.slice (some ⟨g, 0, none⟩) (n + 1) cap5) = v7 at *
    clear hT h4 hG hown5 hx5 hx4 hR4 hg4 hgQ4 hgrow hat5 hlt5 far hb5 z6 zf y6 l4 c6 hRd hS0 q1 q2 q3 q4 q5 q6 q7 q8 q9 q10
    obtain ⟨q1, q2, q3, q4, q5, q6, q7, q8, q9, q10⟩ := hv7.lts
    go_wp2_with fail
    clear q1 q2 q3 q4 q5 q6 q7 q8 q9 q10
    refine (need_any b ga ca ts _ [93] v7 hv7.rs).mono ?_
    rintro e v8 ⟨rfl, hRz, hgz⟩
    have hv8 := hv7.call hgz hRz
    clear hv7 hRz hgz
    obtain ⟨q1, q2, q3, q4, q5, q6, q7, q8, q9, q10⟩ := hv8.lts
    go_wp2_with fail
    clear q1 q2 q3 q4 q5 q6 q7 q8 q9 q10
    refine (need_any b ga ca ts _ [61] v8 hv8.rs).mono ?_
    rintro e v9 ⟨rfl, hRz, hgz⟩
    have hv9 := hv8.call hgz hRz
    clear hv8 hRz hgz
    obtain ⟨ao8, n8, cap8, row8, hn8, hT8⟩ : ∃ ao n cap row, n ≤ 1 ∧ RT b ga ca ts gs w (needS [61] (needS [93] (st (lift E (gotS 4 [91] (st (lift Px.name (.inl rr)))))))) _ _ ao n cap row (.slice none 0 0) (.slice none 0 0) u.place (fun xs => ∃ ys x, ((· = [])) ys ∧ (∃ l', lift E (gotS 4 [91] (st (lift Px.name (.inl rr)))) = .inl (x, l')) ∧ xs = ys ++ [x]) (· = []) (· = []) v9 := ⟨_, _, _, _, by omega, hv9⟩
    clear hv9
    have hv9 := hT8
    clear hT8
    obtain ⟨ao, n, cap, row, hn4, hT⟩ : ∃ ao n cap row, n ≤ 1 ∧ RT b ga ca ts gs w (needS [61] (needS [93] (st (lift E (gotS 4 [91] (st (lift Px.name (.inl rr)))))))) _ _ ao n cap row (.slice none 0 0) (.slice none 0 0) u.place (fun xs => ∃ ys x, ((· = [])) ys ∧ (∃ l', lift E (gotS 4 [91] (st (lift Px.name (.inl rr)))) = .inl (x, l')) ∧ xs = ys ++ [x]) (· = []) (· = []) v9 := ⟨_, _, _, _, by omega, hv9⟩
    clear hv9
    obtain ⟨q1, q2, q3, q4, q5, q6, q7, q8, q9, q10⟩ := hT.lts
    have c6 := (cells_of9 hT.box).2.2.2.2.2.1
    have hRd := hT.rs.drewN 1
    go_wp2_with fail
    refine wpE_begin (S := fun w' => w'.cell? ⟨gs, 5, none⟩ = some (.slice ao n cap)) (N := fun j => decide (j < 8)) (by kernel_rfl) ?_
    have hS0 : v9.drew.cell? ⟨gs, 5, none⟩ = some (.slice ao n cap) := c6
    refine wpE_take (i := 0) (v := .pointer (some ⟨gs, 5, none⟩)) rfl (by kernel_rfl) (by kernel_rfl) (by kernel_rfl) (by kernel_rfl) (fun _ _ _ h => h) rfl (fun w' hS => by have s1 := hS; go_simp) hS0 ?_
    try simp only [Act.put, List.setIfInBounds_toArray, List.set_cons_zero, List.set_cons_succ]
    refine wpE_take (i := 2) (v := .pointer (some ⟨b, 0, none⟩)) rfl (by kernel_rfl) (by kernel_rfl) (by kernel_rfl) (by kernel_rfl) (fun _ _ _ h => h) rfl (fun w' hS => by have s1 := hS; go_simp) hS0 ?_
    try simp only [Act.put, List.setIfInBounds_toArray, List.set_cons_zero, List.set_cons_succ]
    refine wpE_take (i := 3) (v := .int .i64 d) rfl (by kernel_rfl) (by kernel_rfl) (by kernel_rfl) (by kernel_rfl) (fun _ _ _ h => h) rfl (fun w' hS => by have s1 := hS; go_simp) hS0 ?_
    try simp only [Act.put, List.setIfInBounds_toArray, List.set_cons_zero, List.set_cons_succ]
    refine wpE_take (i := 1) (v := .slice ao n cap) rfl (by kernel_rfl) (by kernel_rfl) (by kernel_rfl) (by kernel_rfl) (fun _ _ _ h => h) rfl (fun w' hS => by have s1 := hS; go_simp) hS0 ?_
    try simp only [Act.put, List.setIfInBounds_toArray, List.set_cons_zero, List.set_cons_succ]
    refine wpE_take (i := 4) (v := .int .i64 ((d : Int) + 1)) rfl (by kernel_rfl) (by kernel_rfl) (by kernel_rfl) (by kernel_rfl) (fun _ _ _ h => h) rfl (fun w' hS => by have s1 := hS; go_simp) hS0 ?_
    try simp only [Act.put, List.setIfInBounds_toArray, List.set_cons_zero, List.set_cons_succ]
    refine wpE_one (i := 5) (by kernel_rfl) rfl rfl (fun K hK => ?_)
    go_simp
    refine (hexp _ _ hRd).mono ?_
    rintro e w4 ⟨k2, o2, n2, t2, ao2, an2, ac2, p2, rfl, hR4, hg4, hx4⟩
    have hgQ4 : Fr b v9 w4 := (Fr.drewN b v9 1).trans hg4
    have h4 := hT.call hgQ4 hR4
    have hx5 : ∀ x, (∃ l', lift E (needS [61] (needS [93] (st (lift E (gotS 4 [91] (st (lift Px.name (.inl rr)))))))) = .inl (x, l')) → IsEx (fun k => gs + 1 ≤ k ∧ (Value.slice ao n cap).ownBlock ≠ some k) w4 x (exL k2 o2 n2 t2 (.slice ao2 an2 ac2) p2) := fun x ⟨l', hl'⟩ => (hx4 x l' hl').low (fun k h1 h2 => ⟨by have : v9.heap.size ≤ k := h1; omega, fun e => by have := (hT.own.lt k e).2; have : v9.heap.size ≤ k := h1; omega⟩)
    have y6 := (cells_of9 h4.box).2.2.2.2.2.1
    obtain ⟨l4, _⟩ := h4.lts
    refine hK _ _ (fun _ => y6) ?_
    clear hK K
    try simp only [Act.put, List.setIfInBounds_toArray, List.set_cons_zero, List.set_cons_succ]
    refine wpE_one (i := 6) (by kernel_rfl) rfl rfl (fun K hK => ?_)
    go_simp
    refine hK _ _ (fun _ => (World.cell?_of_block (w := w4) (heap_old l4)).trans y6) ?_
    clear hK K
    try simp only [Act.put, List.setIfInBounds_toArray, List.set_cons_zero, List.set_cons_succ]
    refine wpE_one (i := 7) (by kernel_rfl) rfl rfl (fun K hK => ?_)
    refine wp_append_lies _ (.tmp 61) (.tmp 66) 47 rfl (gs + 1) 51 i0 _ 8 96 Tryz.underlying47 hi0 hz0 hz1 hz2 rfl (by omega) (.slice ao n cap) n row rfl (h4.own.alloc _) ⟨w4.heap.size, 0, none⟩ 1 1 (exL k2 o2 n2 t2 (.slice ao2 an2 ac2) p2) rfl rfl (World.news_of_block (heap_new w4 _)) (by simp [Value.oneCell']) (by omega) (by unfold maxLen; omega) (by omega) (by simp; omega) (w4.heap.size + 1) (by simp) ?_
    intro g cap5 w5 hown5 hgrow hat5 hlt5
    have hG := grewB hgrow hat5
    have far : some gs ≠ (Value.slice ao n cap).ownBlock := fun e => by have := (h4.own.lt gs e.symm).1; omega
    have hb5 : w5.heap[gs]? = w4.heap[gs]? := hG.block gs l4 far
    have z6 : w5.cell? ⟨gs, 5, none⟩ = some (.slice ao n cap) := (World.cell?_of_block (w := w4) hb5).trans y6
    have zf : w5.frozen? ⟨gs, 5, none⟩ = false := (World.frozen?_of_block (w := w4) hb5).trans (by have h9 := h4.box; simp [World.frozen?, h9])
    refine hK _ _ (fun _ => z6) ?_
    clear hK K
    try simp only [Act.put, List.setIfInBounds_toArray, List.set_cons_zero, List.set_cons_succ]
    refine wpE_takeL (i := 8) (v := .pointer (some ⟨gs, 5, none⟩)) rfl (by kernel_rfl) (by kernel_rfl) (by kernel_rfl) rfl (fun _ _ _ h => h) rfl (fun w' => by go_simp) ?_
    try simp only [Act.put, List.setIfInBounds_toArray, List.set_cons_zero, List.set_cons_succ]
    refine wpE_one (i := 9) (by kernel_rfl) rfl rfl (fun K hK => ?_)
    go_simp
    refine hK _ _ (fun h => absurd h (by decide)) (wpE_done (by kernel_rfl) ?_)
    clear hK K
    have hv10 := h4.app hG hown5 hx5 rfl
    generalize w5.setCell ⟨gs, 5, none⟩ (.slice (some ⟨g, 0, none⟩) (n + 1) cap5) = v10 at *
    clear hT h4 hG hown5 hx5 hx4 hR4 hg4 hgQ4 hgrow hat5 hlt5 far hb5 z6 zf y6 l4 c6 hRd hS0 q1 q2 q3 q4 q5 q6 q7 q8 q9 q10
    obtain ⟨q1, q2, q3, q4, q5, q6, q7, q8, q9, q10⟩ := hv10.lts
    go_wp2_with fail
    clear q1 q2 q3 q4 q5 q6 q7 q8 q9 q10
    refine (need_any b ga ca ts _ [59] v10 hv10.rs).mono ?_
    rintro e v11 ⟨rfl, hRz, hgz⟩
    have hv11 := hv10.call hgz hRz
    clear hv10 hRz hgz
    have hend := hv11.ret (q := Px.stmt E B) (l := u :: rr) (by rw [hU.out]; exact setB_st hse) (fun s l' hs => by
      rw [hU.out] at hs
      obtain ⟨u9, l1, y, l2, x, l3, e1, e2, e3, rfl⟩ := setB_val hse hs
      have := hnm.out u9 l1 e1
      subst this
      exact ⟨[y, x], [], [], ⟨[y], x, ⟨[], y, rfl, ⟨l2, e2⟩, rfl⟩, ⟨l3, e3⟩, rfl⟩, rfl, rfl, rfl⟩)
    obtain ⟨q1, q2, q3, q4, q5, q6, q7, q8, q9, q10⟩ := hv11.lts
    obtain ⟨y0, y1, y2, y3, y4, y5, y6, y7, y8, _⟩ := cells_of9 hv11.box
    obtain ⟨e0, e1, e2, e3, e4, e5, e6, e7, e8, m0, m1, m2, m3, m4, m5, m6, m7, m8⟩ := cells_of9 hv11.out
    clear hv11
    generalize w.heap.size = gr at *
    go_wp2
    exact bodyPost_ret (v := sV 2 nm (.slice (some ⟨g, 0, none⟩) (n + 1) cap5) (.slice none 0 0) (.slice none 0 0) u.place) (by simp [results, Tryz.results61, go_sem, e0, e1, e2, e3, e4, e5, e6, e7, e8]) rfl hend
end Go.Proofs.YtnmdnjdibdmodaaGreatDoor
/- The document's statement, walked: del. -/
namespace Go.Proofs.YtnmdnjdibdmodaaGreatDoor
open Go.RowKit
set_option linter.unusedSimpArgs false
set_option linter.unusedVariables false

set_option maxRecDepth 100000 in
set_option maxHeartbeats 16000000 in
theorem rst_del (b ga ca : Nat) (ts : List Lx.Tok) (d : Nat) (hd : d ≤ 24) (E : Px.P Px.Ex) (B : Px.P (List Px.St))
    (hexp : ∀ (S : RSt) (w : World), RS b ga ca ts S w → Calls Tryz.prog 79 #[.pointer (some ⟨b, 0, none⟩), .int .i64 ((d : Int) + 1)] w fun r w' => EP b ga ca ts E S w r w')
    (hblk : ∀ (S : RSt) (w : World), RS b ga ca ts S w → Calls Tryz.prog 41 #[.pointer (some ⟨b, 0, none⟩), .int .i64 ((d : Int) + 1)] w fun r w' => BP b ga ca ts B S w r w')
    (u : Lx.Tok) (rr : List Lx.Tok) (w : World) (h : RS b ga ca ts (.inl (u :: rr)) w)
    (s0 : Px.sees 1 [108, 101, 116] (u :: rr) = false)
    (s1 : Px.sees 1 [115, 101, 116] (u :: rr) = false)
    (s2 : Px.sees 1 [100, 101, 108] (u :: rr) = true) :
    Calls Tryz.prog 61 #[.pointer (some ⟨b, 0, none⟩), .int .i64 d] w fun r w' => SP b ga ca ts (Px.stmt E B) (.inl (u :: rr)) w r w' := by
  have hwr : IntKind.i64.wrap ((d : Int) + 1) = (d : Int) + 1 := IntWalk.i64_in _ (by omega)
  have hbl := (h.at).choose_spec.choose_spec.choose_spec.1.there
  have hgl := (h.at).choose_spec.choose_spec.choose_spec.1.gl
  have hb0 : Below w.heap.size w (w.alloc zeroS) := (Below.refl _ _).alloc (Nat.le_refl _) _
  have ho0 : (w.alloc zeroS).heap[w.heap.size]? = some zeroS := heap_new w _
  have hR0 := h.below hb0
  have hf0 : Fr b w (w.alloc zeroS) := Fr.of_below hb0
  have hsz0 : w.heap.size < (w.alloc zeroS).heap.size := by simp
  obtain ⟨Nl, hNl, hr1⟩ := hR0.2
  obtain ⟨hu, hN2, hlt⟩ := drop_head hNl
  have hltI : (Nl : Int) < (ts.length : Int) := by omega
  have t0 : seesS 1 [108, 101, 116] (.inl (u :: rr)) = false := s0
  have t1 : seesS 1 [115, 101, 116] (.inl (u :: rr)) = false := s1
  have t2 : seesS 1 [100, 101, 108] (.inl (u :: rr)) = true := s2
  have g2 : gotS 1 [100, 101, 108] (.inl (u :: rr)) = .inl rr := by simp only [gotS]; rw [if_pos s2]; rfl
  have hU : Aside (lift (Px.stmt E B) (.inl (u :: rr)) = delR E u.place rr) := by
    show _ = _
    simp only [lift]
    rw [stmt_forms, if_neg (by rw [s0]; simp), if_neg (by rw [s1]; simp), if_pos s2]; rfl
  obtain ⟨i0, hi0, hz0, hz1, hz2⟩ := info_parts exprInfo
  go_enter Tryz.func61, Tryz.ntmps61
  go_upto_region 1 with fail
  generalize w.alloc zeroS = wz at *
  obtain ⟨c0, c1, c2, c3, f1, f2, f3⟩ := hr1.cells
  obtain ⟨x0, x1, x2, x3⟩ := hr1.row Nl u hu
  have hb3 := hr1.there
  have hgl3 := hr1.gl
  have hfew := hr1.few
  clear hb0 h
  go_region
  have hbA : Below wz.heap.size wz ((wz.alloc (sO 0 [] (.slice none 0 0) (.slice none 0 0) (.slice none 0 0) u.place)).drew) := ((Below.refl _ _).alloc (Nat.le_refl _) _).trans ⟨rfl, rfl, rfl, Nat.le_refl _, fun _ _ => rfl⟩
  have hv0 : RT b ga ca ts wz.heap.size w (.inl (u :: rr)) 0 [] none 0 0 [] (.slice none 0 0) (.slice none 0 0) u.place (· = []) (· = []) (· = []) ((wz.alloc (sO 0 [] (.slice none 0 0) (.slice none 0 0) (.slice none 0 0) u.place)).drew) :=
    ⟨hR0.below hbA, heap_new wz _, (hbA.block _ hsz0).trans ho0, hf0.trans (Fr.of_below hbA), ⟨rfl, Or.inl ⟨rfl, rfl⟩⟩, fun xs hx => by rw [hx]; exact ⟨rfl, by rw [AllEx]⟩, fun xs hx => by rw [hx]; exact IsSts.nil' _ _, fun xs hx => by rw [hx]; exact IsSts.nil' _ _, ⟨hbl, hgl, hsz0⟩⟩
  clear c0 c1 c2 c3 f1 f2 f3 x0 x1 x2 x3 hbA hR0 hf0 hr1 hb3 hgl3 hsz0 ho0 hNl hu hN2 hlt hltI
  generalize (wz.alloc (sO 0 [] (.slice none 0 0) (.slice none 0 0) (.slice none 0 0) u.place)).drew = v0 at *
  generalize wz.heap.size = gs at *
  obtain ⟨q1, q2, q3, q4, q5, q6, q7, q8, q9, q10⟩ := hv0.lts
  go_wp2_with fail
  refine (got_any b ga ca ts _ 1 [108, 101, 116] v0 (by decide) hv0.rs).mono ?_
  rintro e v1 ⟨rfl, hRz, hgz⟩
  rw [gotS_no t0] at hRz
  rw [t0]
  have hv1 := hv0.call hgz hRz
  clear hv0 hRz hgz q1 q2 q3 q4 q5 q6 q7 q8 q9 q10
  obtain ⟨q1, q2, q3, q4, q5, q6, q7, q8, q9, q10⟩ := hv1.lts
  go_wp2_with fail
  refine (got_any b ga ca ts _ 1 [115, 101, 116] v1 (by decide) hv1.rs).mono ?_
  rintro e v2 ⟨rfl, hRz, hgz⟩
  rw [gotS_no t1] at hRz
  rw [t1]
  have hv2 := hv1.call hgz hRz
  clear hv1 hRz hgz q1 q2 q3 q4 q5 q6 q7 q8 q9 q10
  obtain ⟨q1, q2, q3, q4, q5, q6, q7, q8, q9, q10⟩ := hv2.lts
  go_wp2_with fail
  refine (got_any b ga ca ts _ 1 [100, 101, 108] v2 (by decide) hv2.rs).mono ?_
  rintro e v3 ⟨rfl, hRz, hgz⟩
  rw [g2] at hRz
  rw [t2]
  have hv3 := hv2.call hgz hRz
  clear hv2 hRz hgz q1 q2 q3 q4 q5 q6 q7 q8 q9 q10
  obtain ⟨q1, q2, q3, q4, q5, q6, q7, q8, q9, q10⟩ := hv3.lts
  have x0 := (cells_of9 hv3.box).1
  have f0 := (cells_of9 hv3.box).2.2.2.2.2.2.2.2.2.1
  have hv4 := hv3.set (j := 0) (v := .int .i64 3) (k' := 3) (nm' := []) (b1' := .slice none 0 0) (b2' := .slice none 0 0) (M1' := (· = [])) (M2' := (· = [])) (fun hh => by simp [World.setCell, Array.getElem?_modify, hh]) hv3.v1 hv3.v2
  go_wp2_with fail
  generalize v3.setCell ⟨gs, 0, none⟩ (.int .i64 3) = v4 at *
  clear hv3 x0 f0 q1 q2 q3 q4 q5 q6 q7 q8 q9 q10
  refine (rname_any b ga ca ts _ v4 hv4.rs).mono ?_
  rintro e v5 ⟨tk, nm, tm, tp, rfl, hRz, hgz, hnm⟩
  replace hnm : Aside (∀ u l', lift Px.name (.inl rr) = .inl (u, l') → u = ⟨tk, nm, tm, tp⟩) := hnm
  have hf1 := tokF1
  have hv5 := hv4.call hgz hRz
  clear hv4 hRz hgz
  obtain ⟨q1, q2, q3, q4, q5, q6, q7, q8, q9, q10⟩ := hv5.lts
  have x1 := (cells_of9 hv5.box).2.1
  have f1 := (cells_of9 hv5.box).2.2.2.2.2.2.2.2.2.2.1
  have hv6 := hv5.set (j := 1) (v := .string ⟨nm.toArray⟩) (k' := 3) (nm' := nm) (b1' := .slice none 0 0) (b2' := .slice none 0 0) (M1' := (· = [])) (M2' := (· = [])) (fun hh => by simp [World.setCell, Array.getElem?_modify, hh]) hv5.v1 hv5.v2
  go_wp2_with fail
  generalize v5.setCell ⟨gs, 1, none⟩ (.string ⟨nm.toArray⟩) = v6 at *
  clear hv5 x1 f1 hf1 q1 q2 q3 q4 q5 q6 q7 q8 q9 q10
  refine (need_any b ga ca ts _ [91] v6 hv6.rs).mono ?_
  rintro e v7 ⟨rfl, hRz, hgz⟩
  have hv7 := hv6.call hgz hRz
  clear hv6 hRz hgz
  obtain ⟨ao, n, cap, row, hn4, hT⟩ : ∃ ao n cap row, n ≤ 0 ∧ RT b ga ca ts gs w (needS [91] (st (lift Px.name (.inl rr)))) _ _ ao n cap row (.slice none 0 0) (.slice none 0 0) u.place ((· = [])) (· = []) (· = []) v7 := ⟨_, _, _, _, by omega, hv7⟩
  clear hv7
  obtain ⟨q1, q2, q3, q4, q5, q6, q7, q8, q9, q10⟩ := hT.lts
  have c6 := (cells_of9 hT.box).2.2.2.2.2.1
  have hRd := hT.rs.drewN 1
  go_wp2_with fail
  refine wpE_begin (S := fun w' => w'.cell? ⟨gs, 5, none⟩ = some (.slice ao n cap)) (N := fun j => decide (j < 8)) (by kernel_rfl) ?_
  have hS0 : v7.drew.cell? ⟨gs, 5, none⟩ = some (.slice ao n cap) := c6
  refine wpE_take (i := 0) (v := .pointer (some ⟨gs, 5, none⟩)) rfl (by kernel_rfl) (by kernel_rfl) (by kernel_rfl) (by kernel_rfl) (fun _ _ _ h => h) rfl (fun w' hS => by have s1 := hS; go_simp) hS0 ?_
  try simp only [Act.put, List.setIfInBounds_toArray, List.set_cons_zero, List.set_cons_succ]
  refine wpE_take (i := 2) (v := .pointer (some ⟨b, 0, none⟩)) rfl (by kernel_rfl) (by kernel_rfl) (by kernel_rfl) (by kernel_rfl) (fun _ _ _ h => h) rfl (fun w' hS => by have s1 := hS; go_simp) hS0 ?_
  try simp only [Act.put, List.setIfInBounds_toArray, List.set_cons_zero, List.set_cons_succ]
  refine wpE_take (i := 3) (v := .int .i64 d) rfl (by kernel_rfl) (by kernel_rfl) (by kernel_rfl) (by kernel_rfl) (fun _ _ _ h => h) rfl (fun w' hS => by have s1 := hS; go_simp) hS0 ?_
  try simp only [Act.put, List.setIfInBounds_toArray, List.set_cons_zero, List.set_cons_succ]
  refine wpE_take (i := 1) (v := .slice ao n cap) rfl (by kernel_rfl) (by kernel_rfl) (by kernel_rfl) (by kernel_rfl) (fun _ _ _ h => h) rfl (fun w' hS => by have s1 := hS; go_simp) hS0 ?_
  try simp only [Act.put, List.setIfInBounds_toArray, List.set_cons_zero, List.set_cons_succ]
  refine wpE_take (i := 4) (v := .int .i64 ((d : Int) + 1)) rfl (by kernel_rfl) (by kernel_rfl) (by kernel_rfl) (by kernel_rfl) (fun _ _ _ h => h) rfl (fun w' hS => by have s1 := hS; go_simp) hS0 ?_
  try simp only [Act.put, List.setIfInBounds_toArray, List.set_cons_zero, List.set_cons_succ]
  refine wpE_one (i := 5) (by kernel_rfl) rfl rfl (fun K hK => ?_)
  go_simp
  refine (hexp _ _ hRd).mono ?_
  rintro e w4 ⟨k2, o2, n2, t2, ao2, an2, ac2, p2, rfl, hR4, hg4, hx4⟩
  have hgQ4 : Fr b v7 w4 := (Fr.drewN b v7 1).trans hg4
  have h4 := hT.call hgQ4 hR4
  have hx5 : ∀ x, (∃ l', lift E (needS [91] (st (lift Px.name (.inl rr)))) = .inl (x, l')) → IsEx (fun k => gs + 1 ≤ k ∧ (Value.slice ao n cap).ownBlock ≠ some k) w4 x (exL k2 o2 n2 t2 (.slice ao2 an2 ac2) p2) := fun x ⟨l', hl'⟩ => (hx4 x l' hl').low (fun k h1 h2 => ⟨by have : v7.heap.size ≤ k := h1; omega, fun e => by have := (hT.own.lt k e).2; have : v7.heap.size ≤ k := h1; omega⟩)
  have y6 := (cells_of9 h4.box).2.2.2.2.2.1
  obtain ⟨l4, _⟩ := h4.lts
  refine hK _ _ (fun _ => y6) ?_
  clear hK K
  try simp only [Act.put, List.setIfInBounds_toArray, List.set_cons_zero, List.set_cons_succ]
  refine wpE_one (i := 6) (by kernel_rfl) rfl rfl (fun K hK => ?_)
  go_simp
  refine hK _ _ (fun _ => (World.cell?_of_block (w := w4) (heap_old l4)).trans y6) ?_
  clear hK K
  try simp only [Act.put, List.setIfInBounds_toArray, List.set_cons_zero, List.set_cons_succ]
  refine wpE_one (i := 7) (by kernel_rfl) rfl rfl (fun K hK => ?_)
  refine wp_append_lies _ (.tmp 81) (.tmp 86) 47 rfl (gs + 1) 51 i0 _ 8 96 Tryz.underlying47 hi0 hz0 hz1 hz2 rfl (by omega) (.slice ao n cap) n row rfl (h4.own.alloc _) ⟨w4.heap.size, 0, none⟩ 1 1 (exL k2 o2 n2 t2 (.slice ao2 an2 ac2) p2) rfl rfl (World.news_of_block (heap_new w4 _)) (by simp [Value.oneCell']) (by omega) (by unfold maxLen; omega) (by omega) (by simp; omega) (w4.heap.size + 1) (by simp) ?_
  intro g cap5 w5 hown5 hgrow hat5 hlt5
  have hG := grewB hgrow hat5
  have far : some gs ≠ (Value.slice ao n cap).ownBlock := fun e => by have := (h4.own.lt gs e.symm).1; omega
  have hb5 : w5.heap[gs]? = w4.heap[gs]? := hG.block gs l4 far
  have z6 : w5.cell? ⟨gs, 5, none⟩ = some (.slice ao n cap) := (World.cell?_of_block (w := w4) hb5).trans y6
  have zf : w5.frozen? ⟨gs, 5, none⟩ = false := (World.frozen?_of_block (w := w4) hb5).trans (by have h9 := h4.box; simp [World.frozen?, h9])
  refine hK _ _ (fun _ => z6) ?_
  clear hK K
  try simp only [Act.put, List.setIfInBounds_toArray, List.set_cons_zero, List.set_cons_succ]
  refine wpE_takeL (i := 8) (v := .pointer (some ⟨gs, 5, none⟩)) rfl (by kernel_rfl) (by kernel_rfl) (by kernel_rfl) rfl (fun _ _ _ h => h) rfl (fun w' => by go_simp) ?_
  try simp only [Act.put, List.setIfInBounds_toArray, List.set_cons_zero, List.set_cons_succ]
  refine wpE_one (i := 9) (by kernel_rfl) rfl rfl (fun K hK => ?_)
  go_simp
  refine hK _ _ (fun h => absurd h (by decide)) (wpE_done (by kernel_rfl) ?_)
  clear hK K
  have hv8 := h4.app hG hown5 hx5 rfl
  generalize w5.setCell ⟨gs, 5, none⟩ (.slice (some ⟨g, 0, none⟩) (n + 1) cap5) = v8 at *
  clear hT h4 hG hown5 hx5 hx4 hR4 hg4 hgQ4 hgrow hat5 hlt5 far hb5 z6 zf y6 l4 c6 hRd hS0 q1 q2 q3 q4 q5 q6 q7 q8 q9 q10
  obtain ⟨q1, q2, q3, q4, q5, q6, q7, q8, q9, q10⟩ := hv8.lts
  go_wp2_with fail
  clear q1 q2 q3 q4 q5 q6 q7 q8 q9 q10
  refine (need_any b ga ca ts _ [93] v8 hv8.rs).mono ?_
  rintro e v9 ⟨rfl, hRz, hgz⟩
  have hv9 := hv8.call hgz hRz
  clear hv8 hRz hgz
  obtain ⟨q1, q2, q3, q4, q5, q6, q7, q8, q9, q10⟩ := hv9.lts
  go_wp2_with fail
  clear q1 q2 q3 q4 q5 q6 q7 q8 q9 q10
  refine (need_any b ga ca ts _ [59] v9 hv9.rs).mono ?_
  rintro e v10 ⟨rfl, hRz, hgz⟩
  have hv10 := hv9.call hgz hRz
  clear hv9 hRz hgz
  have hend := hv10.ret (q := Px.stmt E B) (l := u :: rr) (by rw [hU.out]; exact del_st E u.place rr) (fun s l' hs => by
    rw [hU.out] at hs
    obtain ⟨u9, l1, x, l3, e1, e2, rfl⟩ := del_val hs
    have := hnm.out u9 l1 e1
    subst this
    exact ⟨[x], [], [], ⟨[], x, rfl, ⟨l3, e2⟩, rfl⟩, rfl, rfl, rfl⟩)
  obtain ⟨q1, q2, q3, q4, q5, q6, q7, q8, q9, q10⟩ := hv10.lts
  obtain ⟨y0, y1, y2, y3, y4, y5, y6, y7, y8, _⟩ := cells_of9 hv10.box
  obtain ⟨e0, e1, e2, e3, e4, e5, e6, e7, e8, m0, m1, m2, m3, m4, m5, m6, m7, m8⟩ := cells_of9 hv10.out
  clear hv10
  generalize w.heap.size = gr at *
  go_wp2
  exact bodyPost_ret (v := sV 3 nm (.slice (some ⟨g, 0, none⟩) (n + 1) cap5) (.slice none 0 0) (.slice none 0 0) u.place) (by simp [results, Tryz.results61, go_sem, e0, e1, e2, e3, e4, e5, e6, e7, e8]) rfl hend
end Go.Proofs.YtnmdnjdibdmodaaGreatDoor
/- The document's statement, walked: if. -/
namespace Go.Proofs.YtnmdnjdibdmodaaGreatDoor
open Go.RowKit
set_option linter.unusedSimpArgs false
set_option linter.unusedVariables false

set_option maxRecDepth 100000 in
set_option maxHeartbeats 16000000 in
theorem rst_if (b ga ca : Nat) (ts : List Lx.Tok) (d : Nat) (hd : d ≤ 24) (E : Px.P Px.Ex) (B : Px.P (List Px.St))
    (hexp : ∀ (S : RSt) (w : World), RS b ga ca ts S w → Calls Tryz.prog 79 #[.pointer (some ⟨b, 0, none⟩), .int .i64 ((d : Int) + 1)] w fun r w' => EP b ga ca ts E S w r w')
    (hblk : ∀ (S : RSt) (w : World), RS b ga ca ts S w → Calls Tryz.prog 41 #[.pointer (some ⟨b, 0, none⟩), .int .i64 ((d : Int) + 1)] w fun r w' => BP b ga ca ts B S w r w')
    (u : Lx.Tok) (rr : List Lx.Tok) (w : World) (h : RS b ga ca ts (.inl (u :: rr)) w)
    (s0 : Px.sees 1 [108, 101, 116] (u :: rr) = false)
    (s1 : Px.sees 1 [115, 101, 116] (u :: rr) = false)
    (s2 : Px.sees 1 [100, 101, 108] (u :: rr) = false)
    (s3 : Px.sees 1 [105, 102] (u :: rr) = true) :
    Calls Tryz.prog 61 #[.pointer (some ⟨b, 0, none⟩), .int .i64 d] w fun r w' => SP b ga ca ts (Px.stmt E B) (.inl (u :: rr)) w r w' := by
  have hwr : IntKind.i64.wrap ((d : Int) + 1) = (d : Int) + 1 := IntWalk.i64_in _ (by omega)
  have hbl := (h.at).choose_spec.choose_spec.choose_spec.1.there
  have hgl := (h.at).choose_spec.choose_spec.choose_spec.1.gl
  have hb0 : Below w.heap.size w (w.alloc zeroS) := (Below.refl _ _).alloc (Nat.le_refl _) _
  have ho0 : (w.alloc zeroS).heap[w.heap.size]? = some zeroS := heap_new w _
  have hR0 := h.below hb0
  have hf0 : Fr b w (w.alloc zeroS) := Fr.of_below hb0
  have hsz0 : w.heap.size < (w.alloc zeroS).heap.size := by simp
  obtain ⟨Nl, hNl, hr1⟩ := hR0.2
  obtain ⟨hu, hN2, hlt⟩ := drop_head hNl
  have hltI : (Nl : Int) < (ts.length : Int) := by omega
  have t0 : seesS 1 [108, 101, 116] (.inl (u :: rr)) = false := s0
  have t1 : seesS 1 [115, 101, 116] (.inl (u :: rr)) = false := s1
  have t2 : seesS 1 [100, 101, 108] (.inl (u :: rr)) = false := s2
  have t3 : seesS 1 [105, 102] (.inl (u :: rr)) = true := s3
  have g3 : gotS 1 [105, 102] (.inl (u :: rr)) = .inl rr := by simp only [gotS]; rw [if_pos s3]; rfl
  have hU : Aside (lift (Px.stmt E B) (.inl (u :: rr)) = ifR E B u.place rr) := by
    show _ = _
    simp only [lift]
    rw [stmt_forms, if_neg (by rw [s0]; simp), if_neg (by rw [s1]; simp), if_neg (by rw [s2]; simp), if_pos s3]; rfl
  obtain ⟨i0, hi0, hz0, hz1, hz2⟩ := info_parts exprInfo
  go_enter Tryz.func61, Tryz.ntmps61
  go_upto_region 1 with fail
  generalize w.alloc zeroS = wz at *
  obtain ⟨c0, c1, c2, c3, f1, f2, f3⟩ := hr1.cells
  obtain ⟨x0, x1, x2, x3⟩ := hr1.row Nl u hu
  have hb3 := hr1.there
  have hgl3 := hr1.gl
  have hfew := hr1.few
  clear hb0 h
  go_region
  have hbA : Below wz.heap.size wz ((wz.alloc (sO 0 [] (.slice none 0 0) (.slice none 0 0) (.slice none 0 0) u.place)).drew) := ((Below.refl _ _).alloc (Nat.le_refl _) _).trans ⟨rfl, rfl, rfl, Nat.le_refl _, fun _ _ => rfl⟩
  have hv0 : RT b ga ca ts wz.heap.size w (.inl (u :: rr)) 0 [] none 0 0 [] (.slice none 0 0) (.slice none 0 0) u.place (· = []) (· = []) (· = []) ((wz.alloc (sO 0 [] (.slice none 0 0) (.slice none 0 0) (.slice none 0 0) u.place)).drew) :=
    ⟨hR0.below hbA, heap_new wz _, (hbA.block _ hsz0).trans ho0, hf0.trans (Fr.of_below hbA), ⟨rfl, Or.inl ⟨rfl, rfl⟩⟩, fun xs hx => by rw [hx]; exact ⟨rfl, by rw [AllEx]⟩, fun xs hx => by rw [hx]; exact IsSts.nil' _ _, fun xs hx => by rw [hx]; exact IsSts.nil' _ _, ⟨hbl, hgl, hsz0⟩⟩
  clear c0 c1 c2 c3 f1 f2 f3 x0 x1 x2 x3 hbA hR0 hf0 hr1 hb3 hgl3 hsz0 ho0 hNl hu hN2 hlt hltI
  generalize (wz.alloc (sO 0 [] (.slice none 0 0) (.slice none 0 0) (.slice none 0 0) u.place)).drew = v0 at *
  generalize wz.heap.size = gs at *
  obtain ⟨q1, q2, q3, q4, q5, q6, q7, q8, q9, q10⟩ := hv0.lts
  go_wp2_with fail
  refine (got_any b ga ca ts _ 1 [108, 101, 116] v0 (by decide) hv0.rs).mono ?_
  rintro e v1 ⟨rfl, hRz, hgz⟩
  rw [gotS_no t0] at hRz
  rw [t0]
  have hv1 := hv0.call hgz hRz
  clear hv0 hRz hgz q1 q2 q3 q4 q5 q6 q7 q8 q9 q10
  obtain ⟨q1, q2, q3, q4, q5, q6, q7, q8, q9, q10⟩ := hv1.lts
  go_wp2_with fail
  refine (got_any b ga ca ts _ 1 [115, 101, 116] v1 (by decide) hv1.rs).mono ?_
  rintro e v2 ⟨rfl, hRz, hgz⟩
  rw [gotS_no t1] at hRz
  rw [t1]
  have hv2 := hv1.call hgz hRz
  clear hv1 hRz hgz q1 q2 q3 q4 q5 q6 q7 q8 q9 q10
  obtain ⟨q1, q2, q3, q4, q5, q6, q7, q8, q9, q10⟩ := hv2.lts
  go_wp2_with fail
  refine (got_any b ga ca ts _ 1 [100, 101, 108] v2 (by decide) hv2.rs).mono ?_
  rintro e v3 ⟨rfl, hRz, hgz⟩
  rw [gotS_no t2] at hRz
  rw [t2]
  have hv3 := hv2.call hgz hRz
  clear hv2 hRz hgz q1 q2 q3 q4 q5 q6 q7 q8 q9 q10
  obtain ⟨q1, q2, q3, q4, q5, q6, q7, q8, q9, q10⟩ := hv3.lts
  go_wp2_with fail
  refine (got_any b ga ca ts _ 1 [105, 102] v3 (by decide) hv3.rs).mono ?_
  rintro e v4 ⟨rfl, hRz, hgz⟩
  rw [g3] at hRz
  rw [t3]
  have hv4 := hv3.call hgz hRz
  clear hv3 hRz hgz q1 q2 q3 q4 q5 q6 q7 q8 q9 q10
  obtain ⟨q1, q2, q3, q4, q5, q6, q7, q8, q9, q10⟩ := hv4.lts
  have x0 := (cells_of9 hv4.box).1
  have f0 := (cells_of9 hv4.box).2.2.2.2.2.2.2.2.2.1
  have hv5 := hv4.set (j := 0) (v := .int .i64 4) (k' := 4) (nm' := []) (b1' := .slice none 0 0) (b2' := .slice none 0 0) (M1' := (· = [])) (M2' := (· = [])) (fun hh => by simp [World.setCell, Array.getElem?_modify, hh]) hv4.v1 hv4.v2
  go_wp2_with fail
  generalize v4.setCell ⟨gs, 0, none⟩ (.int .i64 4) = v5 at *
  clear hv4 x0 f0 q1 q2 q3 q4 q5 q6 q7 q8 q9 q10
  obtain ⟨ao, n, cap, row, hn4, hT⟩ : ∃ ao n cap row, n ≤ 0 ∧ RT b ga ca ts gs w (.inl rr) _ _ ao n cap row (.slice none 0 0) (.slice none 0 0) u.place ((· = [])) (· = []) (· = []) v5 := ⟨_, _, _, _, by omega, hv5⟩
  clear hv5
  obtain ⟨q1, q2, q3, q4, q5, q6, q7, q8, q9, q10⟩ := hT.lts
  have c6 := (cells_of9 hT.box).2.2.2.2.2.1
  have hRd := hT.rs.drewN 1
  refine wpE_begin (S := fun w' => w'.cell? ⟨gs, 5, none⟩ = some (.slice ao n cap)) (N := fun j => decide (j < 8)) (by kernel_rfl) ?_
  have hS0 : v5.drew.cell? ⟨gs, 5, none⟩ = some (.slice ao n cap) := c6
  refine wpE_take (i := 0) (v := .pointer (some ⟨gs, 5, none⟩)) rfl (by kernel_rfl) (by kernel_rfl) (by kernel_rfl) (by kernel_rfl) (fun _ _ _ h => h) rfl (fun w' hS => by have s1 := hS; go_simp) hS0 ?_
  try simp only [Act.put, List.setIfInBounds_toArray, List.set_cons_zero, List.set_cons_succ]
  refine wpE_take (i := 2) (v := .pointer (some ⟨b, 0, none⟩)) rfl (by kernel_rfl) (by kernel_rfl) (by kernel_rfl) (by kernel_rfl) (fun _ _ _ h => h) rfl (fun w' hS => by have s1 := hS; go_simp) hS0 ?_
  try simp only [Act.put, List.setIfInBounds_toArray, List.set_cons_zero, List.set_cons_succ]
  refine wpE_take (i := 3) (v := .int .i64 d) rfl (by kernel_rfl) (by kernel_rfl) (by kernel_rfl) (by kernel_rfl) (fun _ _ _ h => h) rfl (fun w' hS => by have s1 := hS; go_simp) hS0 ?_
  try simp only [Act.put, List.setIfInBounds_toArray, List.set_cons_zero, List.set_cons_succ]
  refine wpE_take (i := 1) (v := .slice ao n cap) rfl (by kernel_rfl) (by kernel_rfl) (by kernel_rfl) (by kernel_rfl) (fun _ _ _ h => h) rfl (fun w' hS => by have s1 := hS; go_simp) hS0 ?_
  try simp only [Act.put, List.setIfInBounds_toArray, List.set_cons_zero, List.set_cons_succ]
  refine wpE_take (i := 4) (v := .int .i64 ((d : Int) + 1)) rfl (by kernel_rfl) (by kernel_rfl) (by kernel_rfl) (by kernel_rfl) (fun _ _ _ h => h) rfl (fun w' hS => by have s1 := hS; go_simp) hS0 ?_
  try simp only [Act.put, List.setIfInBounds_toArray, List.set_cons_zero, List.set_cons_succ]
  refine wpE_one (i := 5) (by kernel_rfl) rfl rfl (fun K hK => ?_)
  go_simp
  refine (hexp _ _ hRd).mono ?_
  rintro e w4 ⟨k2, o2, n2, t2, ao2, an2, ac2, p2, rfl, hR4, hg4, hx4⟩
  have hgQ4 : Fr b v5 w4 := (Fr.drewN b v5 1).trans hg4
  have h4 := hT.call hgQ4 hR4
  have hx5 : ∀ x, (∃ l', lift E (.inl rr) = .inl (x, l')) → IsEx (fun k => gs + 1 ≤ k ∧ (Value.slice ao n cap).ownBlock ≠ some k) w4 x (exL k2 o2 n2 t2 (.slice ao2 an2 ac2) p2) := fun x ⟨l', hl'⟩ => (hx4 x l' hl').low (fun k h1 h2 => ⟨by have : v5.heap.size ≤ k := h1; omega, fun e => by have := (hT.own.lt k e).2; have : v5.heap.size ≤ k := h1; omega⟩)
  have y6 := (cells_of9 h4.box).2.2.2.2.2.1
  obtain ⟨l4, _⟩ := h4.lts
  refine hK _ _ (fun _ => y6) ?_
  clear hK K
  try simp only [Act.put, List.setIfInBounds_toArray, List.set_cons_zero, List.set_cons_succ]
  refine wpE_one (i := 6) (by kernel_rfl) rfl rfl (fun K hK => ?_)
  go_simp
  refine hK _ _ (fun _ => (World.cell?_of_block (w := w4) (heap_old l4)).trans y6) ?_
  clear hK K
  try simp only [Act.put, List.setIfInBounds_toArray, List.set_cons_zero, List.set_cons_succ]
  refine wpE_one (i := 7) (by kernel_rfl) rfl rfl (fun K hK => ?_)
  refine wp_append_lies _ (.tmp 97) (.tmp 102) 47 rfl (gs + 1) 51 i0 _ 8 96 Tryz.underlying47 hi0 hz0 hz1 hz2 rfl (by omega) (.slice ao n cap) n row rfl (h4.own.alloc _) ⟨w4.heap.size, 0, none⟩ 1 1 (exL k2 o2 n2 t2 (.slice ao2 an2 ac2) p2) rfl rfl (World.news_of_block (heap_new w4 _)) (by simp [Value.oneCell']) (by omega) (by unfold maxLen; omega) (by omega) (by simp; omega) (w4.heap.size + 1) (by simp) ?_
  intro g cap5 w5 hown5 hgrow hat5 hlt5
  have hG := grewB hgrow hat5
  have far : some gs ≠ (Value.slice ao n cap).ownBlock := fun e => by have := (h4.own.lt gs e.symm).1; omega
  have hb5 : w5.heap[gs]? = w4.heap[gs]? := hG.block gs l4 far
  have z6 : w5.cell? ⟨gs, 5, none⟩ = some (.slice ao n cap) := (World.cell?_of_block (w := w4) hb5).trans y6
  have zf : w5.frozen? ⟨gs, 5, none⟩ = false := (World.frozen?_of_block (w := w4) hb5).trans (by have h9 := h4.box; simp [World.frozen?, h9])
  refine hK _ _ (fun _ => z6) ?_
  clear hK K
  try simp only [Act.put, List.setIfInBounds_toArray, List.set_cons_zero, List.set_cons_succ]
  refine wpE_takeL (i := 8) (v := .pointer (some ⟨gs, 5, none⟩)) rfl (by kernel_rfl) (by kernel_rfl) (by kernel_rfl) rfl (fun _ _ _ h => h) rfl (fun w' => by go_simp) ?_
  try simp only [Act.put, List.setIfInBounds_toArray, List.set_cons_zero, List.set_cons_succ]
  refine wpE_one (i := 9) (by kernel_rfl) rfl rfl (fun K hK => ?_)
  go_simp
  refine hK _ _ (fun h => absurd h (by decide)) (wpE_done (by kernel_rfl) ?_)
  clear hK K
  have hv6 := h4.app hG hown5 hx5 rfl
  generalize w5.setCell ⟨gs, 5, none⟩ (.slice (some ⟨g, 0, none⟩) (n + 1) cap5) = v6 at *
  clear hT h4 hG hown5 hx5 hx4 hR4 hg4 hgQ4 hgrow hat5 hlt5 far hb5 z6 zf y6 l4 c6 hRd hS0 q1 q2 q3 q4 q5 q6 q7 q8 q9 q10
  obtain ⟨q1, q2, q3, q4, q5, q6, q7, q8, q9, q10⟩ := hv6.lts
  obtain ⟨N9, pp, er, hr9, hcase⟩ := hv6.rs.at
  obtain ⟨c0, c1, c2, c3, f1, f2, f3⟩ := hr9.cells
  clear hr9
  rcases hcase with ⟨rfl, l3, hl3⟩ | ⟨h0, hl3⟩
  case inl =>
    rw [hl3] at hv6
    go_wp2_with fail
    refine (hblk _ v6 hv6.rs).mono ?_
    rintro e v7 ⟨ao6, an6, ac6, rfl, hRz, hgz, hvz⟩
    have hv7 := hv6.call hgz hRz
    replace hvz : ∀ xs, (∃ l', lift B (.inl l3) = .inl (xs, l')) → IsSts (From (gs + 1)) v7 xs (.slice ao6 an6 ac6) := fun xs ⟨l', hl'⟩ => (hvz xs l' hl').base' (from_mono (by omega))
    clear hv6 hRz hgz q1 q2 q3 q4 q5 q6 q7 q8 q9 q10
    obtain ⟨q1, q2, q3, q4, q5, q6, q7, q8, q9, q10⟩ := hv7.lts
    obtain ⟨x0, x1, x2, x3, x4, x5, x6, x7, x8, f0, f1, f2, f3, f4, f5, f6, f7, f8⟩ := cells_of9 hv7.box
    clear x0 x1 x2 x3 x4 x5 x8 f0 f1 f2 f3 f4 f5 f8
    have hv8 := hv7.set (j := 6) (v := .slice ao6 an6 ac6) (k' := 4) (nm' := []) (b1' := .slice ao6 an6 ac6) (b2' := .slice none 0 0) (M1' := fun xs => ∃ l', lift B (.inl l3) = .inl (xs, l')) (M2' := (· = [])) (fun hh => by simp [World.setCell, Array.getElem?_modify, hh]) hvz hv7.v2
    go_wp2_with fail
    generalize v7.setCell ⟨gs, 6, none⟩ (.slice ao6 an6 ac6) = v8 at *
    clear hv7 x6 x7 f6 f7 hvz q1 q2 q3 q4 q5 q6 q7 q8 q9 q10
    refine (got_any b ga ca ts _ 1 [101, 108, 115, 101] v8 (by decide) hv8.rs).mono ?_
    rintro e v9 ⟨rfl, hRz, hgz⟩
    have hv9 := hv8.call hgz hRz
    clear hv8 hRz hgz
    rcases hse : seesS 1 [101, 108, 115, 101] (st (lift B (.inl l3))) with _ | _
    case false =>
      rw [gotS_no hse] at hv9
      obtain ⟨x9, ex, est, ev⟩ := if_one (pl := u.place) hl3 hse
      have hend := hv9.ret (q := Px.stmt E B) (l := u :: rr) (by rw [hU.out]; exact est) (fun s l' hs => by
        rw [hU.out] at hs
        obtain ⟨bs, l2, e2, rfl⟩ := ev s l' hs
        exact ⟨[x9], bs, [], ⟨[], x9, rfl, ⟨l3, ex⟩, rfl⟩, ⟨l2, e2⟩, rfl, rfl⟩)
      obtain ⟨q1, q2, q3, q4, q5, q6, q7, q8, q9, q10⟩ := hv9.lts
      obtain ⟨y0, y1, y2, y3, y4, y5, y6, y7, y8, _⟩ := cells_of9 hv9.box
      obtain ⟨e0, e1, e2, e3, e4, e5, e6, e7, e8, m0, m1, m2, m3, m4, m5, m6, m7, m8⟩ := cells_of9 hv9.out
      clear hv9
      generalize w.heap.size = gr at *
      go_wp2
      exact bodyPost_ret (v := sV 4 [] (.slice (some ⟨g, 0, none⟩) (n + 1) cap5) (.slice ao6 an6 ac6) (.slice none 0 0) u.place) (by simp [results, Tryz.results61, go_sem, e0, e1, e2, e3, e4, e5, e6, e7, e8]) rfl hend
    case true =>
      obtain ⟨q1, q2, q3, q4, q5, q6, q7, q8, q9, q10⟩ := hv9.lts
      go_wp2_with fail
      refine (hblk _ v9 hv9.rs).mono ?_
      rintro e v10 ⟨ao7, an7, ac7, rfl, hRz, hgz, hvz⟩
      have hv10 := hv9.call hgz hRz
      replace hvz : ∀ xs, (∃ l', lift B (gotS 1 [101, 108, 115, 101] (st (lift B (.inl l3)))) = .inl (xs, l')) → IsSts (From (gs + 1)) v10 xs (.slice ao7 an7 ac7) := fun xs ⟨l', hl'⟩ => (hvz xs l' hl').base' (from_mono (by omega))
      clear hv9 hRz hgz q1 q2 q3 q4 q5 q6 q7 q8 q9 q10
      obtain ⟨q1, q2, q3, q4, q5, q6, q7, q8, q9, q10⟩ := hv10.lts
      obtain ⟨x0, x1, x2, x3, x4, x5, x6, x7, x8, f0, f1, f2, f3, f4, f5, f6, f7, f8⟩ := cells_of9 hv10.box
      clear x0 x1 x2 x3 x4 x5 x8 f0 f1 f2 f3 f4 f5 f8
      have hv11 := hv10.set (j := 7) (v := .slice ao7 an7 ac7) (k' := 4) (nm' := []) (b1' := .slice ao6 an6 ac6) (b2' := .slice ao7 an7 ac7) (M2' := fun xs => ∃ l', lift B (gotS 1 [101, 108, 115, 101] (st (lift B (.inl l3)))) = .inl (xs, l')) (fun hh => by simp [World.setCell, Array.getElem?_modify, hh]) hv10.v1 hvz
      obtain ⟨x9, ex, est, ev⟩ := if_two (pl := u.place) hl3 hse
      go_upto_region 44 with fail
      generalize v10.setCell ⟨gs, 7, none⟩ (.slice ao7 an7 ac7) = v11 at *
      clear hv10 x6 x7 f6 f7 hvz q1 q2 q3 q4 q5 q6 q7 q8 q9 q10
      have hend := hv11.ret (q := Px.stmt E B) (l := u :: rr) (by rw [hU.out]; exact est) (fun s l' hs => by
        rw [hU.out] at hs
        obtain ⟨bs, l2, cs, l4, e2, e3, rfl⟩ := ev s l' hs
        exact ⟨[x9], bs, cs, ⟨[], x9, rfl, ⟨l3, ex⟩, rfl⟩, ⟨l2, e2⟩, ⟨l4, e3⟩, rfl⟩)
      obtain ⟨q1, q2, q3, q4, q5, q6, q7, q8, q9, q10⟩ := hv11.lts
      obtain ⟨y0, y1, y2, y3, y4, y5, y6, y7, y8, _⟩ := cells_of9 hv11.box
      obtain ⟨e0, e1, e2, e3, e4, e5, e6, e7, e8, m0, m1, m2, m3, m4, m5, m6, m7, m8⟩ := cells_of9 hv11.out
      clear hv11
      generalize w.heap.size = gr at *
      go_wp2
      exact bodyPost_ret (v := sV 4 [] (.slice (some ⟨g, 0, none⟩) (n + 1) cap5) (.slice ao6 an6 ac6) (.slice ao7 an7 ac7) u.place) (by simp [results, Tryz.results61, go_sem, e0, e1, e2, e3, e4, e5, e6, e7, e8]) rfl hend
  case inr =>
    have her : ((er : Int) == 0) = false := by simp; omega
    rw [hl3] at hv6
    go_wp2_with fail
    refine (got_any b ga ca ts _ 1 [101, 108, 115, 101] v6 (by decide) hv6.rs).mono ?_
    rintro e v7 ⟨rfl, hRz, hgz⟩
    have hv7 := hv6.call hgz hRz
    clear hv6 hRz hgz c0 c1 c2 c3 f1 f2 f3 h0 her q1 q2 q3 q4 q5 q6 q7 q8 q9 q10
    have hend := hv7.ret (q := Px.stmt E B) (l := u :: rr) (by rw [hU.out, if_bad hl3]; rfl) (fun s l' hs => by rw [hU.out, if_bad hl3] at hs; simp at hs)
    obtain ⟨q1, q2, q3, q4, q5, q6, q7, q8, q9, q10⟩ := hv7.lts
    obtain ⟨y0, y1, y2, y3, y4, y5, y6, y7, y8, _⟩ := cells_of9 hv7.box
    obtain ⟨e0, e1, e2, e3, e4, e5, e6, e7, e8, m0, m1, m2, m3, m4, m5, m6, m7, m8⟩ := cells_of9 hv7.out
    clear hv7
    generalize w.heap.size = gr at *
    go_wp2
    exact bodyPost_ret (v := sV 4 [] (.slice (some ⟨g, 0, none⟩) (n + 1) cap5) (.slice none 0 0) (.slice none 0 0) u.place) (by simp [results, Tryz.results61, go_sem, e0, e1, e2, e3, e4, e5, e6, e7, e8]) rfl hend
end Go.Proofs.YtnmdnjdibdmodaaGreatDoor
/- The document's statement, walked: for. -/
namespace Go.Proofs.YtnmdnjdibdmodaaGreatDoor
open Go.RowKit
set_option linter.unusedSimpArgs false
set_option linter.unusedVariables false

set_option maxRecDepth 100000 in
set_option maxHeartbeats 16000000 in
theorem rst_for (b ga ca : Nat) (ts : List Lx.Tok) (d : Nat) (hd : d ≤ 24) (E : Px.P Px.Ex) (B : Px.P (List Px.St))
    (hexp : ∀ (S : RSt) (w : World), RS b ga ca ts S w → Calls Tryz.prog 79 #[.pointer (some ⟨b, 0, none⟩), .int .i64 ((d : Int) + 1)] w fun r w' => EP b ga ca ts E S w r w')
    (hblk : ∀ (S : RSt) (w : World), RS b ga ca ts S w → Calls Tryz.prog 41 #[.pointer (some ⟨b, 0, none⟩), .int .i64 ((d : Int) + 1)] w fun r w' => BP b ga ca ts B S w r w')
    (u : Lx.Tok) (rr : List Lx.Tok) (w : World) (h : RS b ga ca ts (.inl (u :: rr)) w)
    (s0 : Px.sees 1 [108, 101, 116] (u :: rr) = false)
    (s1 : Px.sees 1 [115, 101, 116] (u :: rr) = false)
    (s2 : Px.sees 1 [100, 101, 108] (u :: rr) = false)
    (s3 : Px.sees 1 [105, 102] (u :: rr) = false)
    (s4 : Px.sees 1 [102, 111, 114] (u :: rr) = true) :
    Calls Tryz.prog 61 #[.pointer (some ⟨b, 0, none⟩), .int .i64 d] w fun r w' => SP b ga ca ts (Px.stmt E B) (.inl (u :: rr)) w r w' := by
  have hwr : IntKind.i64.wrap ((d : Int) + 1) = (d : Int) + 1 := IntWalk.i64_in _ (by omega)
  have hbl := (h.at).choose_spec.choose_spec.choose_spec.1.there
  have hgl := (h.at).choose_spec.choose_spec.choose_spec.1.gl
  have hb0 : Below w.heap.size w (w.alloc zeroS) := (Below.refl _ _).alloc (Nat.le_refl _) _
  have ho0 : (w.alloc zeroS).heap[w.heap.size]? = some zeroS := heap_new w _
  have hR0 := h.below hb0
  have hf0 : Fr b w (w.alloc zeroS) := Fr.of_below hb0
  have hsz0 : w.heap.size < (w.alloc zeroS).heap.size := by simp
  obtain ⟨Nl, hNl, hr1⟩ := hR0.2
  obtain ⟨hu, hN2, hlt⟩ := drop_head hNl
  have hltI : (Nl : Int) < (ts.length : Int) := by omega
  have t0 : seesS 1 [108, 101, 116] (.inl (u :: rr)) = false := s0
  have t1 : seesS 1 [115, 101, 116] (.inl (u :: rr)) = false := s1
  have t2 : seesS 1 [100, 101, 108] (.inl (u :: rr)) = false := s2
  have t3 : seesS 1 [105, 102] (.inl (u :: rr)) = false := s3
  have t4 : seesS 1 [102, 111, 114] (.inl (u :: rr)) = true := s4
  have g4 : gotS 1 [102, 111, 114] (.inl (u :: rr)) = .inl rr := by simp only [gotS]; rw [if_pos s4]; rfl
  have hU : Aside (lift (Px.stmt E B) (.inl (u :: rr)) = forR E B u.place rr) := by
    show _ = _
    simp only [lift]
    rw [stmt_forms, if_neg (by rw [s0]; simp), if_neg (by rw [s1]; simp), if_neg (by rw [s2]; simp), if_neg (by rw [s3]; simp), if_pos s4]; rfl
  obtain ⟨i0, hi0, hz0, hz1, hz2⟩ := info_parts exprInfo
  go_enter Tryz.func61, Tryz.ntmps61
  go_upto_region 1 with fail
  generalize w.alloc zeroS = wz at *
  obtain ⟨c0, c1, c2, c3, f1, f2, f3⟩ := hr1.cells
  obtain ⟨x0, x1, x2, x3⟩ := hr1.row Nl u hu
  have hb3 := hr1.there
  have hgl3 := hr1.gl
  have hfew := hr1.few
  clear hb0 h
  go_region
  have hbA : Below wz.heap.size wz ((wz.alloc (sO 0 [] (.slice none 0 0) (.slice none 0 0) (.slice none 0 0) u.place)).drew) := ((Below.refl _ _).alloc (Nat.le_refl _) _).trans ⟨rfl, rfl, rfl, Nat.le_refl _, fun _ _ => rfl⟩
  have hv0 : RT b ga ca ts wz.heap.size w (.inl (u :: rr)) 0 [] none 0 0 [] (.slice none 0 0) (.slice none 0 0) u.place (· = []) (· = []) (· = []) ((wz.alloc (sO 0 [] (.slice none 0 0) (.slice none 0 0) (.slice none 0 0) u.place)).drew) :=
    ⟨hR0.below hbA, heap_new wz _, (hbA.block _ hsz0).trans ho0, hf0.trans (Fr.of_below hbA), ⟨rfl, Or.inl ⟨rfl, rfl⟩⟩, fun xs hx => by rw [hx]; exact ⟨rfl, by rw [AllEx]⟩, fun xs hx => by rw [hx]; exact IsSts.nil' _ _, fun xs hx => by rw [hx]; exact IsSts.nil' _ _, ⟨hbl, hgl, hsz0⟩⟩
  clear c0 c1 c2 c3 f1 f2 f3 x0 x1 x2 x3 hbA hR0 hf0 hr1 hb3 hgl3 hsz0 ho0 hNl hu hN2 hlt hltI
  generalize (wz.alloc (sO 0 [] (.slice none 0 0) (.slice none 0 0) (.slice none 0 0) u.place)).drew = v0 at *
  generalize wz.heap.size = gs at *
  obtain ⟨q1, q2, q3, q4, q5, q6, q7, q8, q9, q10⟩ := hv0.lts
  go_wp2_with fail
  refine (got_any b ga ca ts _ 1 [108, 101, 116] v0 (by decide) hv0.rs).mono ?_
  rintro e v1 ⟨rfl, hRz, hgz⟩
  rw [gotS_no t0] at hRz
  rw [t0]
  have hv1 := hv0.call hgz hRz
  clear hv0 hRz hgz q1 q2 q3 q4 q5 q6 q7 q8 q9 q10
  obtain ⟨q1, q2, q3, q4, q5, q6, q7, q8, q9, q10⟩ := hv1.lts
  go_wp2_with fail
  refine (got_any b ga ca ts _ 1 [115, 101, 116] v1 (by decide) hv1.rs).mono ?_
  rintro e v2 ⟨rfl, hRz, hgz⟩
  rw [gotS_no t1] at hRz
  rw [t1]
  have hv2 := hv1.call hgz hRz
  clear hv1 hRz hgz q1 q2 q3 q4 q5 q6 q7 q8 q9 q10
  obtain ⟨q1, q2, q3, q4, q5, q6, q7, q8, q9, q10⟩ := hv2.lts
  go_wp2_with fail
  refine (got_any b ga ca ts _ 1 [100, 101, 108] v2 (by decide) hv2.rs).mono ?_
  rintro e v3 ⟨rfl, hRz, hgz⟩
  rw [gotS_no t2] at hRz
  rw [t2]
  have hv3 := hv2.call hgz hRz
  clear hv2 hRz hgz q1 q2 q3 q4 q5 q6 q7 q8 q9 q10
  obtain ⟨q1, q2, q3, q4, q5, q6, q7, q8, q9, q10⟩ := hv3.lts
  go_wp2_with fail
  refine (got_any b ga ca ts _ 1 [105, 102] v3 (by decide) hv3.rs).mono ?_
  rintro e v4 ⟨rfl, hRz, hgz⟩
  rw [gotS_no t3] at hRz
  rw [t3]
  have hv4 := hv3.call hgz hRz
  clear hv3 hRz hgz q1 q2 q3 q4 q5 q6 q7 q8 q9 q10
  obtain ⟨q1, q2, q3, q4, q5, q6, q7, q8, q9, q10⟩ := hv4.lts
  go_wp2_with fail
  refine (got_any b ga ca ts _ 1 [102, 111, 114] v4 (by decide) hv4.rs).mono ?_
  rintro e v5 ⟨rfl, hRz, hgz⟩
  rw [g4] at hRz
  rw [t4]
  have hv5 := hv4.call hgz hRz
  clear hv4 hRz hgz q1 q2 q3 q4 q5 q6 q7 q8 q9 q10
  obtain ⟨q1, q2, q3, q4, q5, q6, q7, q8, q9, q10⟩ := hv5.lts
  have x0 := (cells_of9 hv5.box).1
  have f0 := (cells_of9 hv5.box).2.2.2.2.2.2.2.2.2.1
  have hv6 := hv5.set (j := 0) (v := .int .i64 5) (k' := 5) (nm' := []) (b1' := .slice none 0 0) (b2' := .slice none 0 0) (M1' := (· = [])) (M2' := (· = [])) (fun hh => by simp [World.setCell, Array.getElem?_modify, hh]) hv5.v1 hv5.v2
  go_wp2_with fail
  generalize v5.setCell ⟨gs, 0, none⟩ (.int .i64 5) = v6 at *
  clear hv5 x0 f0 q1 q2 q3 q4 q5 q6 q7 q8 q9 q10
  refine (rname_any b ga ca ts _ v6 hv6.rs).mono ?_
  rintro e v7 ⟨tk, nm, tm, tp, rfl, hRz, hgz, hnm⟩
  replace hnm : Aside (∀ u l', lift Px.name (.inl rr) = .inl (u, l') → u = ⟨tk, nm, tm, tp⟩) := hnm
  have hf1 := tokF1
  have hv7 := hv6.call hgz hRz
  clear hv6 hRz hgz
  obtain ⟨q1, q2, q3, q4, q5, q6, q7, q8, q9, q10⟩ := hv7.lts
  have x1 := (cells_of9 hv7.box).2.1
  have f1 := (cells_of9 hv7.box).2.2.2.2.2.2.2.2.2.2.1
  have hv8 := hv7.set (j := 1) (v := .string ⟨nm.toArray⟩) (k' := 5) (nm' := nm) (b1' := .slice none 0 0) (b2' := .slice none 0 0) (M1' := (· = [])) (M2' := (· = [])) (fun hh => by simp [World.setCell, Array.getElem?_modify, hh]) hv7.v1 hv7.v2
  go_wp2_with fail
  generalize v7.setCell ⟨gs, 1, none⟩ (.string ⟨nm.toArray⟩) = v8 at *
  clear hv7 x1 f1 hf1 q1 q2 q3 q4 q5 q6 q7 q8 q9 q10
  refine (got_any b ga ca ts _ 1 [116, 111] v8 (by decide) hv8.rs).mono ?_
  rintro e v9 ⟨rfl, hRz, hgz⟩
  have hv9 := hv8.call hgz hRz
  clear hv8 hRz hgz
  rcases hse : seesS 1 [116, 111] (st (lift Px.name (.inl rr))) with _ | _
  case false =>
    rw [gotS_no hse] at hv9
    go_wp2_with fail
    refine (fail_any b ga ca ts _ 31 v9 (by decide) hv9.rs).mono ?_
    rintro e v10 ⟨rfl, hRz, hgz⟩
    rw [← needKS_no hse] at hRz
    have hv10 := hv9.call hgz hRz
    clear hv9 hRz hgz
    obtain ⟨ao, n, cap, row, hn4, hT⟩ : ∃ ao n cap row, n ≤ 0 ∧ RT b ga ca ts gs w (needKS 1 [116, 111] (st (lift Px.name (.inl rr)))) _ _ ao n cap row (.slice none 0 0) (.slice none 0 0) u.place ((· = [])) (· = []) (· = []) v10 := ⟨_, _, _, _, by omega, hv10⟩
    clear hv10
    obtain ⟨q1, q2, q3, q4, q5, q6, q7, q8, q9, q10⟩ := hT.lts
    have c6 := (cells_of9 hT.box).2.2.2.2.2.1
    have hRd := hT.rs.drewN 1
    go_wp2_with fail
    refine wpE_begin (S := fun w' => w'.cell? ⟨gs, 5, none⟩ = some (.slice ao n cap)) (N := fun j => decide (j < 8)) (by kernel_rfl) ?_
    have hS0 : v10.drew.cell? ⟨gs, 5, none⟩ = some (.slice ao n cap) := c6
    refine wpE_take (i := 0) (v := .pointer (some ⟨gs, 5, none⟩)) rfl (by kernel_rfl) (by kernel_rfl) (by kernel_rfl) (by kernel_rfl) (fun _ _ _ h => h) rfl (fun w' hS => by have s1 := hS; go_simp) hS0 ?_
    try simp only [Act.put, List.setIfInBounds_toArray, List.set_cons_zero, List.set_cons_succ]
    refine wpE_take (i := 2) (v := .pointer (some ⟨b, 0, none⟩)) rfl (by kernel_rfl) (by kernel_rfl) (by kernel_rfl) (by kernel_rfl) (fun _ _ _ h => h) rfl (fun w' hS => by have s1 := hS; go_simp) hS0 ?_
    try simp only [Act.put, List.setIfInBounds_toArray, List.set_cons_zero, List.set_cons_succ]
    refine wpE_take (i := 3) (v := .int .i64 d) rfl (by kernel_rfl) (by kernel_rfl) (by kernel_rfl) (by kernel_rfl) (fun _ _ _ h => h) rfl (fun w' hS => by have s1 := hS; go_simp) hS0 ?_
    try simp only [Act.put, List.setIfInBounds_toArray, List.set_cons_zero, List.set_cons_succ]
    refine wpE_take (i := 1) (v := .slice ao n cap) rfl (by kernel_rfl) (by kernel_rfl) (by kernel_rfl) (by kernel_rfl) (fun _ _ _ h => h) rfl (fun w' hS => by have s1 := hS; go_simp) hS0 ?_
    try simp only [Act.put, List.setIfInBounds_toArray, List.set_cons_zero, List.set_cons_succ]
    refine wpE_take (i := 4) (v := .int .i64 ((d : Int) + 1)) rfl (by kernel_rfl) (by kernel_rfl) (by kernel_rfl) (by kernel_rfl) (fun _ _ _ h => h) rfl (fun w' hS => by have s1 := hS; go_simp) hS0 ?_
    try simp only [Act.put, List.setIfInBounds_toArray, List.set_cons_zero, List.set_cons_succ]
    refine wpE_one (i := 5) (by kernel_rfl) rfl rfl (fun K hK => ?_)
    go_simp
    refine (hexp _ _ hRd).mono ?_
    rintro e w4 ⟨k2, o2, n2, t2, ao2, an2, ac2, p2, rfl, hR4, hg4, hx4⟩
    have hgQ4 : Fr b v10 w4 := (Fr.drewN b v10 1).trans hg4
    have h4 := hT.call hgQ4 hR4
    have hx5 : ∀ x, (∃ l', lift E (needKS 1 [116, 111] (st (lift Px.name (.inl rr)))) = .inl (x, l')) → IsEx (fun k => gs + 1 ≤ k ∧ (Value.slice ao n cap).ownBlock ≠ some k) w4 x (exL k2 o2 n2 t2 (.slice ao2 an2 ac2) p2) := fun x ⟨l', hl'⟩ => (hx4 x l' hl').low (fun k h1 h2 => ⟨by have : v10.heap.size ≤ k := h1; omega, fun e => by have := (hT.own.lt k e).2; have : v10.heap.size ≤ k := h1; omega⟩)
    have y6 := (cells_of9 h4.box).2.2.2.2.2.1
    obtain ⟨l4, _⟩ := h4.lts
    refine hK _ _ (fun _ => y6) ?_
    clear hK K
    try simp only [Act.put, List.setIfInBounds_toArray, List.set_cons_zero, List.set_cons_succ]
    refine wpE_one (i := 6) (by kernel_rfl) rfl rfl (fun K hK => ?_)
    go_simp
    refine hK _ _ (fun _ => (World.cell?_of_block (w := w4) (heap_old l4)).trans y6) ?_
    clear hK K
    try simp only [Act.put, List.setIfInBounds_toArray, List.set_cons_zero, List.set_cons_succ]
    refine wpE_one (i := 7) (by kernel_rfl) rfl rfl (fun K hK => ?_)
    refine wp_append_lies _ (.tmp 135) (.tmp 140) 47 rfl (gs + 1) 51 i0 _ 8 96 Tryz.underlying47 hi0 hz0 hz1 hz2 rfl (by omega) (.slice ao n cap) n row rfl (h4.own.alloc _) ⟨w4.heap.size, 0, none⟩ 1 1 (exL k2 o2 n2 t2 (.slice ao2 an2 ac2) p2) rfl rfl (World.news_of_block (heap_new w4 _)) (by simp [Value.oneCell']) (by omega) (by unfold maxLen; omega) (by omega) (by simp; omega) (w4.heap.size + 1) (by simp) ?_
    intro g cap5 w5 hown5 hgrow hat5 hlt5
    have hG := grewB hgrow hat5
    have far : some gs ≠ (Value.slice ao n cap).ownBlock := fun e => by have := (h4.own.lt gs e.symm).1; omega
    have hb5 : w5.heap[gs]? = w4.heap[gs]? := hG.block gs l4 far
    have z6 : w5.cell? ⟨gs, 5, none⟩ = some (.slice ao n cap) := (World.cell?_of_block (w := w4) hb5).trans y6
    have zf : w5.frozen? ⟨gs, 5, none⟩ = false := (World.frozen?_of_block (w := w4) hb5).trans (by have h9 := h4.box; simp [World.frozen?, h9])
    refine hK _ _ (fun _ => z6) ?_
    clear hK K
    try simp only [Act.put, List.setIfInBounds_toArray, List.set_cons_zero, List.set_cons_succ]
    refine wpE_takeL (i := 8) (v := .pointer (some ⟨gs, 5, none⟩)) rfl (by kernel_rfl) (by kernel_rfl) (by kernel_rfl) rfl (fun _ _ _ h => h) rfl (fun w' => by go_simp) ?_
    try simp only [Act.put, List.setIfInBounds_toArray, List.set_cons_zero, List.set_cons_succ]
    refine wpE_one (i := 9) (by kernel_rfl) rfl rfl (fun K hK => ?_)
    go_simp
    refine hK _ _ (fun h => absurd h (by decide)) (wpE_done (by kernel_rfl) ?_)
    clear hK K
    have hv11 := h4.app hG hown5 hx5 rfl
    generalize w5.setCell ⟨gs, 5, none⟩ (.slice (some ⟨g, 0, none⟩) (n + 1) cap5) = v11 at *
    clear hT h4 hG hown5 hx5 hx4 hR4 hg4 hgQ4 hgrow hat5 hlt5 far hb5 z6 zf y6 l4 c6 hRd hS0 q1 q2 q3 q4 q5 q6 q7 q8 q9 q10
    obtain ⟨q1, q2, q3, q4, q5, q6, q7, q8, q9, q10⟩ := hv11.lts
    obtain ⟨N9, pp, er, hr9, hcase⟩ := hv11.rs.at
    obtain ⟨c0, c1, c2, c3, f1, f2, f3⟩ := hr9.cells
    clear hr9
    rcases hcase with ⟨rfl, l3, hl3⟩ | ⟨h0, hl3⟩
    case inl =>
      rw [hl3] at hv11
      go_wp2_with fail
      refine (hblk _ v11 hv11.rs).mono ?_
      rintro e v12 ⟨ao6, an6, ac6, rfl, hRz, hgz, hvz⟩
      have hv12 := hv11.call hgz hRz
      replace hvz : ∀ xs, (∃ l', lift B (.inl l3) = .inl (xs, l')) → IsSts (From (gs + 1)) v12 xs (.slice ao6 an6 ac6) := fun xs ⟨l', hl'⟩ => (hvz xs l' hl').base' (from_mono (by omega))
      clear hv11 hRz hgz q1 q2 q3 q4 q5 q6 q7 q8 q9 q10
      obtain ⟨q1, q2, q3, q4, q5, q6, q7, q8, q9, q10⟩ := hv12.lts
      obtain ⟨x0, x1, x2, x3, x4, x5, x6, x7, x8, f0, f1, f2, f3, f4, f5, f6, f7, f8⟩ := cells_of9 hv12.box
      clear x0 x1 x2 x3 x4 x5 x8 f0 f1 f2 f3 f4 f5 f8
      have hv13 := hv12.set (j := 6) (v := .slice ao6 an6 ac6) (k' := 5) (nm' := nm) (b1' := .slice ao6 an6 ac6) (b2' := .slice none 0 0) (M1' := fun xs => ∃ l', lift B (.inl l3) = .inl (xs, l')) (M2' := (· = [])) (fun hh => by simp [World.setCell, Array.getElem?_modify, hh]) hvz hv12.v2
      obtain ⟨u9, l1, x9, en, ex, est, ev⟩ := for_one (B := B) (pl := u.place) hl3
      go_upto_region 44 with fail
      generalize v12.setCell ⟨gs, 6, none⟩ (.slice ao6 an6 ac6) = v13 at *
      clear hv12 x6 x7 f6 f7 hvz q1 q2 q3 q4 q5 q6 q7 q8 q9 q10
      have hend := hv13.ret (q := Px.stmt E B) (l := u :: rr) (by rw [hU.out]; exact est) (fun s l' hs => by
        rw [hU.out] at hs
        obtain ⟨bs, l2, e2, rfl⟩ := ev s l' hs
        have := hnm.out u9 l1 en
        subst this
        exact ⟨[x9], bs, [], ⟨[], x9, rfl, ⟨l3, ex⟩, rfl⟩, ⟨l2, e2⟩, rfl, rfl⟩)
      obtain ⟨q1, q2, q3, q4, q5, q6, q7, q8, q9, q10⟩ := hv13.lts
      obtain ⟨y0, y1, y2, y3, y4, y5, y6, y7, y8, _⟩ := cells_of9 hv13.box
      obtain ⟨e0, e1, e2, e3, e4, e5, e6, e7, e8, m0, m1, m2, m3, m4, m5, m6, m7, m8⟩ := cells_of9 hv13.out
      clear hv13
      generalize w.heap.size = gr at *
      go_wp2
      exact bodyPost_ret (v := sV 5 nm (.slice (some ⟨g, 0, none⟩) (n + 1) cap5) (.slice ao6 an6 ac6) (.slice none 0 0) u.place) (by simp [results, Tryz.results61, go_sem, e0, e1, e2, e3, e4, e5, e6, e7, e8]) rfl hend
    case inr =>
      have her : ((er : Int) == 0) = false := by simp; omega
      rw [hl3] at hv11
      clear q1 q2 q3 q4 q5 q6 q7 q8 q9 q10
      have hend := hv11.ret (q := Px.stmt E B) (l := u :: rr) (by rw [hU.out, for_bad hl3]; rfl) (fun s l' hs => by rw [hU.out, for_bad hl3] at hs; simp at hs)
      obtain ⟨q1, q2, q3, q4, q5, q6, q7, q8, q9, q10⟩ := hv11.lts
      obtain ⟨y0, y1, y2, y3, y4, y5, y6, y7, y8, _⟩ := cells_of9 hv11.box
      obtain ⟨e0, e1, e2, e3, e4, e5, e6, e7, e8, m0, m1, m2, m3, m4, m5, m6, m7, m8⟩ := cells_of9 hv11.out
      clear hv11
      generalize w.heap.size = gr at *
      go_wp2
      exact bodyPost_ret (v := sV 5 nm (.slice (some ⟨g, 0, none⟩) (n + 1) cap5) (.slice none 0 0) (.slice none 0 0) u.place) (by simp [results, Tryz.results61, go_sem, e0, e1, e2, e3, e4, e5, e6, e7, e8]) rfl hend
  case true =>
    rw [← needKS_yes hse] at hv9
    obtain ⟨ao, n, cap, row, hn4, hT⟩ : ∃ ao n cap row, n ≤ 0 ∧ RT b ga ca ts gs w (needKS 1 [116, 111] (st (lift Px.name (.inl rr)))) _ _ ao n cap row (.slice none 0 0) (.slice none 0 0) u.place ((· = [])) (· = []) (· = []) v9 := ⟨_, _, _, _, by omega, hv9⟩
    clear hv9
    obtain ⟨q1, q2, q3, q4, q5, q6, q7, q8, q9, q10⟩ := hT.lts
    have c6 := (cells_of9 hT.box).2.2.2.2.2.1
    have hRd := hT.rs.drewN 1
    go_wp2_with fail
    refine wpE_begin (S := fun w' => w'.cell? ⟨gs, 5, none⟩ = some (.slice ao n cap)) (N := fun j => decide (j < 8)) (by kernel_rfl) ?_
    have hS0 : v9.drew.cell? ⟨gs, 5, none⟩ = some (.slice ao n cap) := c6
    refine wpE_take (i := 0) (v := .pointer (some ⟨gs, 5, none⟩)) rfl (by kernel_rfl) (by kernel_rfl) (by kernel_rfl) (by kernel_rfl) (fun _ _ _ h => h) rfl (fun w' hS => by have s1 := hS; go_simp) hS0 ?_
    try simp only [Act.put, List.setIfInBounds_toArray, List.set_cons_zero, List.set_cons_succ]
    refine wpE_take (i := 2) (v := .pointer (some ⟨b, 0, none⟩)) rfl (by kernel_rfl) (by kernel_rfl) (by kernel_rfl) (by kernel_rfl) (fun _ _ _ h => h) rfl (fun w' hS => by have s1 := hS; go_simp) hS0 ?_
    try simp only [Act.put, List.setIfInBounds_toArray, List.set_cons_zero, List.set_cons_succ]
    refine wpE_take (i := 3) (v := .int .i64 d) rfl (by kernel_rfl) (by kernel_rfl) (by kernel_rfl) (by kernel_rfl) (fun _ _ _ h => h) rfl (fun w' hS => by have s1 := hS; go_simp) hS0 ?_
    try simp only [Act.put, List.setIfInBounds_toArray, List.set_cons_zero, List.set_cons_succ]
    refine wpE_take (i := 1) (v := .slice ao n cap) rfl (by kernel_rfl) (by kernel_rfl) (by kernel_rfl) (by kernel_rfl) (fun _ _ _ h => h) rfl (fun w' hS => by have s1 := hS; go_simp) hS0 ?_
    try simp only [Act.put, List.setIfInBounds_toArray, List.set_cons_zero, List.set_cons_succ]
    refine wpE_take (i := 4) (v := .int .i64 ((d : Int) + 1)) rfl (by kernel_rfl) (by kernel_rfl) (by kernel_rfl) (by kernel_rfl) (fun _ _ _ h => h) rfl (fun w' hS => by have s1 := hS; go_simp) hS0 ?_
    try simp only [Act.put, List.setIfInBounds_toArray, List.set_cons_zero, List.set_cons_succ]
    refine wpE_one (i := 5) (by kernel_rfl) rfl rfl (fun K hK => ?_)
    go_simp
    refine (hexp _ _ hRd).mono ?_
    rintro e w4 ⟨k2, o2, n2, t2, ao2, an2, ac2, p2, rfl, hR4, hg4, hx4⟩
    have hgQ4 : Fr b v9 w4 := (Fr.drewN b v9 1).trans hg4
    have h4 := hT.call hgQ4 hR4
    have hx5 : ∀ x, (∃ l', lift E (needKS 1 [116, 111] (st (lift Px.name (.inl rr)))) = .inl (x, l')) → IsEx (fun k => gs + 1 ≤ k ∧ (Value.slice ao n cap).ownBlock ≠ some k) w4 x (exL k2 o2 n2 t2 (.slice ao2 an2 ac2) p2) := fun x ⟨l', hl'⟩ => (hx4 x l' hl').low (fun k h1 h2 => ⟨by have : v9.heap.size ≤ k := h1; omega, fun e => by have := (hT.own.lt k e).2; have : v9.heap.size ≤ k := h1; omega⟩)
    have y6 := (cells_of9 h4.box).2.2.2.2.2.1
    obtain ⟨l4, _⟩ := h4.lts
    refine hK _ _ (fun _ => y6) ?_
    clear hK K
    try simp only [Act.put, List.setIfInBounds_toArray, List.set_cons_zero, List.set_cons_succ]
    refine wpE_one (i := 6) (by kernel_rfl) rfl rfl (fun K hK => ?_)
    go_simp
    refine hK _ _ (fun _ => (World.cell?_of_block (w := w4) (heap_old l4)).trans y6) ?_
    clear hK K
    try simp only [Act.put, List.setIfInBounds_toArray, List.set_cons_zero, List.set_cons_succ]
    refine wpE_one (i := 7) (by kernel_rfl) rfl rfl (fun K hK => ?_)
    refine wp_append_lies _ (.tmp 135) (.tmp 140) 47 rfl (gs + 1) 51 i0 _ 8 96 Tryz.underlying47 hi0 hz0 hz1 hz2 rfl (by omega) (.slice ao n cap) n row rfl (h4.own.alloc _) ⟨w4.heap.size, 0, none⟩ 1 1 (exL k2 o2 n2 t2 (.slice ao2 an2 ac2) p2) rfl rfl (World.news_of_block (heap_new w4 _)) (by simp [Value.oneCell']) (by omega) (by unfold maxLen; omega) (by omega) (by simp; omega) (w4.heap.size + 1) (by simp) ?_
    intro g cap5 w5 hown5 hgrow hat5 hlt5
    have hG := grewB hgrow hat5
    have far : some gs ≠ (Value.slice ao n cap).ownBlock := fun e => by have := (h4.own.lt gs e.symm).1; omega
    have hb5 : w5.heap[gs]? = w4.heap[gs]? := hG.block gs l4 far
    have z6 : w5.cell? ⟨gs, 5, none⟩ = some (.slice ao n cap) := (World.cell?_of_block (w := w4) hb5).trans y6
    have zf : w5.frozen? ⟨gs, 5, none⟩ = false := (World.frozen?_of_block (w := w4) hb5).trans (by have h9 := h4.box; simp [World.frozen?, h9])
    refine hK _ _ (fun _ => z6) ?_
    clear hK K
    try simp only [Act.put, List.setIfInBounds_toArray, List.set_cons_zero, List.set_cons_succ]
    refine wpE_takeL (i := 8) (v := .pointer (some ⟨gs, 5, none⟩)) rfl (by kernel_rfl) (by kernel_rfl) (by kernel_rfl) rfl (fun _ _ _ h => h) rfl (fun w' => by go_simp) ?_
    try simp only [Act.put, List.setIfInBounds_toArray, List.set_cons_zero, List.set_cons_succ]
    refine wpE_one (i := 9) (by kernel_rfl) rfl rfl (fun K hK => ?_)
    go_simp
    refine hK _ _ (fun h => absurd h (by decide)) (wpE_done (by kernel_rfl) ?_)
    clear hK K
    have hv10 := h4.app hG hown5 hx5 rfl
    generalize w5.setCell ⟨gs, 5, none⟩ (.slice (some ⟨g, 0, none⟩) (n + 1) cap5) = v10 at *
    clear hT h4 hG hown5 hx5 hx4 hR4 hg4 hgQ4 hgrow hat5 hlt5 far hb5 z6 zf y6 l4 c6 hRd hS0 q1 q2 q3 q4 q5 q6 q7 q8 q9 q10
    obtain ⟨q1, q2, q3, q4, q5, q6, q7, q8, q9, q10⟩ := hv10.lts
    obtain ⟨N9, pp, er, hr9, hcase⟩ := hv10.rs.at
    obtain ⟨c0, c1, c2, c3, f1, f2, f3⟩ := hr9.cells
    clear hr9
    rcases hcase with ⟨rfl, l3, hl3⟩ | ⟨h0, hl3⟩
    case inl =>
      rw [hl3] at hv10
      go_wp2_with fail
      refine (hblk _ v10 hv10.rs).mono ?_
      rintro e v11 ⟨ao6, an6, ac6, rfl, hRz, hgz, hvz⟩
      have hv11 := hv10.call hgz hRz
      replace hvz : ∀ xs, (∃ l', lift B (.inl l3) = .inl (xs, l')) → IsSts (From (gs + 1)) v11 xs (.slice ao6 an6 ac6) := fun xs ⟨l', hl'⟩ => (hvz xs l' hl').base' (from_mono (by omega))
      clear hv10 hRz hgz q1 q2 q3 q4 q5 q6 q7 q8 q9 q10
      obtain ⟨q1, q2, q3, q4, q5, q6, q7, q8, q9, q10⟩ := hv11.lts
      obtain ⟨x0, x1, x2, x3, x4, x5, x6, x7, x8, f0, f1, f2, f3, f4, f5, f6, f7, f8⟩ := cells_of9 hv11.box
      clear x0 x1 x2 x3 x4 x5 x8 f0 f1 f2 f3 f4 f5 f8
      have hv12 := hv11.set (j := 6) (v := .slice ao6 an6 ac6) (k' := 5) (nm' := nm) (b1' := .slice ao6 an6 ac6) (b2' := .slice none 0 0) (M1' := fun xs => ∃ l', lift B (.inl l3) = .inl (xs, l')) (M2' := (· = [])) (fun hh => by simp [World.setCell, Array.getElem?_modify, hh]) hvz hv11.v2
      obtain ⟨u9, l1, x9, en, ex, est, ev⟩ := for_one (B := B) (pl := u.place) hl3
      go_upto_region 44 with fail
      generalize v11.setCell ⟨gs, 6, none⟩ (.slice ao6 an6 ac6) = v12 at *
      clear hv11 x6 x7 f6 f7 hvz q1 q2 q3 q4 q5 q6 q7 q8 q9 q10
      have hend := hv12.ret (q := Px.stmt E B) (l := u :: rr) (by rw [hU.out]; exact est) (fun s l' hs => by
        rw [hU.out] at hs
        obtain ⟨bs, l2, e2, rfl⟩ := ev s l' hs
        have := hnm.out u9 l1 en
        subst this
        exact ⟨[x9], bs, [], ⟨[], x9, rfl, ⟨l3, ex⟩, rfl⟩, ⟨l2, e2⟩, rfl, rfl⟩)
      obtain ⟨q1, q2, q3, q4, q5, q6, q7, q8, q9, q10⟩ := hv12.lts
      obtain ⟨y0, y1, y2, y3, y4, y5, y6, y7, y8, _⟩ := cells_of9 hv12.box
      obtain ⟨e0, e1, e2, e3, e4, e5, e6, e7, e8, m0, m1, m2, m3, m4, m5, m6, m7, m8⟩ := cells_of9 hv12.out
      clear hv12
      generalize w.heap.size = gr at *
      go_wp2
      exact bodyPost_ret (v := sV 5 nm (.slice (some ⟨g, 0, none⟩) (n + 1) cap5) (.slice ao6 an6 ac6) (.slice none 0 0) u.place) (by simp [results, Tryz.results61, go_sem, e0, e1, e2, e3, e4, e5, e6, e7, e8]) rfl hend
    case inr =>
      have her : ((er : Int) == 0) = false := by simp; omega
      rw [hl3] at hv10
      clear q1 q2 q3 q4 q5 q6 q7 q8 q9 q10
      have hend := hv10.ret (q := Px.stmt E B) (l := u :: rr) (by rw [hU.out, for_bad hl3]; rfl) (fun s l' hs => by rw [hU.out, for_bad hl3] at hs; simp at hs)
      obtain ⟨q1, q2, q3, q4, q5, q6, q7, q8, q9, q10⟩ := hv10.lts
      obtain ⟨y0, y1, y2, y3, y4, y5, y6, y7, y8, _⟩ := cells_of9 hv10.box
      obtain ⟨e0, e1, e2, e3, e4, e5, e6, e7, e8, m0, m1, m2, m3, m4, m5, m6, m7, m8⟩ := cells_of9 hv10.out
      clear hv10
      generalize w.heap.size = gr at *
      go_wp2
      exact bodyPost_ret (v := sV 5 nm (.slice (some ⟨g, 0, none⟩) (n + 1) cap5) (.slice none 0 0) (.slice none 0 0) u.place) (by simp [results, Tryz.results61, go_sem, e0, e1, e2, e3, e4, e5, e6, e7, e8]) rfl hend
end Go.Proofs.YtnmdnjdibdmodaaGreatDoor
/- The document's statement, walked: ret. -/
namespace Go.Proofs.YtnmdnjdibdmodaaGreatDoor
open Go.RowKit
set_option linter.unusedSimpArgs false
set_option linter.unusedVariables false

set_option maxRecDepth 100000 in
set_option maxHeartbeats 16000000 in
theorem rst_ret (b ga ca : Nat) (ts : List Lx.Tok) (d : Nat) (hd : d ≤ 24) (E : Px.P Px.Ex) (B : Px.P (List Px.St))
    (hexp : ∀ (S : RSt) (w : World), RS b ga ca ts S w → Calls Tryz.prog 79 #[.pointer (some ⟨b, 0, none⟩), .int .i64 ((d : Int) + 1)] w fun r w' => EP b ga ca ts E S w r w')
    (hblk : ∀ (S : RSt) (w : World), RS b ga ca ts S w → Calls Tryz.prog 41 #[.pointer (some ⟨b, 0, none⟩), .int .i64 ((d : Int) + 1)] w fun r w' => BP b ga ca ts B S w r w')
    (u : Lx.Tok) (rr : List Lx.Tok) (w : World) (h : RS b ga ca ts (.inl (u :: rr)) w)
    (s0 : Px.sees 1 [108, 101, 116] (u :: rr) = false)
    (s1 : Px.sees 1 [115, 101, 116] (u :: rr) = false)
    (s2 : Px.sees 1 [100, 101, 108] (u :: rr) = false)
    (s3 : Px.sees 1 [105, 102] (u :: rr) = false)
    (s4 : Px.sees 1 [102, 111, 114] (u :: rr) = false)
    (s5 : Px.sees 1 [114, 101, 116] (u :: rr) = true) :
    Calls Tryz.prog 61 #[.pointer (some ⟨b, 0, none⟩), .int .i64 d] w fun r w' => SP b ga ca ts (Px.stmt E B) (.inl (u :: rr)) w r w' := by
  have hwr : IntKind.i64.wrap ((d : Int) + 1) = (d : Int) + 1 := IntWalk.i64_in _ (by omega)
  have hbl := (h.at).choose_spec.choose_spec.choose_spec.1.there
  have hgl := (h.at).choose_spec.choose_spec.choose_spec.1.gl
  have hb0 : Below w.heap.size w (w.alloc zeroS) := (Below.refl _ _).alloc (Nat.le_refl _) _
  have ho0 : (w.alloc zeroS).heap[w.heap.size]? = some zeroS := heap_new w _
  have hR0 := h.below hb0
  have hf0 : Fr b w (w.alloc zeroS) := Fr.of_below hb0
  have hsz0 : w.heap.size < (w.alloc zeroS).heap.size := by simp
  obtain ⟨Nl, hNl, hr1⟩ := hR0.2
  obtain ⟨hu, hN2, hlt⟩ := drop_head hNl
  have hltI : (Nl : Int) < (ts.length : Int) := by omega
  have t0 : seesS 1 [108, 101, 116] (.inl (u :: rr)) = false := s0
  have t1 : seesS 1 [115, 101, 116] (.inl (u :: rr)) = false := s1
  have t2 : seesS 1 [100, 101, 108] (.inl (u :: rr)) = false := s2
  have t3 : seesS 1 [105, 102] (.inl (u :: rr)) = false := s3
  have t4 : seesS 1 [102, 111, 114] (.inl (u :: rr)) = false := s4
  have t5 : seesS 1 [114, 101, 116] (.inl (u :: rr)) = true := s5
  have g5 : gotS 1 [114, 101, 116] (.inl (u :: rr)) = .inl rr := by simp only [gotS]; rw [if_pos s5]; rfl
  have hU : Aside (lift (Px.stmt E B) (.inl (u :: rr)) = retR E u.place (u :: rr)) := by
    show _ = _
    simp only [lift]
    rw [stmt_forms, if_neg (by rw [s0]; simp), if_neg (by rw [s1]; simp), if_neg (by rw [s2]; simp), if_neg (by rw [s3]; simp), if_neg (by rw [s4]; simp)]; rfl
  obtain ⟨i0, hi0, hz0, hz1, hz2⟩ := info_parts exprInfo
  go_enter Tryz.func61, Tryz.ntmps61
  go_upto_region 1 with fail
  generalize w.alloc zeroS = wz at *
  obtain ⟨c0, c1, c2, c3, f1, f2, f3⟩ := hr1.cells
  obtain ⟨x0, x1, x2, x3⟩ := hr1.row Nl u hu
  have hb3 := hr1.there
  have hgl3 := hr1.gl
  have hfew := hr1.few
  clear hb0 h
  go_region
  have hbA : Below wz.heap.size wz ((wz.alloc (sO 0 [] (.slice none 0 0) (.slice none 0 0) (.slice none 0 0) u.place)).drew) := ((Below.refl _ _).alloc (Nat.le_refl _) _).trans ⟨rfl, rfl, rfl, Nat.le_refl _, fun _ _ => rfl⟩
  have hv0 : RT b ga ca ts wz.heap.size w (.inl (u :: rr)) 0 [] none 0 0 [] (.slice none 0 0) (.slice none 0 0) u.place (· = []) (· = []) (· = []) ((wz.alloc (sO 0 [] (.slice none 0 0) (.slice none 0 0) (.slice none 0 0) u.place)).drew) :=
    ⟨hR0.below hbA, heap_new wz _, (hbA.block _ hsz0).trans ho0, hf0.trans (Fr.of_below hbA), ⟨rfl, Or.inl ⟨rfl, rfl⟩⟩, fun xs hx => by rw [hx]; exact ⟨rfl, by rw [AllEx]⟩, fun xs hx => by rw [hx]; exact IsSts.nil' _ _, fun xs hx => by rw [hx]; exact IsSts.nil' _ _, ⟨hbl, hgl, hsz0⟩⟩
  clear c0 c1 c2 c3 f1 f2 f3 x0 x1 x2 x3 hbA hR0 hf0 hr1 hb3 hgl3 hsz0 ho0 hNl hu hN2 hlt hltI
  generalize (wz.alloc (sO 0 [] (.slice none 0 0) (.slice none 0 0) (.slice none 0 0) u.place)).drew = v0 at *
  generalize wz.heap.size = gs at *
  obtain ⟨q1, q2, q3, q4, q5, q6, q7, q8, q9, q10⟩ := hv0.lts
  go_wp2_with fail
  refine (got_any b ga ca ts _ 1 [108, 101, 116] v0 (by decide) hv0.rs).mono ?_
  rintro e v1 ⟨rfl, hRz, hgz⟩
  rw [gotS_no t0] at hRz
  rw [t0]
  have hv1 := hv0.call hgz hRz
  clear hv0 hRz hgz q1 q2 q3 q4 q5 q6 q7 q8 q9 q10
  obtain ⟨q1, q2, q3, q4, q5, q6, q7, q8, q9, q10⟩ := hv1.lts
  go_wp2_with fail
  refine (got_any b ga ca ts _ 1 [115, 101, 116] v1 (by decide) hv1.rs).mono ?_
  rintro e v2 ⟨rfl, hRz, hgz⟩
  rw [gotS_no t1] at hRz
  rw [t1]
  have hv2 := hv1.call hgz hRz
  clear hv1 hRz hgz q1 q2 q3 q4 q5 q6 q7 q8 q9 q10
  obtain ⟨q1, q2, q3, q4, q5, q6, q7, q8, q9, q10⟩ := hv2.lts
  go_wp2_with fail
  refine (got_any b ga ca ts _ 1 [100, 101, 108] v2 (by decide) hv2.rs).mono ?_
  rintro e v3 ⟨rfl, hRz, hgz⟩
  rw [gotS_no t2] at hRz
  rw [t2]
  have hv3 := hv2.call hgz hRz
  clear hv2 hRz hgz q1 q2 q3 q4 q5 q6 q7 q8 q9 q10
  obtain ⟨q1, q2, q3, q4, q5, q6, q7, q8, q9, q10⟩ := hv3.lts
  go_wp2_with fail
  refine (got_any b ga ca ts _ 1 [105, 102] v3 (by decide) hv3.rs).mono ?_
  rintro e v4 ⟨rfl, hRz, hgz⟩
  rw [gotS_no t3] at hRz
  rw [t3]
  have hv4 := hv3.call hgz hRz
  clear hv3 hRz hgz q1 q2 q3 q4 q5 q6 q7 q8 q9 q10
  obtain ⟨q1, q2, q3, q4, q5, q6, q7, q8, q9, q10⟩ := hv4.lts
  go_wp2_with fail
  refine (got_any b ga ca ts _ 1 [102, 111, 114] v4 (by decide) hv4.rs).mono ?_
  rintro e v5 ⟨rfl, hRz, hgz⟩
  rw [gotS_no t4] at hRz
  rw [t4]
  have hv5 := hv4.call hgz hRz
  clear hv4 hRz hgz q1 q2 q3 q4 q5 q6 q7 q8 q9 q10
  obtain ⟨q1, q2, q3, q4, q5, q6, q7, q8, q9, q10⟩ := hv5.lts
  go_wp2_with fail
  refine (got_any b ga ca ts _ 1 [114, 101, 116] v5 (by decide) hv5.rs).mono ?_
  rintro e v6 ⟨rfl, hRz, hgz⟩
  rw [g5] at hRz
  rw [t5]
  have hv6 := hv5.call hgz hRz
  clear hv5 hRz hgz q1 q2 q3 q4 q5 q6 q7 q8 q9 q10
  obtain ⟨q1, q2, q3, q4, q5, q6, q7, q8, q9, q10⟩ := hv6.lts
  have x0 := (cells_of9 hv6.box).1
  have f0 := (cells_of9 hv6.box).2.2.2.2.2.2.2.2.2.1
  have hv7 := hv6.set (j := 0) (v := .int .i64 6) (k' := 6) (nm' := []) (b1' := .slice none 0 0) (b2' := .slice none 0 0) (M1' := (· = [])) (M2' := (· = [])) (fun hh => by simp [World.setCell, Array.getElem?_modify, hh]) hv6.v1 hv6.v2
  go_wp2_with fail
  generalize v6.setCell ⟨gs, 0, none⟩ (.int .i64 6) = v7 at *
  clear hv6 x0 f0 q1 q2 q3 q4 q5 q6 q7 q8 q9 q10
  obtain ⟨ao, n, cap, row, hn4, hT⟩ : ∃ ao n cap row, n ≤ 0 ∧ RT b ga ca ts gs w (.inl rr) _ _ ao n cap row (.slice none 0 0) (.slice none 0 0) u.place ((· = [])) (· = []) (· = []) v7 := ⟨_, _, _, _, by omega, hv7⟩
  clear hv7
  obtain ⟨q1, q2, q3, q4, q5, q6, q7, q8, q9, q10⟩ := hT.lts
  have c6 := (cells_of9 hT.box).2.2.2.2.2.1
  have hRd := hT.rs.drewN 1
  refine wpE_begin (S := fun w' => w'.cell? ⟨gs, 5, none⟩ = some (.slice ao n cap)) (N := fun j => decide (j < 8)) (by kernel_rfl) ?_
  have hS0 : v7.drew.cell? ⟨gs, 5, none⟩ = some (.slice ao n cap) := c6
  refine wpE_take (i := 0) (v := .pointer (some ⟨gs, 5, none⟩)) rfl (by kernel_rfl) (by kernel_rfl) (by kernel_rfl) (by kernel_rfl) (fun _ _ _ h => h) rfl (fun w' hS => by have s1 := hS; go_simp) hS0 ?_
  try simp only [Act.put, List.setIfInBounds_toArray, List.set_cons_zero, List.set_cons_succ]
  refine wpE_take (i := 2) (v := .pointer (some ⟨b, 0, none⟩)) rfl (by kernel_rfl) (by kernel_rfl) (by kernel_rfl) (by kernel_rfl) (fun _ _ _ h => h) rfl (fun w' hS => by have s1 := hS; go_simp) hS0 ?_
  try simp only [Act.put, List.setIfInBounds_toArray, List.set_cons_zero, List.set_cons_succ]
  refine wpE_take (i := 3) (v := .int .i64 d) rfl (by kernel_rfl) (by kernel_rfl) (by kernel_rfl) (by kernel_rfl) (fun _ _ _ h => h) rfl (fun w' hS => by have s1 := hS; go_simp) hS0 ?_
  try simp only [Act.put, List.setIfInBounds_toArray, List.set_cons_zero, List.set_cons_succ]
  refine wpE_take (i := 1) (v := .slice ao n cap) rfl (by kernel_rfl) (by kernel_rfl) (by kernel_rfl) (by kernel_rfl) (fun _ _ _ h => h) rfl (fun w' hS => by have s1 := hS; go_simp) hS0 ?_
  try simp only [Act.put, List.setIfInBounds_toArray, List.set_cons_zero, List.set_cons_succ]
  refine wpE_take (i := 4) (v := .int .i64 ((d : Int) + 1)) rfl (by kernel_rfl) (by kernel_rfl) (by kernel_rfl) (by kernel_rfl) (fun _ _ _ h => h) rfl (fun w' hS => by have s1 := hS; go_simp) hS0 ?_
  try simp only [Act.put, List.setIfInBounds_toArray, List.set_cons_zero, List.set_cons_succ]
  refine wpE_one (i := 5) (by kernel_rfl) rfl rfl (fun K hK => ?_)
  go_simp
  refine (hexp _ _ hRd).mono ?_
  rintro e w4 ⟨k2, o2, n2, t2, ao2, an2, ac2, p2, rfl, hR4, hg4, hx4⟩
  have hgQ4 : Fr b v7 w4 := (Fr.drewN b v7 1).trans hg4
  have h4 := hT.call hgQ4 hR4
  have hx5 : ∀ x, (∃ l', lift E (.inl rr) = .inl (x, l')) → IsEx (fun k => gs + 1 ≤ k ∧ (Value.slice ao n cap).ownBlock ≠ some k) w4 x (exL k2 o2 n2 t2 (.slice ao2 an2 ac2) p2) := fun x ⟨l', hl'⟩ => (hx4 x l' hl').low (fun k h1 h2 => ⟨by have : v7.heap.size ≤ k := h1; omega, fun e => by have := (hT.own.lt k e).2; have : v7.heap.size ≤ k := h1; omega⟩)
  have y6 := (cells_of9 h4.box).2.2.2.2.2.1
  obtain ⟨l4, _⟩ := h4.lts
  refine hK _ _ (fun _ => y6) ?_
  clear hK K
  try simp only [Act.put, List.setIfInBounds_toArray, List.set_cons_zero, List.set_cons_succ]
  refine wpE_one (i := 6) (by kernel_rfl) rfl rfl (fun K hK => ?_)
  go_simp
  refine hK _ _ (fun _ => (World.cell?_of_block (w := w4) (heap_old l4)).trans y6) ?_
  clear hK K
  try simp only [Act.put, List.setIfInBounds_toArray, List.set_cons_zero, List.set_cons_succ]
  refine wpE_one (i := 7) (by kernel_rfl) rfl rfl (fun K hK => ?_)
  refine wp_append_lies _ (.tmp 157) (.tmp 162) 47 rfl (gs + 1) 51 i0 _ 8 96 Tryz.underlying47 hi0 hz0 hz1 hz2 rfl (by omega) (.slice ao n cap) n row rfl (h4.own.alloc _) ⟨w4.heap.size, 0, none⟩ 1 1 (exL k2 o2 n2 t2 (.slice ao2 an2 ac2) p2) rfl rfl (World.news_of_block (heap_new w4 _)) (by simp [Value.oneCell']) (by omega) (by unfold maxLen; omega) (by omega) (by simp; omega) (w4.heap.size + 1) (by simp) ?_
  intro g cap5 w5 hown5 hgrow hat5 hlt5
  have hG := grewB hgrow hat5
  have far : some gs ≠ (Value.slice ao n cap).ownBlock := fun e => by have := (h4.own.lt gs e.symm).1; omega
  have hb5 : w5.heap[gs]? = w4.heap[gs]? := hG.block gs l4 far
  have z6 : w5.cell? ⟨gs, 5, none⟩ = some (.slice ao n cap) := (World.cell?_of_block (w := w4) hb5).trans y6
  have zf : w5.frozen? ⟨gs, 5, none⟩ = false := (World.frozen?_of_block (w := w4) hb5).trans (by have h9 := h4.box; simp [World.frozen?, h9])
  refine hK _ _ (fun _ => z6) ?_
  clear hK K
  try simp only [Act.put, List.setIfInBounds_toArray, List.set_cons_zero, List.set_cons_succ]
  refine wpE_takeL (i := 8) (v := .pointer (some ⟨gs, 5, none⟩)) rfl (by kernel_rfl) (by kernel_rfl) (by kernel_rfl) rfl (fun _ _ _ h => h) rfl (fun w' => by go_simp) ?_
  try simp only [Act.put, List.setIfInBounds_toArray, List.set_cons_zero, List.set_cons_succ]
  refine wpE_one (i := 9) (by kernel_rfl) rfl rfl (fun K hK => ?_)
  go_simp
  refine hK _ _ (fun h => absurd h (by decide)) (wpE_done (by kernel_rfl) ?_)
  clear hK K
  have hv8 := h4.app hG hown5 hx5 rfl
  generalize w5.setCell ⟨gs, 5, none⟩ (.slice (some ⟨g, 0, none⟩) (n + 1) cap5) = v8 at *
  clear hT h4 hG hown5 hx5 hx4 hR4 hg4 hgQ4 hgrow hat5 hlt5 far hb5 z6 zf y6 l4 c6 hRd hS0 q1 q2 q3 q4 q5 q6 q7 q8 q9 q10
  obtain ⟨q1, q2, q3, q4, q5, q6, q7, q8, q9, q10⟩ := hv8.lts
  go_wp2_with fail
  clear q1 q2 q3 q4 q5 q6 q7 q8 q9 q10
  refine (need_any b ga ca ts _ [59] v8 hv8.rs).mono ?_
  rintro e v9 ⟨rfl, hRz, hgz⟩
  have hv9 := hv8.call hgz hRz
  clear hv8 hRz hgz
  have hend := hv9.ret (q := Px.stmt E B) (l := u :: rr) (by rw [hU.out]; exact ret_st s5) (fun s l' hs => by
    rw [hU.out] at hs
    obtain ⟨x, l3, e2, rfl⟩ := ret_val s5 hs
    exact ⟨[x], [], [], ⟨[], x, rfl, ⟨l3, e2⟩, rfl⟩, rfl, rfl, rfl⟩)
  obtain ⟨q1, q2, q3, q4, q5, q6, q7, q8, q9, q10⟩ := hv9.lts
  obtain ⟨y0, y1, y2, y3, y4, y5, y6, y7, y8, _⟩ := cells_of9 hv9.box
  obtain ⟨e0, e1, e2, e3, e4, e5, e6, e7, e8, m0, m1, m2, m3, m4, m5, m6, m7, m8⟩ := cells_of9 hv9.out
  clear hv9
  generalize w.heap.size = gr at *
  go_wp2
  exact bodyPost_ret (v := sV 6 [] (.slice (some ⟨g, 0, none⟩) (n + 1) cap5) (.slice none 0 0) (.slice none 0 0) u.place) (by simp [results, Tryz.results61, go_sem, e0, e1, e2, e3, e4, e5, e6, e7, e8]) rfl hend
end Go.Proofs.YtnmdnjdibdmodaaGreatDoor
/- The document's statement, walked: bad. -/
namespace Go.Proofs.YtnmdnjdibdmodaaGreatDoor
open Go.RowKit
set_option linter.unusedSimpArgs false
set_option linter.unusedVariables false

set_option maxRecDepth 100000 in
set_option maxHeartbeats 16000000 in
theorem rst_bad (b ga ca : Nat) (ts : List Lx.Tok) (d : Nat) (hd : d ≤ 24) (E : Px.P Px.Ex) (B : Px.P (List Px.St))
    (hexp : ∀ (S : RSt) (w : World), RS b ga ca ts S w → Calls Tryz.prog 79 #[.pointer (some ⟨b, 0, none⟩), .int .i64 ((d : Int) + 1)] w fun r w' => EP b ga ca ts E S w r w')
    (hblk : ∀ (S : RSt) (w : World), RS b ga ca ts S w → Calls Tryz.prog 41 #[.pointer (some ⟨b, 0, none⟩), .int .i64 ((d : Int) + 1)] w fun r w' => BP b ga ca ts B S w r w')
    (u : Lx.Tok) (rr : List Lx.Tok) (w : World) (h : RS b ga ca ts (.inl (u :: rr)) w)
    (s0 : Px.sees 1 [108, 101, 116] (u :: rr) = false)
    (s1 : Px.sees 1 [115, 101, 116] (u :: rr) = false)
    (s2 : Px.sees 1 [100, 101, 108] (u :: rr) = false)
    (s3 : Px.sees 1 [105, 102] (u :: rr) = false)
    (s4 : Px.sees 1 [102, 111, 114] (u :: rr) = false)
    (s5 : Px.sees 1 [114, 101, 116] (u :: rr) = false) :
    Calls Tryz.prog 61 #[.pointer (some ⟨b, 0, none⟩), .int .i64 d] w fun r w' => SP b ga ca ts (Px.stmt E B) (.inl (u :: rr)) w r w' := by
  have hwr : IntKind.i64.wrap ((d : Int) + 1) = (d : Int) + 1 := IntWalk.i64_in _ (by omega)
  have hbl := (h.at).choose_spec.choose_spec.choose_spec.1.there
  have hgl := (h.at).choose_spec.choose_spec.choose_spec.1.gl
  have hb0 : Below w.heap.size w (w.alloc zeroS) := (Below.refl _ _).alloc (Nat.le_refl _) _
  have ho0 : (w.alloc zeroS).heap[w.heap.size]? = some zeroS := heap_new w _
  have hR0 := h.below hb0
  have hf0 : Fr b w (w.alloc zeroS) := Fr.of_below hb0
  have hsz0 : w.heap.size < (w.alloc zeroS).heap.size := by simp
  obtain ⟨Nl, hNl, hr1⟩ := hR0.2
  obtain ⟨hu, hN2, hlt⟩ := drop_head hNl
  have hltI : (Nl : Int) < (ts.length : Int) := by omega
  have t0 : seesS 1 [108, 101, 116] (.inl (u :: rr)) = false := s0
  have t1 : seesS 1 [115, 101, 116] (.inl (u :: rr)) = false := s1
  have t2 : seesS 1 [100, 101, 108] (.inl (u :: rr)) = false := s2
  have t3 : seesS 1 [105, 102] (.inl (u :: rr)) = false := s3
  have t4 : seesS 1 [102, 111, 114] (.inl (u :: rr)) = false := s4
  have t5 : seesS 1 [114, 101, 116] (.inl (u :: rr)) = false := s5
  have hU : Aside (lift (Px.stmt E B) (.inl (u :: rr)) = retR E u.place (u :: rr)) := by
    show _ = _
    simp only [lift]
    rw [stmt_forms, if_neg (by rw [s0]; simp), if_neg (by rw [s1]; simp), if_neg (by rw [s2]; simp), if_neg (by rw [s3]; simp), if_neg (by rw [s4]; simp)]; rfl
  obtain ⟨i0, hi0, hz0, hz1, hz2⟩ := info_parts exprInfo
  go_enter Tryz.func61, Tryz.ntmps61
  go_upto_region 1 with fail
  generalize w.alloc zeroS = wz at *
  obtain ⟨c0, c1, c2, c3, f1, f2, f3⟩ := hr1.cells
  obtain ⟨x0, x1, x2, x3⟩ := hr1.row Nl u hu
  have hb3 := hr1.there
  have hgl3 := hr1.gl
  have hfew := hr1.few
  clear hb0 h
  go_region
  have hbA : Below wz.heap.size wz ((wz.alloc (sO 0 [] (.slice none 0 0) (.slice none 0 0) (.slice none 0 0) u.place)).drew) := ((Below.refl _ _).alloc (Nat.le_refl _) _).trans ⟨rfl, rfl, rfl, Nat.le_refl _, fun _ _ => rfl⟩
  have hv0 : RT b ga ca ts wz.heap.size w (.inl (u :: rr)) 0 [] none 0 0 [] (.slice none 0 0) (.slice none 0 0) u.place (· = []) (· = []) (· = []) ((wz.alloc (sO 0 [] (.slice none 0 0) (.slice none 0 0) (.slice none 0 0) u.place)).drew) :=
    ⟨hR0.below hbA, heap_new wz _, (hbA.block _ hsz0).trans ho0, hf0.trans (Fr.of_below hbA), ⟨rfl, Or.inl ⟨rfl, rfl⟩⟩, fun xs hx => by rw [hx]; exact ⟨rfl, by rw [AllEx]⟩, fun xs hx => by rw [hx]; exact IsSts.nil' _ _, fun xs hx => by rw [hx]; exact IsSts.nil' _ _, ⟨hbl, hgl, hsz0⟩⟩
  clear c0 c1 c2 c3 f1 f2 f3 x0 x1 x2 x3 hbA hR0 hf0 hr1 hb3 hgl3 hsz0 ho0 hNl hu hN2 hlt hltI
  generalize (wz.alloc (sO 0 [] (.slice none 0 0) (.slice none 0 0) (.slice none 0 0) u.place)).drew = v0 at *
  generalize wz.heap.size = gs at *
  obtain ⟨q1, q2, q3, q4, q5, q6, q7, q8, q9, q10⟩ := hv0.lts
  go_wp2_with fail
  refine (got_any b ga ca ts _ 1 [108, 101, 116] v0 (by decide) hv0.rs).mono ?_
  rintro e v1 ⟨rfl, hRz, hgz⟩
  rw [gotS_no t0] at hRz
  rw [t0]
  have hv1 := hv0.call hgz hRz
  clear hv0 hRz hgz q1 q2 q3 q4 q5 q6 q7 q8 q9 q10
  obtain ⟨q1, q2, q3, q4, q5, q6, q7, q8, q9, q10⟩ := hv1.lts
  go_wp2_with fail
  refine (got_any b ga ca ts _ 1 [115, 101, 116] v1 (by decide) hv1.rs).mono ?_
  rintro e v2 ⟨rfl, hRz, hgz⟩
  rw [gotS_no t1] at hRz
  rw [t1]
  have hv2 := hv1.call hgz hRz
  clear hv1 hRz hgz q1 q2 q3 q4 q5 q6 q7 q8 q9 q10
  obtain ⟨q1, q2, q3, q4, q5, q6, q7, q8, q9, q10⟩ := hv2.lts
  go_wp2_with fail
  refine (got_any b ga ca ts _ 1 [100, 101, 108] v2 (by decide) hv2.rs).mono ?_
  rintro e v3 ⟨rfl, hRz, hgz⟩
  rw [gotS_no t2] at hRz
  rw [t2]
  have hv3 := hv2.call hgz hRz
  clear hv2 hRz hgz q1 q2 q3 q4 q5 q6 q7 q8 q9 q10
  obtain ⟨q1, q2, q3, q4, q5, q6, q7, q8, q9, q10⟩ := hv3.lts
  go_wp2_with fail
  refine (got_any b ga ca ts _ 1 [105, 102] v3 (by decide) hv3.rs).mono ?_
  rintro e v4 ⟨rfl, hRz, hgz⟩
  rw [gotS_no t3] at hRz
  rw [t3]
  have hv4 := hv3.call hgz hRz
  clear hv3 hRz hgz q1 q2 q3 q4 q5 q6 q7 q8 q9 q10
  obtain ⟨q1, q2, q3, q4, q5, q6, q7, q8, q9, q10⟩ := hv4.lts
  go_wp2_with fail
  refine (got_any b ga ca ts _ 1 [102, 111, 114] v4 (by decide) hv4.rs).mono ?_
  rintro e v5 ⟨rfl, hRz, hgz⟩
  rw [gotS_no t4] at hRz
  rw [t4]
  have hv5 := hv4.call hgz hRz
  clear hv4 hRz hgz q1 q2 q3 q4 q5 q6 q7 q8 q9 q10
  obtain ⟨q1, q2, q3, q4, q5, q6, q7, q8, q9, q10⟩ := hv5.lts
  go_wp2_with fail
  refine (got_any b ga ca ts _ 1 [114, 101, 116] v5 (by decide) hv5.rs).mono ?_
  rintro e v6 ⟨rfl, hRz, hgz⟩
  rw [gotS_no t5] at hRz
  rw [t5]
  have hv6 := hv5.call hgz hRz
  clear hv5 hRz hgz q1 q2 q3 q4 q5 q6 q7 q8 q9 q10
  go_wp2_with fail
  refine (fail_any b ga ca ts _ 31 v6 (by decide) hv6.rs).mono ?_
  rintro e v7 ⟨rfl, hRz, hgz⟩
  have hv7 := hv6.call hgz hRz
  clear hv6 hRz hgz
  have hend := hv7.ret (q := Px.stmt E B) (l := u :: rr) (by rw [hU.out, ret_no s5]; rfl) (fun s l' hs => by rw [hU.out, ret_no s5] at hs; simp at hs)
  obtain ⟨q1, q2, q3, q4, q5, q6, q7, q8, q9, q10⟩ := hv7.lts
  obtain ⟨y0, y1, y2, y3, y4, y5, y6, y7, y8, _⟩ := cells_of9 hv7.box
  obtain ⟨e0, e1, e2, e3, e4, e5, e6, e7, e8, m0, m1, m2, m3, m4, m5, m6, m7, m8⟩ := cells_of9 hv7.out
  clear hv7
  generalize w.heap.size = gr at *
  go_wp2
  exact bodyPost_ret (v := sV 0 [] (.slice none 0 0) (.slice none 0 0) (.slice none 0 0) u.place) (by simp [results, Tryz.results61, go_sem, e0, e1, e2, e3, e4, e5, e6, e7, e8]) rfl hend
end Go.Proofs.YtnmdnjdibdmodaaGreatDoor
/- The document's statements and blocks at every depth. -/
namespace Go.Proofs.YtnmdnjdibdmodaaGreatDoor
open Go.RowKit

theorem rstm_any (b ga ca : Nat) (ts : List Lx.Tok) (d : Nat) (hd : d ≤ 24) (E : Px.P Px.Ex) (B : Px.P (List Px.St))
    (hexp : ∀ (S : RSt) (w : World), RS b ga ca ts S w → Calls Tryz.prog 79 #[.pointer (some ⟨b, 0, none⟩), .int .i64 ((d : Int) + 1)] w fun r w' => EP b ga ca ts E S w r w')
    (hblk : ∀ (S : RSt) (w : World), RS b ga ca ts S w → Calls Tryz.prog 41 #[.pointer (some ⟨b, 0, none⟩), .int .i64 ((d : Int) + 1)] w fun r w' => BP b ga ca ts B S w r w')
    (l : List Lx.Tok) (w : World) (h : RS b ga ca ts (.inl l) w) :
    Calls Tryz.prog 61 #[.pointer (some ⟨b, 0, none⟩), .int .i64 d] w fun r w' => SP b ga ca ts (Px.stmt E B) (.inl l) w r w' := by
  obtain ⟨u, rr, rfl⟩ : ∃ u rr, l = u :: rr := by
    cases l with
    | nil => exact absurd h.1 (by simp [Px.Good])
    | cons u rr => exact ⟨u, rr, rfl⟩
  rcases s0 : Px.sees 1 [108, 101, 116] (u :: rr) with _ | _
  case true => exact rst_let b ga ca ts d hd E B hexp hblk u rr w h s0
  rcases s1 : Px.sees 1 [115, 101, 116] (u :: rr) with _ | _
  case true => exact rst_set b ga ca ts d hd E B hexp hblk u rr w h s0 s1
  rcases s2 : Px.sees 1 [100, 101, 108] (u :: rr) with _ | _
  case true => exact rst_del b ga ca ts d hd E B hexp hblk u rr w h s0 s1 s2
  rcases s3 : Px.sees 1 [105, 102] (u :: rr) with _ | _
  case true => exact rst_if b ga ca ts d hd E B hexp hblk u rr w h s0 s1 s2 s3
  rcases s4 : Px.sees 1 [102, 111, 114] (u :: rr) with _ | _
  case true => exact rst_for b ga ca ts d hd E B hexp hblk u rr w h s0 s1 s2 s3 s4
  rcases s5 : Px.sees 1 [114, 101, 116] (u :: rr) with _ | _
  case true => exact rst_ret b ga ca ts d hd E B hexp hblk u rr w h s0 s1 s2 s3 s4 s5
  case false => exact rst_bad b ga ca ts d hd E B hexp hblk u rr w h s0 s1 s2 s3 s4 s5
theorem rblock_any (b ga ca : Nat) (ts : List Lx.Tok) : ∀ (k d : Nat), d + k = 25 → ∀ (S : RSt) (w : World), RS b ga ca ts S w → Calls Tryz.prog 41 #[.pointer (some ⟨b, 0, none⟩), .int .i64 d] w fun r w' => BP b ga ca ts (Px.block k) S w r w'
  | 0, d, hd, S, w, h => by
    refine rblk_walk b ga ca ts d (by omega) (Px.stmt (Px.expr 0) (Px.block 0)) (Px.stmt_ok (Px.expr_ok 0) (Px.block_ok 0)) (lift (Px.block 0) S) S w h (fun h24 => absurd h24 (by omega)) (Or.inr ?_)
    unfold deepS
    rw [if_pos (by omega)]
    rcases S with l | f
    · exact ⟨_, rfl, rfl⟩
    · exact ⟨_, rfl, rfl⟩
  | k + 1, d, hd, S, w, h => by
    have hexp : ∀ (S : RSt) (w : World), RS b ga ca ts S w → Calls Tryz.prog 79 #[.pointer (some ⟨b, 0, none⟩), .int .i64 ((d : Int) + 1)] w fun r w' => EP b ga ca ts (Px.expr k) S w r w' := fun S w h => rexpr_any b ga ca ts k (d + 1) (by omega) S w h
    have hblk : ∀ (S : RSt) (w : World), RS b ga ca ts S w → Calls Tryz.prog 41 #[.pointer (some ⟨b, 0, none⟩), .int .i64 ((d : Int) + 1)] w fun r w' => BP b ga ca ts (Px.block k) S w r w' := fun S w h => rblock_any b ga ca ts k (d + 1) (by omega) S w h
    refine rblk_walk b ga ca ts d (by omega) (Px.stmt (Px.expr k) (Px.block k)) (Px.stmt_ok (Px.expr_ok k) (Px.block_ok k)) (lift (Px.block (k + 1)) S) S w h (fun h24 l w h => rstm_any b ga ca ts d h24 (Px.expr k) (Px.block k) hexp hblk l w h) ?_
    show _ ∨ _
    unfold deepS
    rw [if_neg (by omega)]
    rcases S with l | f
    · simp only [needS, lift, Px.block]
      rcases Px.need [123] l with ⟨v, l1⟩ | f
      · exact Or.inl ⟨l1, by omega, rfl, rfl⟩
      · exact Or.inr ⟨f, rfl, rfl⟩
    · exact Or.inr ⟨f, rfl, rfl⟩
end Go.Proofs.YtnmdnjdibdmodaaGreatDoor
