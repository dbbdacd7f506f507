import Derived.Test.YtifebbdjdllfpaaGreatDoorPxSim
import Derived.Test.YtifebbdjdllfpaaGreatDoorPxCmp
/- Programs as words again, in plain mathematics: the tokens that Show writes of an expression, how deep they are, and that no reading had fewer or shallower ones. Nothing of the model is in this text. -/
namespace Go.Proofs.YtifebbdjdllfpaaGreatDoor.Px
open Go.Proofs.YtifebbdjdllfpaaGreatDoor.Lx (Tok B)
set_option linter.unusedVariables false
set_option linter.unusedSimpArgs false

def Ex.k : Ex → Nat
  | .mk k _ _ _ _ _ => k
def Ex.o : Ex → Nat
  | .mk _ o _ _ _ _ => o
instance : Inhabited Ex := ⟨.mk 0 0 0 [] [] 0⟩
def mk4 (x : B) : Tok := ⟨4, x, 0, 0⟩
def wd (x : B) : Tok := ⟨1, x, 0, 0⟩
/-- A number's digits. -/
def dgF : Nat → Nat → B
  | 0, _ => []
  | f + 1, n => if n < 10 then [UInt8.ofNat (48 + n)] else dgF f (n / 10) ++ [UInt8.ofNat (48 + n % 10)]
def dg (n : Nat) : B := dgF (n + 1) n
def opL (o : Nat) : Nat := if o = 1 then 1 else if o = 2 then 2 else if 3 ≤ o ∧ o ≤ 8 then 3 else if o = 9 ∨ o = 10 then 4 else if 11 ≤ o ∧ o ≤ 13 then 5 else 0
def opX (o : Nat) : B := ([[], [124, 124], [38, 38], [61, 61], [33, 61], [60], [60, 61], [62], [62, 61], [43], [45], [42], [47], [37]] : List B).getD o []
theorem op_cases {o : Nat} (h1 : 1 ≤ o) (h2 : o ≤ 13) : o = 1 ∨ o = 2 ∨ o = 3 ∨ o = 4 ∨ o = 5 ∨ o = 6 ∨ o = 7 ∨ o = 8 ∨ o = 9 ∨ o = 10 ∨ o = 11 ∨ o = 12 ∨ o = 13 := by omega
theorem levelOf_op {o p : Nat} (h1 : 1 ≤ o) (h2 : o ≤ 13) : levelOf ⟨4, opX o, 0, p⟩ = (opL o, o) := by
  rcases op_cases h1 h2 with rfl | rfl | rfl | rfl | rfl | rfl | rfl | rfl | rfl | rfl | rfl | rfl | rfl <;> rfl
theorem opL_pos {o : Nat} (h1 : 1 ≤ o) (h2 : o ≤ 13) : 1 ≤ opL o ∧ opL o ≤ 5 := by
  rcases op_cases h1 h2 with rfl | rfl | rfl | rfl | rfl | rfl | rfl | rfl | rfl | rfl | rfl | rfl | rfl <;> decide
/-- What an operator's token tells. -/
theorem levelOf_cases (t : Tok) : levelOf t = (0, 0) ∨ (1 ≤ (levelOf t).2 ∧ (levelOf t).2 ≤ 13 ∧ (levelOf t).1 = opL (levelOf t).2) := by
  unfold levelOf
  by_cases hk : t.kind = 4
  case neg => rw [if_neg hk]; exact Or.inl rfl
  rw [if_pos hk]
  by_cases h0 : t.text = [124, 124]
  case pos => rw [if_pos h0]; exact Or.inr (by decide)
  rw [if_neg h0]
  by_cases h1 : t.text = [38, 38]
  case pos => rw [if_pos h1]; exact Or.inr (by decide)
  rw [if_neg h1]
  by_cases h2 : t.text = [61, 61]
  case pos => rw [if_pos h2]; exact Or.inr (by decide)
  rw [if_neg h2]
  by_cases h3 : t.text = [33, 61]
  case pos => rw [if_pos h3]; exact Or.inr (by decide)
  rw [if_neg h3]
  by_cases h4 : t.text = [60]
  case pos => rw [if_pos h4]; exact Or.inr (by decide)
  rw [if_neg h4]
  by_cases h5 : t.text = [60, 61]
  case pos => rw [if_pos h5]; exact Or.inr (by decide)
  rw [if_neg h5]
  by_cases h6 : t.text = [62]
  case pos => rw [if_pos h6]; exact Or.inr (by decide)
  rw [if_neg h6]
  by_cases h7 : t.text = [62, 61]
  case pos => rw [if_pos h7]; exact Or.inr (by decide)
  rw [if_neg h7]
  by_cases h8 : t.text = [43]
  case pos => rw [if_pos h8]; exact Or.inr (by decide)
  rw [if_neg h8]
  by_cases h9 : t.text = [45]
  case pos => rw [if_pos h9]; exact Or.inr (by decide)
  rw [if_neg h9]
  by_cases h10 : t.text = [42]
  case pos => rw [if_pos h10]; exact Or.inr (by decide)
  rw [if_neg h10]
  by_cases h11 : t.text = [47]
  case pos => rw [if_pos h11]; exact Or.inr (by decide)
  rw [if_neg h11]
  by_cases h12 : t.text = [37]
  case pos => rw [if_pos h12]; exact Or.inr (by decide)
  rw [if_neg h12]
  exact Or.inl rfl
/-- Does an expression stand in brackets where one of level n is asked for? (6: behind a unary mark; 7: ahead of a square bracket.) -/
def lowE (n : Nat) (e : Ex) : Bool := (e.k == 15 && decide (opL e.o < n)) || (decide (6 < n) && (e.k == 13 || e.k == 14))
/-- The level that is asked for on an operator's left. -/
def lv (o : Nat) : Nat := if opL o = 3 then 4 else opL o
def within (b : Bool) (l : List Tok) : List Tok := if b then mk4 [40] :: (l ++ [mk4 [41]]) else l
def commas : List (List Tok) → List Tok
  | [] => []
  | [a] => a
  | a :: b :: r => a ++ mk4 [44] :: commas (b :: r)
def exK (k o n : Nat) (t : B) (args : List Ex) (as : List (List Tok)) : List Tok :=
  if k = 1 then [⟨2, dg n, n, 0⟩] else if k = 2 then [wd (if n = 1 then [116, 114, 117, 101] else [102, 97, 108, 115, 101])] else if k = 3 then [⟨3, t, 0, 0⟩] else if k = 6 then [wd t]
  else if k = 7 then wd t :: mk4 [40] :: (commas as ++ [mk4 [41]])
  else if k = 12 then within (lowE 7 (args.getD 0 default)) (as.getD 0 []) ++ mk4 [91] :: (as.getD 1 [] ++ [mk4 [93]])
  else if k = 13 then mk4 [45] :: within (lowE 6 (args.getD 0 default)) (as.getD 0 [])
  else if k = 14 then mk4 [33] :: within (lowE 6 (args.getD 0 default)) (as.getD 0 [])
  else within (lowE (lv o) (args.getD 0 default)) (as.getD 0 []) ++ mk4 (opX o) :: within (lowE (opL o + 1) (args.getD 1 default)) (as.getD 1 [])
mutual
/-- The tokens that are written of an expression. -/
def exT : Ex → List Tok
  | .mk k o n t args _ => exK k o n t args (exTs args)
def exTs : List Ex → List (List Tok)
  | [] => []
  | e :: r => exT e :: exTs r
end
def maxL : List Nat → Nat
  | [] => 0
  | a :: r => max a (maxL r)
def bump (b : Bool) (d : Nat) : Nat := if b then d + 1 else d
def dK (k o : Nat) (args : List Ex) (as : List Nat) : Nat :=
  if k = 7 then 1 + maxL as
  else if k = 12 then max (bump (lowE 7 (args.getD 0 default)) (as.getD 0 0)) (1 + as.getD 1 0)
  else if k = 13 ∨ k = 14 then 1 + bump (lowE 6 (args.getD 0 default)) (as.getD 0 0)
  else if k = 15 then max (bump (lowE (lv o) (args.getD 0 default)) (as.getD 0 0)) (bump (lowE (opL o + 1) (args.getD 1 default)) (as.getD 1 0))
  else 1
mutual
/-- How deep they are. -/
def exD : Ex → Nat
  | .mk k o n t args _ => dK k o args (exDs args)
def exDs : List Ex → List Nat
  | [] => []
  | e :: r => exD e :: exDs r
end
theorem exTs_map : ∀ l, exTs l = l.map exT
  | [] => by simp [exTs]
  | e :: r => by simp [exTs, exTs_map r]
theorem exDs_map : ∀ l, exDs l = l.map exD
  | [] => by simp [exDs]
  | e :: r => by simp [exDs, exDs_map r]
/-- At level n. -/
def wT (n : Nat) (e : Ex) : List Tok := within (lowE n e) (exT e)
def wD (n : Nat) (e : Ex) : Nat := bump (lowE n e) (exD e)
theorem exT_at (o n : Nat) (t : B) (a b : Ex) (p : Nat) : exT (.mk 12 o n t [a, b] p) = wT 7 a ++ mk4 [91] :: (exT b ++ [mk4 [93]]) := by simp [exT, exK, exTs, wT]
theorem exT_neg (o n : Nat) (t : B) (a : Ex) (p : Nat) : exT (.mk 13 o n t [a] p) = mk4 [45] :: wT 6 a := by simp [exT, exK, exTs, wT]
theorem exT_not (o n : Nat) (t : B) (a : Ex) (p : Nat) : exT (.mk 14 o n t [a] p) = mk4 [33] :: wT 6 a := by simp [exT, exK, exTs, wT]
theorem exT_bin (o n : Nat) (t : B) (a b : Ex) (p : Nat) : exT (.mk 15 o n t [a, b] p) = wT (lv o) a ++ mk4 (opX o) :: wT (opL o + 1) b := by simp [exT, exK, exTs, wT]
theorem exT_call (o n : Nat) (t : B) (a : List Ex) (p : Nat) : exT (.mk 7 o n t a p) = wd t :: mk4 [40] :: (commas (a.map exT) ++ [mk4 [41]]) := by simp [exT, exK, exTs_map]
theorem exD_at (o n : Nat) (t : B) (a b : Ex) (p : Nat) : exD (.mk 12 o n t [a, b] p) = max (wD 7 a) (1 + exD b) := by simp [exD, dK, exDs, wD]
theorem exD_un (k o n : Nat) (t : B) (a : Ex) (p : Nat) (hk : k = 13 ∨ k = 14) : exD (.mk k o n t [a] p) = 1 + wD 6 a := by
  rcases hk with rfl | rfl <;> simp [exD, dK, exDs, wD]
theorem exD_bin (o n : Nat) (t : B) (a b : Ex) (p : Nat) : exD (.mk 15 o n t [a, b] p) = max (wD (lv o) a) (wD (opL o + 1) b) := by simp [exD, dK, exDs, wD]
theorem exD_call (o n : Nat) (t : B) (a : List Ex) (p : Nat) : exD (.mk 7 o n t a p) = 1 + maxL (a.map exD) := by simp [exD, dK, exDs_map]
/-- What a reading's expression may be; V: what holds of the tokens. -/
def FormK (V : Nat → B → Nat → Prop) (k o n : Nat) (t : B) (len : Nat) : Prop :=
  (k = 1 ∧ o = 0 ∧ t = [] ∧ len = 0 ∧ ∃ x, V 2 x n) ∨ (k = 2 ∧ o = 0 ∧ t = [] ∧ len = 0 ∧ n ≤ 1) ∨ (k = 3 ∧ o = 0 ∧ n = 0 ∧ len = 0 ∧ V 3 t 0) ∨ (k = 6 ∧ o = 0 ∧ n = 0 ∧ len = 0 ∧ reserved t = false ∧ V 1 t 0) ∨ (k = 7 ∧ o = 0 ∧ n = 0 ∧ reserved t = false ∧ V 1 t 0) ∨
  (k = 12 ∧ o = 0 ∧ n = 0 ∧ t = [] ∧ len = 2) ∨ ((k = 13 ∨ k = 14) ∧ o = 0 ∧ n = 0 ∧ t = [] ∧ len = 1) ∨ (k = 15 ∧ 1 ≤ o ∧ o ≤ 13 ∧ n = 0 ∧ t = [] ∧ len = 2)
mutual
def WfE (V : Nat → B → Nat → Prop) : Ex → Prop
  | .mk k o n t args _ => FormK V k o n t args.length ∧ WfEs V args
def WfEs (V : Nat → B → Nat → Prop) : List Ex → Prop
  | [] => True
  | e :: r => WfE V e ∧ WfEs V r
end
theorem WfEs_all {V : Nat → B → Nat → Prop} : ∀ {l : List Ex}, WfEs V l ↔ ∀ e ∈ l, WfE V e
  | [] => by simp [WfEs]
  | e :: r => by simp [WfEs, WfEs_all (l := r)]
/-- The tokens hold what V says. (A name has no number, nor has a text.) -/
def AllV (V : Nat → B → Nat → Prop) (l : List Tok) : Prop := ∀ t ∈ l, (t.kind = 1 → V 1 t.text 0) ∧ (t.kind = 2 → V 2 t.text t.num) ∧ (t.kind = 3 → V 3 t.text 0)
theorem AllV.suf {V : Nat → B → Nat → Prop} {l l' : List Tok} (h : AllV V l) (s : l' <:+ l) : AllV V l' := fun t ht => h t (s.subset ht)
theorem lowE_mono {m n : Nat} {e : Ex} (h : m ≤ n) (hl : lowE m e = true) : lowE n e = true := by
  simp only [lowE, Bool.or_eq_true, Bool.and_eq_true, decide_eq_true_eq, beq_iff_eq] at hl ⊢
  rcases hl with h1 | h1
  · exact Or.inl ⟨h1.1, by omega⟩
  · exact Or.inr ⟨by omega, h1.2⟩
theorem within_len (b : Bool) (l : List Tok) : (within b l).length = l.length + (if b then 2 else 0) := by
  cases b <;> simp [within]
theorem wT_mono {m n : Nat} {e : Ex} (h : m ≤ n) : (wT m e).length ≤ (wT n e).length := by
  simp only [wT, within_len]
  rcases h1 : lowE m e with _ | _
  · simp
  · rw [lowE_mono h h1]; simp
theorem wD_mono {m n : Nat} {e : Ex} (h : m ≤ n) : wD m e ≤ wD n e := by
  simp only [wD, bump]
  rcases h1 : lowE m e with _ | _
  · simp; split <;> omega
  · rw [lowE_mono h h1]; simp
theorem wT_up (n : Nat) (e : Ex) : (wT n e).length ≤ (exT e).length + 2 := by
  simp only [wT, within_len]; split <;> omega
theorem wD_up (n : Nat) (e : Ex) : wD n e ≤ exD e + 1 := by simp only [wD, bump]; split <;> omega
theorem wT_no {n : Nat} {e : Ex} (h : lowE n e = false) : wT n e = exT e := by simp [wT, h, within]
theorem wD_no {n : Nat} {e : Ex} (h : lowE n e = false) : wD n e = exD e := by simp [wD, h, bump]
/-- What a part that reads an expression at level n, with k depths left, answers: its words are no more, and no deeper. -/
def Sm (V : Nat → B → Nat → Prop) (n k : Nat) (q : P Ex) : Prop := ∀ l e l', AllV V l → q l = .inl (e, l') → WfE V e ∧ wD n e ≤ k ∧ (wT n e).length + l'.length ≤ l.length ∧ l' <:+ l
theorem bind_some {α β : Type} {r : R α} {f : α → List Tok → R β} {y : β} {l' : List Tok} (h : bind r f = .inl (y, l')) : ∃ x l, r = .inl (x, l) ∧ f x l = .inl (y, l') := by
  match r, h with
  | .inl (x, l), h => exact ⟨x, l, rfl, h⟩
  | .inr e, h => simp [bind] at h
theorem needK_some {k : Nat} {x : B} {l l' : List Tok} {u : Unit} (h : needK k x l = .inl (u, l')) : ∃ t, l = t :: l' ∧ t.kind = k ∧ t.text = x := by
  unfold needK at h
  split at h
  · rename_i hs
    obtain ⟨t, r, rfl, h1, h2⟩ := sees_head hs
    simp at h
    exact ⟨t, by rw [← h], h1, h2⟩
  · simp [fail] at h
theorem need_some {x : B} {l l' : List Tok} {u : Unit} (h : need x l = .inl (u, l')) : ∃ t, l = t :: l' := by
  obtain ⟨t, h1, _⟩ := needK_some h
  exact ⟨t, h1⟩
theorem name_some {l l' : List Tok} {t : Tok} (h : name l = .inl (t, l')) : l = t :: l' ∧ t.kind = 1 ∧ reserved t.text = false := by
  unfold name at h
  split at h
  · rename_i t2 r
    split at h
    · rename_i hh
      simp at h
      obtain ⟨rfl, rfl⟩ := h
      exact ⟨rfl, hh⟩
    · simp [fail] at h
  · simp [fail] at h
theorem lv_le (o : Nat) : lv o ≤ opL o + 1 := by unfold lv; split <;> omega
/-- Operators of a level. -/
theorem chain_sm {V : Nat → B → Nat → Prop} {n k : Nat} {q : P Ex} (hn : 1 ≤ n) (hq : Sm V (n + 1) k q) : ∀ (f c : Nat) (acc : Ex) (l : List Tok) (e : Ex) (l' : List Tok), AllV V l → WfE V acc → (0 < c → acc.k = 15 ∧ opL acc.o = n) →
    chain n q f c acc l = .inl (e, l') → (c = 0 → wD (n + 1) acc ≤ k) → (0 < c → exD acc ≤ k) → WfE V e ∧ wD n e ≤ k ∧ (wT n e).length + l'.length ≤ (if c = 0 then (wT (n + 1) acc).length else (exT acc).length) + l.length ∧ l' <:+ l
  | 0, _, _, _, _, _, _, _, _, h, _, _ => by simp [chain] at h
  | f + 1, c, acc, [], e, l', _, _, _, h, _, _ => by simp [chain] at h
  | f + 1, c, acc, t :: r, e, l', hV, hw, hc, h, hd0, hd1 => by
    simp only [chain] at h
    split at h
    · rename_i hl
      split at h
      · simp [fail] at h
      · rename_i h3
        obtain ⟨x, l1, hx, h⟩ := bind_some h
        obtain ⟨w1, w2, w3, w4⟩ := hq r x l1 (hV.suf (List.suffix_cons _ _)) hx
        obtain ⟨o, ho⟩ : ∃ o, o = (levelOf t).2 := ⟨_, rfl⟩
        have hlo : 1 ≤ o ∧ o ≤ 13 ∧ n = opL o := by
          rcases levelOf_cases t with h0 | h0
          · rw [h0] at hl; simp at hl; omega
          · rw [ho]; exact ⟨h0.1, h0.2.1, by rw [← hl]; exact h0.2.2⟩
        rw [← ho] at h
        -- the left side's words
        have hleft : wD (lv o) acc ≤ k ∧ (wT (lv o) acc).length ≤ (if c = 0 then (wT (n + 1) acc).length else (exT acc).length) := by
          by_cases hc0 : c = 0
          · rw [if_pos hc0]
            have hle := lv_le o
            rw [← hlo.2.2] at hle
            exact ⟨Nat.le_trans (wD_mono hle) (hd0 hc0), wT_mono hle⟩
          · rw [if_neg hc0]
            have hk := hc (by omega)
            have hn3 : n ≠ 3 := fun e => h3 ⟨e, by omega⟩
            have hlow : lowE (lv o) acc = false := by
              have : lv o = n := by unfold lv; rw [← hlo.2.2, if_neg hn3]
              rw [this]
              have h5 := (opL_pos hlo.1 hlo.2.1).2
              simp [lowE, hk.1, hk.2]
            rw [wD_no hlow, wT_no hlow]
            exact ⟨hd1 (by omega), Nat.le_refl _⟩
        have hnew : WfE V (.mk 15 o 0 [] [acc, x] t.place) := by
          simp only [WfE, WfEs, FormK]
          exact ⟨by simp; exact ⟨hlo.1, hlo.2.1⟩, hw, w1, trivial⟩
        have hdn : exD (.mk 15 o 0 [] [acc, x] t.place) ≤ k := by
          rw [exD_bin, ← hlo.2.2]
          exact Nat.max_le.2 ⟨hleft.1, w2⟩
        have hrec := chain_sm hn hq f (c + 1) _ l1 e l' (hV.suf (w4.trans (List.suffix_cons _ _))) hnew (fun _ => ⟨rfl, hlo.2.2.symm⟩) h (fun h0 => by omega) (fun _ => hdn)
        rw [if_neg (by omega)] at hrec
        refine ⟨hrec.1, hrec.2.1, ?_, hrec.2.2.2.trans (w4.trans (List.suffix_cons _ _))⟩
        have h1 := hrec.2.2.1
        have h2 := hleft.2
        rw [exT_bin, ← hlo.2.2] at h1
        simp only [List.length_append, List.length_cons] at h1 ⊢
        omega
    · simp at h
      obtain ⟨rfl, rfl⟩ := h
      refine ⟨hw, ?_, ?_, List.suffix_refl _⟩
      · by_cases hc0 : c = 0
        · exact Nat.le_trans (wD_mono (show n ≤ n + 1 by omega)) (hd0 hc0)
        · have hk := hc (by omega)
          have hlow : lowE n acc = false := by
            simp [lowE, hk.1, hk.2]
          rw [wD_no hlow]; exact hd1 (by omega)
      · by_cases hc0 : c = 0
        · rw [if_pos hc0]
          have := wT_mono (e := acc) (show n ≤ n + 1 by omega)
          omega
        · rw [if_neg hc0]
          have hk := hc (by omega)
          have hlow : lowE n acc = false := by
            simp [lowE, hk.1, hk.2]
          rw [wT_no hlow]; omega
theorem level_sm {V : Nat → B → Nat → Prop} {n k : Nat} {q : P Ex} (hn : 1 ≤ n) (hq : Sm V (n + 1) k q) : Sm V n k (level n q) := by
  intro l e l' hV h
  obtain ⟨x, l1, hx, h⟩ := bind_some h
  obtain ⟨w1, w2, w3, w4⟩ := hq l x l1 hV hx
  have := chain_sm hn hq _ 0 x l1 e l' (hV.suf w4) w1 (fun h => by omega) h (fun _ => w2) (fun h => by omega)
  rw [if_pos rfl] at this
  exact ⟨this.1, this.2.1, by omega, this.2.2.2.trans w4⟩
theorem lvl_sm {V : Nat → B → Nat → Prop} {k : Nat} {q : P Ex} (hq : Sm V 6 k q) : Sm V 1 k (lvl q) :=
  level_sm (by decide) (level_sm (by decide) (level_sm (by decide) (level_sm (by decide) (level_sm (by decide) hq))))
theorem low_1 {V : Nat → B → Nat → Prop} {e : Ex} (h : WfE V e) : lowE 1 e = false := by
  match e, h with
  | .mk k o n t args p, h =>
    simp only [WfE] at h
    simp only [lowE, Ex.k, Ex.o]
    rcases h.1 with h | h | h | h | h | h | h | h
    all_goals try (simp [h.1]; done)
    · rcases h.1 with h | h <;> simp [h]
    · have := (opL_pos h.2.1 h.2.2.1).1
      simp [h.1]; omega
/-- Places behind. -/
theorem ats_sm {V : Nat → B → Nat → Prop} {k : Nat} {e : P Ex} (he : Sm V 1 k e) : ∀ (f : Nat) (acc : Ex) (l : List Tok) (x : Ex) (l' : List Tok), AllV V l → WfE V acc → wD 7 acc ≤ k + 1 → ats e f acc l = .inl (x, l') → WfE V x ∧ wD 7 x ≤ k + 1 ∧ (wT 7 x).length + l'.length ≤ (wT 7 acc).length + l.length ∧ l' <:+ l
  | 0, _, _, _, _, _, _, _, h => by simp [ats] at h
  | f + 1, acc, l, x, l', hV, hw, hd, h => by
    simp only [ats] at h
    split at h
    · rename_i hs
      obtain ⟨t, r, rfl, _, _⟩ := sees_head hs
      obtain ⟨y, l1, hy, h1⟩ := bind_some h
      obtain ⟨u, l2, hu, h2⟩ := bind_some h1
      clear h h1
      obtain ⟨t2, rfl⟩ := need_some hu
      simp only [List.tail_cons] at hy
      have h := h2
      obtain ⟨w1, w2, w3, w4⟩ := he r y (t2 :: l2) (hV.suf (List.suffix_cons _ _)) hy
      have hlow := low_1 w1
      rw [wD_no hlow] at w2
      rw [wT_no hlow] at w3
      have hs2 : l2 <:+ t :: r := ((List.suffix_cons _ _).trans w4).trans (List.suffix_cons _ _)
      have hnl : lowE 7 (.mk 12 0 0 [] [acc, y] (place (t :: r))) = false := by simp [lowE, Ex.k]
      have hrec := ats_sm he f (.mk 12 0 0 [] [acc, y] (place (t :: r))) l2 x l' (hV.suf hs2) (by simp only [WfE, WfEs, FormK]; exact ⟨by simp, hw, w1, trivial⟩) (by rw [wD_no hnl, exD_at]; exact Nat.max_le.2 ⟨hd, by omega⟩) h
      refine ⟨hrec.1, hrec.2.1, ?_, hrec.2.2.2.trans hs2⟩
      have h1 := hrec.2.2.1
      rw [wT_no hnl, exT_at] at h1
      simp only [List.length_append, List.length_cons, List.length_nil] at h1 w3 ⊢
      omega
    · simp at h
      obtain ⟨rfl, rfl⟩ := h
      exact ⟨hw, hd, Nat.le_refl _, List.suffix_refl _⟩
theorem commas_snoc : ∀ (a : List (List Tok)) (x : List Tok), (commas (a ++ [x])).length = (commas a).length + x.length + (if a = [] then 0 else 1)
  | [], x => by simp [commas]
  | [a], x => by simp [commas]; omega
  | a :: b :: r, x => by
    have := commas_snoc (b :: r) x
    simp only [List.cons_append, commas, List.length_append, List.length_cons] at this ⊢
    simp at this ⊢
    omega
theorem maxL_snoc : ∀ (a : List Nat) (x : Nat), maxL (a ++ [x]) = max (maxL a) x
  | [], x => by simp [maxL]
  | a :: r, x => by simp only [List.cons_append, maxL, maxL_snoc r x]; omega
theorem sep_some {n : Nat} {l l' : List Tok} {u : Unit} (h : sep n l = .inl (u, l')) : (n = 0 ∧ l = l') ∨ (0 < n ∧ ∃ t, l = t :: l') := by
  unfold sep at h
  split at h
  · rename_i hn; simp at h; exact Or.inl ⟨hn, h⟩
  · rename_i hn; exact Or.inr ⟨by omega, need_some h⟩
/-- A call's arguments. -/
theorem items_sm {V : Nat → B → Nat → Prop} {k : Nat} {e : P Ex} (he : Sm V 1 k e) : ∀ (f n : Nat) (acc : List Ex) (l : List Tok) (xs : List Ex) (l' : List Tok), AllV V l → (∀ x ∈ acc, WfE V x) → n = acc.length → maxL (acc.map exD) ≤ k → items e f n acc l = .inl (xs, l') →
    (∀ x ∈ xs, WfE V x) ∧ maxL (xs.map exD) ≤ k ∧ (commas (xs.map exT)).length + l'.length + 1 ≤ (commas (acc.map exT)).length + l.length ∧ l' <:+ l
  | 0, _, _, _, _, _, _, _, _, _, h => by simp [items] at h
  | f + 1, n, acc, l, xs, l', hV, hw, hn, hd, h => by
    simp only [items] at h
    split at h
    · rename_i hs
      obtain ⟨t, r, rfl, _, _⟩ := sees_head hs
      simp at h
      obtain ⟨rfl, rfl⟩ := h
      exact ⟨hw, hd, by simp; omega, List.suffix_cons _ _⟩
    · obtain ⟨u, l1, hu, h⟩ := bind_some h
      obtain ⟨y, l2, hy, h⟩ := bind_some h
      have hs1 : l1 <:+ l := by
        rcases sep_some hu with ⟨_, rfl⟩ | ⟨_, t, rfl⟩
        · exact List.suffix_refl _
        · exact List.suffix_cons _ _
      obtain ⟨w1, w2, w3, w4⟩ := he l1 y l2 (hV.suf hs1) hy
      have hlow := low_1 w1
      rw [wD_no hlow] at w2
      rw [wT_no hlow] at w3
      have hrec := items_sm he f (n + 1) (acc ++ [y]) l2 xs l' (hV.suf (w4.trans hs1)) (fun x hx => by simp at hx; rcases hx with hx | rfl; exact hw x hx; exact w1) (by simp [hn]) (by rw [List.map_append, List.map_cons, List.map_nil, maxL_snoc]; exact Nat.max_le.2 ⟨hd, w2⟩) h
      refine ⟨hrec.1, hrec.2.1, ?_, hrec.2.2.2.trans (w4.trans hs1)⟩
      have h1 := hrec.2.2.1
      rw [List.map_append, List.map_cons, List.map_nil, commas_snoc] at h1
      rcases sep_some hu with ⟨h0, rfl⟩ | ⟨h0, t, rfl⟩
      · have : acc = [] := List.length_eq_zero_iff.1 (by omega)
        subst this
        simp only [List.map_nil, if_true] at h1 ⊢
        omega
      · have : ¬ acc.map exT = [] := by
          intro e; rw [List.map_eq_nil_iff] at e; subst e; simp at hn; omega
        rw [if_neg this] at h1
        simp only [List.length_cons] at h1 w3 ⊢
        omega
theorem primary_sm {V : Nat → B → Nat → Prop} {k : Nat} {e : P Ex} (he : Sm V 1 k e) : Sm V 7 (k + 1) (primary e) := by
  intro l x l' hV h
  match l, hV, h with
  | [], hV, h => simp [primary, fail] at h
  | t :: r, hV, h =>
    have hvt := hV t (by simp)
    simp only [primary] at h
    split at h
    · rename_i hk
      simp at h
      obtain ⟨rfl, rfl⟩ := h
      have hnl : lowE 7 (.mk 1 0 t.num [] [] t.place) = false := by simp [lowE, Ex.k]
      refine ⟨by rw [WfE, WfEs]; exact ⟨Or.inl ⟨rfl, rfl, rfl, rfl, t.text, hvt.2.1 hk⟩, trivial⟩, ?_, ?_, List.suffix_cons _ _⟩
      · rw [wD_no hnl]; simp [exD, dK]
      · rw [wT_no hnl]; simp [exT, exK]; omega
    split at h
    · rename_i hk
      simp at h
      obtain ⟨rfl, rfl⟩ := h
      have hnl : lowE 7 (.mk 3 0 0 t.text [] t.place) = false := by simp [lowE, Ex.k]
      refine ⟨by rw [WfE, WfEs]; exact ⟨Or.inr (Or.inr (Or.inl ⟨rfl, rfl, rfl, rfl, hvt.2.2 hk⟩)), trivial⟩, ?_, ?_, List.suffix_cons _ _⟩
      · rw [wD_no hnl]; simp [exD, dK]
      · rw [wT_no hnl]; simp [exT, exK]; omega
    split at h
    · simp at h
      obtain ⟨rfl, rfl⟩ := h
      have hnl : lowE 7 (.mk 2 0 1 [] [] t.place) = false := by simp [lowE, Ex.k]
      refine ⟨by rw [WfE, WfEs]; exact ⟨Or.inr (Or.inl ⟨rfl, rfl, rfl, rfl, by decide⟩), trivial⟩, ?_, ?_, List.suffix_cons _ _⟩
      · rw [wD_no hnl]; simp [exD, dK]
      · rw [wT_no hnl]; simp [exT, exK]; omega
    split at h
    · simp at h
      obtain ⟨rfl, rfl⟩ := h
      have hnl : lowE 7 (.mk 2 0 0 [] [] t.place) = false := by simp [lowE, Ex.k]
      refine ⟨by rw [WfE, WfEs]; exact ⟨Or.inr (Or.inl ⟨rfl, rfl, rfl, rfl, by decide⟩), trivial⟩, ?_, ?_, List.suffix_cons _ _⟩
      · rw [wD_no hnl]; simp [exD, dK]
      · rw [wT_no hnl]; simp [exT, exK]; omega
    split at h
    · obtain ⟨y, l1, hy, h1⟩ := bind_some h
      obtain ⟨u, l2, hu, h2⟩ := bind_some h1
      clear h h1
      obtain ⟨t2, rfl⟩ := need_some hu
      have h := h2
      simp at h
      obtain ⟨rfl, rfl⟩ := h
      obtain ⟨w1, w2, w3, w4⟩ := he r y (t2 :: l2) (hV.suf (List.suffix_cons _ _)) hy
      have hlow := low_1 w1
      rw [wD_no hlow] at w2
      rw [wT_no hlow] at w3
      have h1 := wD_up 7 y
      have h2 := wT_up 7 y
      simp only [List.length_cons] at w3 ⊢
      exact ⟨w1, by omega, by omega, ((List.suffix_cons _ _).trans w4).trans (List.suffix_cons _ _)⟩
    · obtain ⟨t1, l1, ht, h⟩ := bind_some h
      obtain ⟨hl, hk, hr⟩ := name_some ht
      simp at hl
      obtain ⟨rfl, rfl⟩ := hl
      split at h
      · rename_i hs
        obtain ⟨t2, r2, rfl, _, _⟩ := sees_head hs
        obtain ⟨xs, l2, hx, h⟩ := bind_some h
        simp at h
        obtain ⟨rfl, rfl⟩ := h
        simp only [List.tail_cons] at hx
        have hi := items_sm he _ 0 [] r2 xs l2 (hV.suf ((List.suffix_cons _ _).trans (List.suffix_cons _ _))) (fun x hx => by simp at hx) rfl (by simp [maxL]) hx
        have hnl : lowE 7 (.mk 7 0 0 t.text xs t.place) = false := by simp [lowE, Ex.k]
        refine ⟨by simp only [WfE, FormK]; exact ⟨by simp [hr, hvt.1 hk], WfEs_all.2 hi.1⟩, ?_, ?_, hi.2.2.2.trans ((List.suffix_cons _ _).trans (List.suffix_cons _ _))⟩
        · rw [wD_no hnl, exD_call]; have := hi.2.1; omega
        · rw [wT_no hnl, exT_call]
          have := hi.2.2.1
          simp [commas] at this ⊢
          omega
      · simp at h
        obtain ⟨rfl, rfl⟩ := h
        have hnl : lowE 7 (.mk 6 0 0 t.text [] t.place) = false := by simp [lowE, Ex.k]
        refine ⟨by simp only [WfE, WfEs, FormK]; exact ⟨by simp [hr, hvt.1 hk], trivial⟩, ?_, ?_, List.suffix_cons _ _⟩
        · rw [wD_no hnl]; simp [exD, dK]
        · rw [wT_no hnl]; simp [exT, exK]; omega
theorem unary_sm (V : Nat → B → Nat → Prop) : ∀ k, Sm V 6 k (unary k)
  | 0 => by intro l e l' hV h; simp [unary, fail] at h
  | k + 1 => by
    intro l e l' hV h
    simp only [unary] at h
    split at h
    · rename_i hs
      obtain ⟨t, r, rfl, _, _⟩ := sees_head hs
      obtain ⟨y, l1, hy, h⟩ := bind_some h
      simp at h
      obtain ⟨rfl, rfl⟩ := h
      simp only [List.tail_cons] at hy
      obtain ⟨w1, w2, w3, w4⟩ := unary_sm V k r y l1 (hV.suf (List.suffix_cons _ _)) hy
      have hnl : lowE 6 (.mk 13 0 0 [] [y] (place (t :: r))) = false := by simp [lowE, Ex.k]
      refine ⟨by simp only [WfE, WfEs, FormK]; exact ⟨by simp, w1, trivial⟩, ?_, ?_, w4.trans (List.suffix_cons _ _)⟩
      · rw [wD_no hnl, exD_un _ _ _ _ _ _ (Or.inl rfl)]; omega
      · rw [wT_no hnl, exT_neg]; simp only [List.length_cons]; omega
    split at h
    · rename_i hs
      obtain ⟨t, r, rfl, _, _⟩ := sees_head hs
      obtain ⟨y, l1, hy, h⟩ := bind_some h
      simp at h
      obtain ⟨rfl, rfl⟩ := h
      simp only [List.tail_cons] at hy
      obtain ⟨w1, w2, w3, w4⟩ := unary_sm V k r y l1 (hV.suf (List.suffix_cons _ _)) hy
      have hnl : lowE 6 (.mk 14 0 0 [] [y] (place (t :: r))) = false := by simp [lowE, Ex.k]
      refine ⟨by simp only [WfE, WfEs, FormK]; exact ⟨by simp, w1, trivial⟩, ?_, ?_, w4.trans (List.suffix_cons _ _)⟩
      · rw [wD_no hnl, exD_un _ _ _ _ _ _ (Or.inr rfl)]; omega
      · rw [wT_no hnl, exT_not]; simp only [List.length_cons]; omega
    · obtain ⟨y, l1, hy, h⟩ := bind_some h
      have he := lvl_sm (unary_sm V k)
      obtain ⟨w1, w2, w3, w4⟩ := primary_sm he l y l1 hV hy
      have ha := ats_sm he _ y l1 e l' (hV.suf w4) w1 w2 h
      exact ⟨ha.1, Nat.le_trans (wD_mono (by decide)) ha.2.1, by have := wT_mono (e := e) (show 6 ≤ 7 by decide); have := ha.2.2.1; omega, ha.2.2.2.trans w4⟩
/-- What is read as an expression with k depths left is written within k, with no more tokens. -/
theorem expr_sm (V : Nat → B → Nat → Prop) (k : Nat) {l l' : List Tok} {e : Ex} (hV : AllV V l) (h : expr k l = .inl (e, l')) : WfE V e ∧ exD e ≤ k ∧ (exT e).length + l'.length ≤ l.length ∧ l' <:+ l := by
  obtain ⟨w1, w2, w3, w4⟩ := lvl_sm (unary_sm V k) l e l' hV h
  have hlow := low_1 w1
  rw [wD_no hlow] at w2
  rw [wT_no hlow] at w3
  exact ⟨w1, w2, w3, w4⟩
end Go.Proofs.YtifebbdjdllfpaaGreatDoor.Px
/- What is written of an expression is read as it, but for places. Plain mathematics. -/
namespace Go.Proofs.YtifebbdjdllfpaaGreatDoor.Px
open Go.Proofs.YtifebbdjdllfpaaGreatDoor.Lx (Tok B)
set_option linter.unusedVariables false
set_option linter.unusedSimpArgs false

theorem level_mark {t : Tok} (h : (levelOf t).1 ≠ 0) : t.kind = 4 := by
  by_cases hk : t.kind = 4
  · exact hk
  · unfold levelOf at h; rw [if_neg hk] at h; simp at h
theorem chain_fuel {n : Nat} {q : P Ex} (hn : 0 < n) (hq : Ok q) : ∀ (f g c : Nat) (acc : Ex) (l : List Tok), Good l → l.length < f → l.length < g → chain n q f c acc l = chain n q g c acc l
  | 0, _, _, _, _, _, h, _ => by omega
  | _, 0, _, _, _, _, _, h => by omega
  | f + 1, g + 1, c, acc, [], hg, _, _ => by exact absurd hg (by simp [Good])
  | f + 1, g + 1, c, acc, t :: r, hg, h1, h2 => by
    simp only [chain]
    by_cases hl : (levelOf t).1 = n
    · rw [if_pos hl, if_pos hl]
      split
      · rfl
      · have hk := level_mark (t := t) (by omega)
        have hgr := hg.tail (by omega)
        refine bind_congr fun x l1 e1 => ?_
        have a1 := (hq r hgr).ok x l1 e1
        have := a1.less
        simp only [List.length_cons] at h1 h2
        exact chain_fuel hn hq f g (c + 1) _ l1 a1.good (by omega) (by omega)
    · rw [if_neg hl, if_neg hl]
theorem items_fuel {α : Type} {q : P α} (hq : Ok q) : ∀ (f g n : Nat) (acc : List α) (l : List Tok), Good l → l.length < f → l.length < g → items q f n acc l = items q g n acc l
  | 0, _, _, _, _, _, h, _ => by omega
  | _, 0, _, _, _, _, _, h => by omega
  | f + 1, g + 1, n, acc, l, hg, h1, h2 => by
    simp only [items]
    split
    · rfl
    · refine bind_congr fun u l1 e1 => bind_congr fun x l2 e2 => ?_
      have a1 := (sep_res hg).ok u l1 e1
      have a2 := (hq l1 a1.good).ok x l2 e2
      exact items_fuel hq f g (n + 1) _ l2 a2.good (by have := a1.less; have := a2.less; omega) (by have := a1.less; have := a2.less; omega)
theorem ats_fuel {e : P Ex} (he : Ok e) : ∀ (f g : Nat) (acc : Ex) (l : List Tok), Good l → l.length < f → l.length < g → ats e f acc l = ats e g acc l
  | 0, _, _, _, _, h, _ => by omega
  | _, 0, _, _, _, _, h => by omega
  | f + 1, g + 1, acc, l, hg, h1, h2 => by
    simp only [ats]
    split
    · rename_i hs
      have a := sees4 hs hg
      refine bind_congr fun x l1 e1 => bind_congr fun u l2 e2 => ?_
      have a1 := (he _ a.good).ok x l1 e1
      have a2 := (need_res a1.good).ok u l2 e2
      exact ats_fuel he f g _ l2 a2.good (by have := a.less; have := a1.less; have := a2.less; omega) (by have := a.less; have := a1.less; have := a2.less; omega)
    · rfl
theorem good_app : ∀ {a l : List Tok}, (∀ t ∈ a, t.kind ≠ 5) → Good l → Good (a ++ l)
  | [], l, _, hg => hg
  | [t], l, h, hg => by
    match l, hg with
    | u :: r, hg => exact ⟨h t (by simp), hg⟩
  | t :: u :: r, l, h, hg => ⟨h t (by simp), good_app (a := u :: r) (fun x hx => h x (by simp at hx ⊢; exact Or.inr hx)) hg⟩
theorem within_no5 {b : Bool} {l : List Tok} (h : ∀ t ∈ l, t.kind ≠ 5) : ∀ t ∈ within b l, t.kind ≠ 5 := by
  intro t ht
  cases b
  · exact h t ht
  · simp only [within, if_true, List.mem_cons, List.mem_append, List.not_mem_nil, or_false] at ht
    rcases ht with rfl | ht | rfl
    · simp [mk4]
    · exact h t ht
    · simp [mk4]
theorem commas_no5 : ∀ {a : List (List Tok)}, (∀ l ∈ a, ∀ t ∈ l, t.kind ≠ 5) → ∀ t ∈ commas a, t.kind ≠ 5
  | [], _, t, ht => by simp [commas] at ht
  | [a], h, t, ht => h a (by simp) t (by simpa [commas] using ht)
  | a :: b :: r, h, t, ht => by
    simp only [commas, List.mem_append, List.mem_cons] at ht
    rcases ht with ht | rfl | ht
    · exact h a (by simp) t ht
    · simp [mk4]
    · exact commas_no5 (a := b :: r) (fun l hl => h l (by simp at hl ⊢; exact Or.inr hl)) t ht
theorem getD_no5 {as : List (List Tok)} (i : Nat) (h : ∀ l ∈ as, ∀ t ∈ l, t.kind ≠ 5) : ∀ t ∈ as.getD i [], t.kind ≠ 5 := by
  intro t ht
  rw [List.getD_eq_getElem?_getD] at ht
  rcases hh : as[i]? with _ | l
  · rw [hh] at ht; simp at ht
  · rw [hh] at ht
    exact h l (List.mem_of_getElem? hh) t ht
theorem exK_no5 {k o n : Nat} {t : B} {args : List Ex} {as : List (List Tok)} (h : ∀ l ∈ as, ∀ t ∈ l, t.kind ≠ 5) : ∀ u ∈ exK k o n t args as, u.kind ≠ 5 := by
  intro u hu
  unfold exK at hu
  split at hu
  · simp at hu; rw [hu]; simp
  split at hu
  · simp at hu; rw [hu]; simp [wd]
  split at hu
  · simp at hu; rw [hu]; simp
  split at hu
  · simp at hu; rw [hu]; simp [wd]
  split at hu
  · simp only [List.mem_cons, List.mem_append, List.not_mem_nil, or_false] at hu
    rcases hu with rfl | rfl | hu | rfl
    · simp [wd]
    · simp [mk4]
    · exact commas_no5 h u hu
    · simp [mk4]
  split at hu
  · simp only [List.mem_cons, List.mem_append, List.not_mem_nil, or_false] at hu
    rcases hu with hu | rfl | hu | rfl
    · exact within_no5 (getD_no5 0 h) u hu
    · simp [mk4]
    · exact getD_no5 1 h u hu
    · simp [mk4]
  split at hu
  · simp only [List.mem_cons] at hu
    rcases hu with rfl | hu
    · simp [mk4]
    · exact within_no5 (getD_no5 0 h) u hu
  split at hu
  · simp only [List.mem_cons] at hu
    rcases hu with rfl | hu
    · simp [mk4]
    · exact within_no5 (getD_no5 0 h) u hu
  · simp only [List.mem_cons, List.mem_append] at hu
    rcases hu with hu | rfl | hu
    · exact within_no5 (getD_no5 0 h) u hu
    · simp [mk4]
    · exact within_no5 (getD_no5 1 h) u hu
mutual
theorem exT_no5 : ∀ e, ∀ t ∈ exT e, t.kind ≠ 5
  | .mk k o n x args p => by
    rw [exT]
    exact exK_no5 (exTs_no5 args)
theorem exTs_no5 : ∀ es, ∀ l ∈ exTs es, ∀ t ∈ l, t.kind ≠ 5
  | [] => by intro l hl; simp [exTs] at hl
  | e :: r => by
    intro l hl
    rw [exTs] at hl
    simp only [List.mem_cons] at hl
    rcases hl with rfl | hl
    · exact exT_no5 e
    · exact exTs_no5 r l hl
end
theorem wT_no5 (n : Nat) (e : Ex) : ∀ t ∈ wT n e, t.kind ≠ 5 := within_no5 (exT_no5 e)
/-- The parser of level 6 - j. -/
def lvF (q : P Ex) : Nat → P Ex
  | 0 => q
  | j + 1 => level (5 - j) (lvF q j)
theorem lvF_lvl (q : P Ex) : lvF q 5 = lvl q := rfl
theorem lvF_ok {q : P Ex} (hq : Ok q) : ∀ j, j ≤ 5 → Ok (lvF q j)
  | 0, _ => hq
  | j + 1, h => level_ok (lvF_ok hq j (by omega)) (by omega)
/-- What may stand behind: no token that goes on with an expression of level n. -/
structure Fol (n : Nat) (l : List Tok) : Prop where
  good : Good l
  low : ∀ u r, l = u :: r → (levelOf u).1 < n
  at_ : sees 4 [91] l = false
  call : sees 4 [40] l = false
theorem Fol.mono {m n : Nat} {l : List Tok} (h : Fol m l) (hmn : m ≤ n) : Fol n l := ⟨h.good, fun u r e => Nat.lt_of_lt_of_le (h.low u r e) hmn, h.at_, h.call⟩
theorem Good.cons {l : List Tok} (h : Good l) : ∃ u r, l = u :: r := by
  match l, h with
  | u :: r, _ => exact ⟨u, r, rfl⟩
theorem chain_end {n : Nat} {q : P Ex} {c : Nat} {e : Ex} {l : List Tok} (h : Fol n l) (f : Nat) : chain n q (f + 1) c e l = .inl (e, l) := by
  obtain ⟨u, r, rfl⟩ := h.good.cons
  simp only [chain]
  rw [if_neg (by have := h.low u r rfl; omega)]
theorem ats_end {E : P Ex} {e : Ex} {l : List Tok} (h : sees 4 [91] l = false) (f : Nat) : ats E (f + 1) e l = .inl (e, l) := by
  simp only [ats]; rw [if_neg (by rw [h]; simp)]
theorem fol_mark {n : Nat} {x : B} {l : List Tok} (hg : Good l) (hx : (levelOf (mk4 x)).1 < n) (h1 : x ≠ [91]) (h2 : x ≠ [40]) : Fol n (mk4 x :: l) := by
  refine ⟨good_app (a := [mk4 x]) (by simp [mk4]) hg, fun u r e => by simp at e; rw [← e.1]; exact hx, ?_, ?_⟩
  · simp [sees, mk4, h1]
  · simp [sees, mk4, h2]
theorem need_mk4 (x : B) (l : List Tok) : need x (mk4 x :: l) = .inl ((), l) := by
  simp [need, needK, sees, mk4]
/-- Primary with all places behind it. -/
def pa (k : Nat) (l : List Tok) : R Ex := bind (primary (lvl (unary k)) l) fun x l1 => ats (lvl (unary k)) (l1.length + 1) x l1
theorem unary_pa {k : Nat} {l : List Tok} (h1 : sees 4 [45] l = false) (h2 : sees 4 [33] l = false) : unary (k + 1) l = pa k l := by
  simp only [unary]
  rw [if_neg (by rw [h1]; simp), if_neg (by rw [h2]; simp)]; rfl
/-- The three readings of an expression: behind a unary mark; ahead of square brackets; at a level. -/
structure Bk (e : Ex) : Prop where
  un : ∀ k rest, wD 6 e ≤ k → Good rest → sees 4 [91] rest = false → sees 4 [40] rest = false → unary k (wT 6 e ++ rest) = .inl (e.er, rest)
  pr : ∀ k rest, wD 7 e ≤ k + 1 → Good rest → sees 4 [40] rest = false → pa k (wT 7 e ++ rest) = ats (lvl (unary k)) (rest.length + 1) e.er rest
  lv : ∀ k j rest, j ≤ 5 → wD (6 - j) e ≤ k → Fol (6 - j) rest → lvF (unary k) j (wT (6 - j) e ++ rest) = .inl (e.er, rest)
/-- A level's reading comes to e, with c operators of the level behind it. -/
def Ch (e : Ex) : Prop := ∀ k j rest, j ≤ 4 → lowE (5 - j) e = false → exD e ≤ k → Fol (6 - j) rest → ∃ c, (0 < c → e.k = 15 ∧ opL e.o = 5 - j) ∧ level (5 - j) (lvF (unary k) j) (exT e ++ rest) = chain (5 - j) (lvF (unary k) j) (rest.length + 1) c e.er rest
theorem low6 {e : Ex} (h : lowE 6 e = false) : e.k ≠ 15 := by
  intro hk
  have : opL e.o ≤ 5 := by unfold opL; (repeat' split) <;> omega
  simp only [lowE, hk] at h
  simp at h
  omega
/-- From the reading without brackets, of level 1 and of all that it does without, to all. -/
theorem bk_of {e : Ex} (hlow : lowE 1 e = false) (hpr : lowE 7 e = false → ∀ k rest, exD e ≤ k + 1 → Good rest → sees 4 [40] rest = false → pa k (exT e ++ rest) = ats (lvl (unary k)) (rest.length + 1) e.er rest)
    (hun : lowE 6 e = false → ∀ k rest, exD e ≤ k → Good rest → sees 4 [91] rest = false → sees 4 [40] rest = false → unary k (exT e ++ rest) = .inl (e.er, rest))
    (hlv : ∀ k j rest, j ≤ 5 → lowE (6 - j) e = false → exD e ≤ k → Fol (6 - j) rest → lvF (unary k) j (exT e ++ rest) = .inl (e.er, rest)) : Bk e := by
  have hbr : ∀ k rest, exD e ≤ k → Good rest → pa k (mk4 [40] :: (exT e ++ [mk4 [41]]) ++ rest) = ats (lvl (unary k)) (rest.length + 1) e.er rest := by
    intro k rest hd hg
    have h1 : lvl (unary k) (exT e ++ mk4 [41] :: rest) = .inl (e.er, mk4 [41] :: rest) := by
      have := hlv k 5 (mk4 [41] :: rest) (by decide) hlow hd (fol_mark hg (by decide) (by decide) (by decide))
      rw [lvF_lvl] at this
      exact this
    have h2 : primary (lvl (unary k)) (mk4 [40] :: (exT e ++ [mk4 [41]]) ++ rest) = .inl (e.er, rest) := by
      have e1 : mk4 [40] :: (exT e ++ [mk4 [41]]) ++ rest = mk4 [40] :: (exT e ++ mk4 [41] :: rest) := by simp
      rw [e1]
      simp only [primary, mk4, sees]
      simp
      have h1' := h1
      simp only [mk4] at h1'
      rw [h1']
      simp only [bind]
      have := need_mk4 [41] rest
      simp only [mk4] at this
      rw [this]
    unfold pa
    rw [h2]; rfl
  have hbu : ∀ k rest, exD e + 1 ≤ k → Good rest → sees 4 [91] rest = false → unary k (mk4 [40] :: (exT e ++ [mk4 [41]]) ++ rest) = .inl (e.er, rest) := by
    intro k rest hd hg hs
    obtain ⟨k, rfl⟩ : ∃ k', k = k' + 1 := ⟨k - 1, by omega⟩
    rw [unary_pa (by simp [sees, mk4]) (by simp [sees, mk4]), hbr k rest (by omega) hg, ats_end hs]
  have hbl : ∀ k j rest, j ≤ 5 → exD e + 1 ≤ k → Fol (6 - j) rest → lvF (unary k) j (mk4 [40] :: (exT e ++ [mk4 [41]]) ++ rest) = .inl (e.er, rest) := by
    intro k j
    induction j with
    | zero => intro rest _ hd hf; exact hbu k rest hd hf.good hf.at_
    | succ j ih =>
      intro rest hj hd hf
      simp only [lvF, level]
      rw [ih rest (by omega) hd (hf.mono (by omega))]
      simp only [bind]
      exact chain_end (by rw [show 5 - j = 6 - (j + 1) by omega]; exact hf) _
  refine ⟨fun k rest hd hg h1 h2 => ?_, fun k rest hd hg h1 => ?_, fun k j rest hj hd hf => ?_⟩
  · rcases h6 : lowE 6 e with _ | _
    · rw [wT_no h6]; rw [wD_no h6] at hd; exact hun h6 k rest hd hg h1 h2
    · simp only [wT, wD, h6, within, bump, if_true] at hd ⊢
      exact hbu k rest hd hg h1
  · rcases h7 : lowE 7 e with _ | _
    · rw [wT_no h7]; rw [wD_no h7] at hd; exact hpr h7 k rest hd hg h1
    · simp only [wT, wD, h7, within, bump, if_true] at hd ⊢
      exact hbr k rest (by omega) hg
  · rcases hj' : lowE (6 - j) e with _ | _
    · rw [wT_no hj']; rw [wD_no hj'] at hd; exact hlv k j rest hj hj' hd hf
    · simp only [wT, wD, hj', within, bump, if_true] at hd ⊢
      exact hbl k j rest hj hd hf
/-- Of what is no operator's: from behind a unary mark to every level. -/
theorem lv_of {e : Ex} (hk : e.k ≠ 15) (hun : ∀ k rest, exD e ≤ k → Good rest → sees 4 [91] rest = false → sees 4 [40] rest = false → unary k (exT e ++ rest) = .inl (e.er, rest)) :
    ∀ k j rest, j ≤ 5 → exD e ≤ k → Fol (6 - j) rest → lvF (unary k) j (exT e ++ rest) = .inl (e.er, rest) := by
  intro k j
  induction j with
  | zero => intro rest _ hd hf; exact hun k rest hd hf.good hf.at_ hf.call
  | succ j ih =>
    intro rest hj hd hf
    simp only [lvF, level]
    rw [ih rest (by omega) hd (hf.mono (by omega))]
    simp only [bind]
    exact chain_end (by rw [show 5 - j = 6 - (j + 1) by omega]; exact hf) _
theorem ch_of {e : Ex} (h : ∀ k j rest, j ≤ 5 → lowE (6 - j) e = false → exD e ≤ k → Fol (6 - j) rest → lvF (unary k) j (exT e ++ rest) = .inl (e.er, rest)) {k j : Nat} {rest : List Tok} (hj : j ≤ 4) (hl : lowE (6 - j) e = false) (hd : exD e ≤ k) (hf : Fol (6 - j) rest) :
    level (5 - j) (lvF (unary k) j) (exT e ++ rest) = chain (5 - j) (lvF (unary k) j) (rest.length + 1) 0 e.er rest := by
  simp only [level]
  rw [h k j rest (by omega) hl hd hf]
  rfl
theorem lv_range {o : Nat} (h1 : 1 ≤ o) (h2 : o ≤ 13) : 1 ≤ lv o ∧ lv o ≤ 5 ∧ opL o ≤ lv o ∧ lv o ≤ opL o + 1 ∧ (lv o ≠ opL o → opL o = 3) := by
  rcases op_cases h1 h2 with rfl | rfl | rfl | rfl | rfl | rfl | rfl | rfl | rfl | rfl | rfl | rfl | rfl <;> decide
theorem op_fol {o n : Nat} {l : List Tok} (h1 : 1 ≤ o) (h2 : o ≤ 13) (hn : opL o < n) (hg : Good l) : Fol n (mk4 (opX o) :: l) := by
  refine fol_mark hg ?_ ?_ ?_
  · show (levelOf ⟨4, opX o, 0, 0⟩).1 < n
    rw [levelOf_op h1 h2]; exact hn
  · rcases op_cases h1 h2 with rfl | rfl | rfl | rfl | rfl | rfl | rfl | rfl | rfl | rfl | rfl | rfl | rfl <;> decide
  · rcases op_cases h1 h2 with rfl | rfl | rfl | rfl | rfl | rfl | rfl | rfl | rfl | rfl | rfl | rfl | rfl <;> decide
/-- An operator over two that are read: read at its level. -/
theorem bin_ch {o p : Nat} {a b : Ex} (h1 : 1 ≤ o) (h2 : o ≤ 13) (ha : Bk a) (hca : Ch a) (hb : Bk b) {k j : Nat} {rest : List Tok} (hj : j ≤ 4) (ho : opL o = 5 - j) (hd : exD (.mk 15 o 0 [] [a, b] p) ≤ k) (hf : Fol (6 - j) rest) :
    ∃ c, 0 < c ∧ level (5 - j) (lvF (unary k) j) (exT (.mk 15 o 0 [] [a, b] p) ++ rest) = chain (5 - j) (lvF (unary k) j) (rest.length + 1) c (Ex.mk 15 o 0 [] [a, b] p).er rest := by
  have hr := lv_range h1 h2
  rw [exD_bin] at hd
  have hd1 : wD (lv o) a ≤ k := Nat.le_trans (Nat.le_max_left _ _) hd
  have hd2 : wD (opL o + 1) b ≤ k := Nat.le_trans (Nat.le_max_right _ _) hd
  have e1 : exT (.mk 15 o 0 [] [a, b] p) ++ rest = wT (lv o) a ++ (mk4 (opX o) :: (wT (opL o + 1) b ++ rest)) := by
    rw [exT_bin]; simp
  have hgY : Good (wT (opL o + 1) b ++ rest) := good_app (wT_no5 _ _) hf.good
  have hfY : Fol (6 - j) (mk4 (opX o) :: (wT (opL o + 1) b ++ rest)) := op_fol h1 h2 (by omega) hgY
  have hok : Ok (lvF (unary k) j) := lvF_ok (unary_ok k) j (by omega)
  -- the left side
  obtain ⟨c, hc, hleft⟩ : ∃ c, ¬ (5 - j = 3 ∧ 0 < c) ∧ level (5 - j) (lvF (unary k) j) (wT (lv o) a ++ (mk4 (opX o) :: (wT (opL o + 1) b ++ rest))) = chain (5 - j) (lvF (unary k) j) ((mk4 (opX o) :: (wT (opL o + 1) b ++ rest)).length + 1) c a.er (mk4 (opX o) :: (wT (opL o + 1) b ++ rest)) := by
    rcases hl : lowE (lv o) a with _ | _
    · rw [wT_no hl]
      rw [wD_no hl] at hd1
      have hl2 : lowE (5 - j) a = false := by
        rcases h : lowE (5 - j) a with _ | _
        · rfl
        · rw [lowE_mono (by omega) h] at hl; simp at hl
      obtain ⟨c, hc, hch⟩ := hca k j _ hj hl2 hd1 hfY
      refine ⟨c, fun hh => ?_, hch⟩
      obtain ⟨k1, k2⟩ := hc hh.2
      have hlv : lv o = 4 := by unfold lv; rw [if_pos (by omega)]
      rw [hlv] at hl
      simp [lowE, k1, k2, hh.1] at hl
    · have hl2 : lowE (6 - j) a = true := lowE_mono (by omega) hl
      have e2 : wT (lv o) a = wT (6 - j) a := by simp only [wT, hl, hl2]
      have e3 : wD (lv o) a = wD (6 - j) a := by simp only [wD, hl, hl2]
      rw [e3] at hd1
      refine ⟨0, fun hh => by omega, ?_⟩
      rw [e2]
      simp only [level]
      rw [ha.lv k j _ (by omega) hd1 hfY]
      rfl
  refine ⟨c + 1, by omega, ?_⟩
  rw [e1, hleft]
  have hright : lvF (unary k) j (wT (opL o + 1) b ++ rest) = .inl (b.er, rest) := by
    rw [show opL o + 1 = 6 - j by omega] at hd2 ⊢
    exact hb.lv k j rest (by omega) hd2 hf
  rw [chain, if_pos (by show (levelOf ⟨4, opX o, 0, 0⟩).1 = 5 - j; rw [levelOf_op h1 h2]; exact ho), if_neg hc, hright]
  simp only [bind]
  have e4 : (levelOf (mk4 (opX o))).2 = o := by show (levelOf ⟨4, opX o, 0, 0⟩).2 = o; rw [levelOf_op h1 h2]
  rw [e4]
  have e5 : (Ex.mk 15 o 0 [] [a, b] p).er = .mk 15 o 0 [] [a.er, b.er] (mk4 (opX o)).place := by simp [Ex.er, ersE, mk4]
  rw [e5]
  exact chain_fuel (by omega) hok _ _ _ _ _ hf.good (by simp; omega) (by omega)
theorem low15 (n o m : Nat) (t : B) (args : List Ex) (p : Nat) : lowE n (.mk 15 o m t args p) = decide (opL o < n) := by
  simp [lowE, Ex.k, Ex.o]
  rfl
/-- The first of an expression's words. -/
def HdOk (e : Ex) : Prop := ∃ t r, exT e = t :: r ∧ (t.kind = 4 → t.text = [40] ∨ ((t.text = [45] ∨ t.text = [33]) ∧ lowE 7 e = true))
theorem HdOk.no {e : Ex} (h : HdOk e) (l : List Tok) (x : B) (h1 : x ≠ [40]) (h2 : (x ≠ [45] ∧ x ≠ [33]) ∨ lowE 7 e = false) : sees 4 x (exT e ++ l) = false := by
  obtain ⟨t, r, e1, ht⟩ := h
  rw [e1]
  rcases hs : sees 4 x (t :: r ++ l) with _ | _
  · rfl
  · exfalso
    simp only [List.cons_append, sees, Bool.and_eq_true, beq_iff_eq] at hs
    rcases ht hs.1 with h3 | ⟨h3, h4⟩
    · exact h1 (by rw [← hs.2, h3])
    · rcases h2 with h2 | h2
      · rcases h3 with h3 | h3
        · exact h2.1 (by rw [← hs.2, h3])
        · exact h2.2 (by rw [← hs.2, h3])
      · rw [h2] at h4; simp at h4
theorem wT_head {n : Nat} {a : Ex} (h : HdOk a) : ∃ t r, wT n a = t :: r ∧ (t.kind = 4 → t.text = [40] ∨ ((t.text = [45] ∨ t.text = [33]) ∧ lowE 7 a = true ∧ lowE n a = false)) := by
  rcases hl : lowE n a with _ | _
  · obtain ⟨t, r, e1, ht⟩ := h
    rw [wT_no hl]
    exact ⟨t, r, e1, fun hk => (ht hk).imp id (fun h => ⟨h.1, h.2, rfl⟩)⟩
  · refine ⟨mk4 [40], exT a ++ [mk4 [41]], by simp [wT, hl, within], fun _ => Or.inl rfl⟩
theorem hd_all (V : Nat → B → Nat → Prop) : ∀ (N : Nat) (e : Ex), sizeOf e ≤ N → WfE V e → HdOk e
  | 0, .mk k o n t args p, hN, _ => by simp at hN
  | N + 1, .mk k o n t args p, hN, hw => by
    rw [WfE] at hw
    obtain ⟨hf, hs⟩ := hw
    simp only [Ex.mk.sizeOf_spec] at hN
    rcases hf with h | h | h | h | h | h | h | h
    · obtain ⟨rfl, rfl, rfl, _, _⟩ := h
      exact ⟨_, [], by simp [exT, exK]; rfl, fun hk => by simp at hk⟩
    · obtain ⟨rfl, rfl, rfl, _, _⟩ := h
      exact ⟨_, [], by simp [exT, exK]; rfl, fun hk => by simp [wd] at hk⟩
    · obtain ⟨rfl, rfl, rfl, _, _⟩ := h
      exact ⟨_, [], by simp [exT, exK]; rfl, fun hk => by simp at hk⟩
    · obtain ⟨rfl, rfl, rfl, _, _, _⟩ := h
      exact ⟨_, [], by simp [exT, exK]; rfl, fun hk => by simp [wd] at hk⟩
    · obtain ⟨rfl, rfl, rfl, _, _⟩ := h
      exact ⟨wd t, _, exT_call _ _ _ _ _, fun hk => by simp [wd] at hk⟩
    · obtain ⟨rfl, rfl, rfl, rfl, hlen⟩ := h
      match args, hlen, hs, hN with
      | [a, b], _, hs, hN =>
        simp only [WfEs] at hs
        simp only [List.cons.sizeOf_spec] at hN
        obtain ⟨u, r, e1, hu⟩ := wT_head (n := 7) (hd_all V N a (by omega) hs.1)
        refine ⟨u, r ++ mk4 [91] :: (exT b ++ [mk4 [93]]), by rw [exT_at, e1]; rfl, fun hk => ?_⟩
        rcases hu hk with h | h
        · exact Or.inl h
        · rw [h.2.1] at h; simp at h
    · obtain ⟨hk, rfl, rfl, rfl, hlen⟩ := h
      match args, hlen with
      | [a], _ =>
        rcases hk with rfl | rfl
        · exact ⟨_, _, exT_neg _ _ _ _ _, fun _ => Or.inr ⟨Or.inl rfl, by simp [lowE, Ex.k]⟩⟩
        · exact ⟨_, _, exT_not _ _ _ _ _, fun _ => Or.inr ⟨Or.inr rfl, by simp [lowE, Ex.k]⟩⟩
    · obtain ⟨rfl, h1, h2, rfl, rfl, hlen⟩ := h
      match args, hlen, hs, hN with
      | [a, b], _, hs, hN =>
        simp only [WfEs] at hs
        simp only [List.cons.sizeOf_spec] at hN
        obtain ⟨u, r, e1, hu⟩ := wT_head (n := lv o) (hd_all V N a (by omega) hs.1)
        refine ⟨u, r ++ mk4 (opX o) :: wT (opL o + 1) b, by rw [exT_bin, e1]; rfl, fun hk => ?_⟩
        have h5 := (opL_pos h1 h2).2
        rcases hu hk with h | h
        · exact Or.inl h
        · exact Or.inr ⟨h.1, by rw [low15, decide_eq_true_eq]; omega⟩
theorem args_back {k : Nat} : ∀ (xs acc : List Ex) (f : Nat) (rest : List Tok), (∀ x ∈ xs, Bk x ∧ HdOk x ∧ lowE 1 x = false ∧ exD x ≤ k) → Good rest → (if acc = [] then (commas (xs.map exT)).length else (xs.flatMap fun x => mk4 [44] :: exT x).length) + rest.length + 1 < f →
    items (lvl (unary k)) f acc.length acc ((if acc = [] then commas (xs.map exT) else xs.flatMap fun x => mk4 [44] :: exT x) ++ mk4 [41] :: rest) = .inl (acc ++ xs.map Ex.er, rest)
  | [], acc, f, rest, _, hg, hf => by
    obtain ⟨f, rfl⟩ : ∃ f', f = f' + 1 := ⟨f - 1, by omega⟩
    have e : (if acc = [] then commas (([] : List Ex).map exT) else ([] : List Ex).flatMap fun x => mk4 [44] :: exT x) = [] := by split <;> rfl
    rw [e]
    simp [items, sees, mk4]
  | x :: xs, acc, f, rest, h, hg, hf => by
    obtain ⟨f, rfl⟩ : ∃ f', f = f' + 1 := ⟨f - 1, by omega⟩
    obtain ⟨hx, hh, hl, hd⟩ := h x (by simp)
    have hcom : ∀ (y : Ex) (ys : List Ex), commas ((y :: ys).map exT) = exT y ++ ys.flatMap fun x => mk4 [44] :: exT x := by
      intro y ys
      induction ys generalizing y with
      | nil => simp [commas]
      | cons z zs ih =>
        have := ih z
        simp only [List.map_cons] at this ⊢
        rw [commas, this]
        simp
    have htl : Good ((xs.flatMap fun x => mk4 [44] :: exT x) ++ mk4 [41] :: rest) := by
      refine good_app (fun t ht => ?_) (good_app (a := [mk4 [41]]) (by simp [mk4]) hg)
      simp only [List.mem_flatMap, List.mem_cons] at ht
      obtain ⟨y, _, ht⟩ := ht
      rcases ht with rfl | ht
      · simp [mk4]
      · exact exT_no5 y t ht
    have hfl : Fol 1 ((xs.flatMap fun x => mk4 [44] :: exT x) ++ mk4 [41] :: rest) := by
      match xs, htl with
      | [], htl => exact fol_mark hg (by decide) (by decide) (by decide)
      | y :: ys, htl =>
        simp only [List.flatMap_cons, List.cons_append] at htl ⊢
        exact fol_mark (htl.tail (by simp [mk4])) (by decide) (by decide) (by decide)
    have hrd : lvl (unary k) (exT x ++ ((xs.flatMap fun x => mk4 [44] :: exT x) ++ mk4 [41] :: rest)) = .inl (x.er, (xs.flatMap fun x => mk4 [44] :: exT x) ++ mk4 [41] :: rest) := by
      have := hx.lv k 5 _ (by decide) (by rw [show 6 - 5 = 1 from rfl, wD_no hl]; exact hd) hfl
      rw [show 6 - 5 = 1 from rfl, wT_no hl, lvF_lvl] at this
      exact this
    have hrec := fun (f : Nat) (hf : (xs.flatMap fun x => mk4 [44] :: exT x).length + rest.length + 1 < f) => args_back xs (acc ++ [x.er]) f rest (fun y hy => h y (by simp [hy])) hg (by rw [if_neg (by simp)]; exact hf)
    have hne : (acc ++ [x.er] = []) = False := by simp
    simp only [hne, if_false, List.length_append, List.length_cons, List.length_nil] at hrec
    have hres : acc ++ [x.er] ++ xs.map Ex.er = acc ++ (x :: xs).map Ex.er := by simp
    by_cases ha : acc = []
    · subst ha
      simp only [if_true] at hf ⊢
      rw [hcom, List.append_assoc]
      rw [hcom] at hf
      have hns : sees 4 [41] (exT x ++ ((xs.flatMap fun x => mk4 [44] :: exT x) ++ mk4 [41] :: rest)) = false := hh.no _ _ (by decide) (Or.inl ⟨by decide, by decide⟩)
      simp only [items, List.length_nil, sep, if_true]
      rw [if_neg (by rw [hns]; simp)]
      simp only [bind]
      rw [hrd]
      simp only
      have hpos : 1 ≤ (exT x).length := by obtain ⟨u, r, e, _⟩ := hh; rw [e]; simp
      have := hrec f (by simp only [List.length_append] at hf; omega)
      rw [hres] at this
      simpa using this
    · rw [if_neg ha] at hf ⊢
      simp only [List.flatMap_cons, List.cons_append, List.append_assoc]
      have hlen : acc.length ≠ 0 := fun e => ha (List.length_eq_zero_iff.1 e)
      have hns : sees 4 [41] (mk4 [44] :: (exT x ++ ((xs.flatMap fun x => mk4 [44] :: exT x) ++ mk4 [41] :: rest))) = false := by simp [sees, mk4]
      simp only [items, sep]
      rw [if_neg (by rw [hns]; simp), if_neg hlen, need_mk4]
      simp only [bind]
      rw [hrd]
      simp only
      have := hrec f (by simp only [List.flatMap_cons, List.length_append, List.length_cons] at hf; omega)
      rw [hres] at this
      exact this
/-- From what stands by itself to all readings. -/
theorem bk_prim {e : Ex} (h7 : lowE 7 e = false) (hd : 1 ≤ exD e) (hh : HdOk e) (hpr : ∀ k rest, exD e ≤ k + 1 → Good rest → sees 4 [40] rest = false → pa k (exT e ++ rest) = ats (lvl (unary k)) (rest.length + 1) e.er rest) : Bk e ∧ Ch e := by
  have hno : ∀ n, n ≤ 7 → lowE n e = false := fun n hn => by
    rcases h : lowE n e with _ | _
    · rfl
    · rw [lowE_mono hn h] at h7; simp at h7
  have hk := low6 (hno 6 (by decide))
  have hun : ∀ k rest, exD e ≤ k → Good rest → sees 4 [91] rest = false → sees 4 [40] rest = false → unary k (exT e ++ rest) = .inl (e.er, rest) := by
    intro k rest h1 hg h2 h3
    obtain ⟨k, rfl⟩ : ∃ k', k = k' + 1 := ⟨k - 1, by omega⟩
    rw [unary_pa (hh.no _ _ (by decide) (Or.inr h7)) (hh.no _ _ (by decide) (Or.inr h7)), hpr k rest h1 hg h3, ats_end h2]
  have hlv := lv_of hk hun
  refine ⟨bk_of (hno 1 (by decide)) (fun _ => hpr) (fun _ => hun) (fun k j rest hj _ => hlv k j rest hj), fun k j rest hj _ hd hf => ⟨0, fun h => by omega, ch_of (fun k j rest hj _ => hlv k j rest hj) hj (hno _ (by omega)) hd hf⟩⟩
theorem pa_of {k : Nat} {l rest : List Tok} {e : Ex} (h : primary (lvl (unary k)) l = .inl (e, rest)) : pa k l = ats (lvl (unary k)) (rest.length + 1) e rest := by
  unfold pa; rw [h]; rfl
theorem maxL_le : ∀ {l : List Nat} {k : Nat}, maxL l ≤ k → ∀ x ∈ l, x ≤ k
  | [], _, _, x, hx => by simp at hx
  | a :: r, k, h, x, hx => by
    simp only [maxL] at h
    simp only [List.mem_cons] at hx
    rcases hx with rfl | hx
    · omega
    · exact maxL_le (l := r) (by omega) x hx
theorem size_mem : ∀ {l : List Ex} {x : Ex}, x ∈ l → sizeOf x < sizeOf l
  | a :: r, x, h => by
    simp only [List.mem_cons] at h
    simp only [List.cons.sizeOf_spec]
    rcases h with rfl | h
    · omega
    · have := size_mem h; omega
/-- What is written of an expression is read as it. -/
theorem back_all (V : Nat → B → Nat → Prop) : ∀ (N : Nat) (e : Ex), sizeOf e ≤ N → WfE V e → Bk e ∧ Ch e
  | 0, .mk k o n t args p, hN, _ => by simp at hN
  | N + 1, .mk k o n t args p, hN, hw0 => by
    have hh := hd_all V (N + 1) _ hN hw0
    have hw := hw0
    rw [WfE] at hw
    obtain ⟨hf, hs⟩ := hw
    have hlow1 := low_1 hw0
    simp only [Ex.mk.sizeOf_spec] at hN
    rcases hf with h | h | h | h | h | h | h | h
    · obtain ⟨rfl, rfl, rfl, hlen, _⟩ := h
      obtain rfl := List.length_eq_zero_iff.1 hlen
      refine bk_prim (by simp [lowE, Ex.k]) (by simp [exD, dK]) hh (fun k rest _ hg hc => pa_of ?_)
      simp [exT, exK, primary, Ex.er, ersE]
    · obtain ⟨rfl, rfl, rfl, hlen, hn⟩ := h
      obtain rfl := List.length_eq_zero_iff.1 hlen
      refine bk_prim (by simp [lowE, Ex.k]) (by simp [exD, dK]) hh (fun k rest _ hg hc => pa_of ?_)
      rcases (show n = 0 ∨ n = 1 by omega) with rfl | rfl
      · simp [exT, exK, primary, Ex.er, ersE, wd, sees]
      · simp [exT, exK, primary, Ex.er, ersE, wd, sees]
    · obtain ⟨rfl, rfl, rfl, hlen, _⟩ := h
      obtain rfl := List.length_eq_zero_iff.1 hlen
      refine bk_prim (by simp [lowE, Ex.k]) (by simp [exD, dK]) hh (fun k rest _ hg hc => pa_of ?_)
      simp [exT, exK, primary, Ex.er, ersE]
    · obtain ⟨rfl, rfl, rfl, hlen, hr, _⟩ := h
      obtain rfl := List.length_eq_zero_iff.1 hlen
      have h1 : t ≠ [116, 114, 117, 101] := fun e => by rw [e] at hr; revert hr; decide
      have h2 : t ≠ [102, 97, 108, 115, 101] := fun e => by rw [e] at hr; revert hr; decide
      refine bk_prim (by simp [lowE, Ex.k]) (by simp [exD, dK]) hh (fun k rest _ hg hc => pa_of ?_)
      have e1 : exT (.mk 6 0 0 t [] p) ++ rest = wd t :: rest := by simp [exT, exK]
      rw [e1]
      simp only [primary]
      rw [if_neg (by simp [wd]), if_neg (by simp [wd]), if_neg (by simp [wd, sees, h1]), if_neg (by simp [wd, sees, h2]), if_neg (by simp [wd, sees])]
      have hn : name (wd t :: rest) = .inl (wd t, rest) := by simp [name, wd, hr]
      rw [hn]
      simp only [bind]
      rw [if_neg (by rw [hc]; simp)]
      simp [Ex.er, ersE, wd]
    · obtain ⟨rfl, rfl, rfl, hr, _⟩ := h
      have h1 : t ≠ [116, 114, 117, 101] := fun e => by rw [e] at hr; revert hr; decide
      have h2 : t ≠ [102, 97, 108, 115, 101] := fun e => by rw [e] at hr; revert hr; decide
      refine bk_prim (by simp [lowE, Ex.k]) (by rw [exD_call]; omega) hh (fun k rest hd hg hc => pa_of ?_)
      rw [exD_call] at hd
      have hx : ∀ x ∈ args, Bk x ∧ HdOk x ∧ lowE 1 x = false ∧ exD x ≤ k := fun x hx => by
        have hwx := WfEs_all.1 hs x hx
        have hsz := size_mem hx
        exact ⟨(back_all V N x (by omega) hwx).1, hd_all V N x (by omega) hwx, low_1 hwx, maxL_le (by omega) _ (List.mem_map_of_mem hx)⟩
      have ha := args_back args [] ((mk4 [40] :: (commas (args.map exT) ++ mk4 [41] :: rest)).length + 1) rest hx hg (by simp; omega)
      simp only [if_true, List.length_nil, List.nil_append] at ha
      have e1 : exT (.mk 7 0 0 t args p) ++ rest = wd t :: mk4 [40] :: (commas (args.map exT) ++ mk4 [41] :: rest) := by rw [exT_call]; simp
      rw [e1]
      simp only [primary]
      rw [if_neg (by simp [wd]), if_neg (by simp [wd]), if_neg (by simp [wd, sees, h1]), if_neg (by simp [wd, sees, h2]), if_neg (by simp [wd, sees])]
      have hn : name (wd t :: mk4 [40] :: (commas (args.map exT) ++ mk4 [41] :: rest)) = .inl (wd t, mk4 [40] :: (commas (args.map exT) ++ mk4 [41] :: rest)) := by simp [name, wd, hr]
      rw [hn]
      simp only [bind]
      rw [if_pos (by simp [sees, mk4])]
      simp only [List.tail_cons]
      rw [ha]
      simp [Ex.er, ersE_map, wd]
    · obtain ⟨rfl, rfl, rfl, rfl, hlen⟩ := h
      match args, hlen, hs, hN, hh, hw0 with
      | [a, b], _, hs, hN, hh, hw0 =>
        simp only [WfEs] at hs
        simp only [List.cons.sizeOf_spec] at hN
        have ha := (back_all V N a (by omega) hs.1).1
        have hb := (back_all V N b (by omega) hs.2.1).1
        have hlb := low_1 hs.2.1
        refine bk_prim (by simp [lowE, Ex.k]) (by rw [exD_at]; omega) hh (fun k rest hd hg hc => ?_)
        rw [exD_at] at hd
        have hgb : Good (exT b ++ mk4 [93] :: rest) := good_app (exT_no5 b) (good_app (a := [mk4 [93]]) (by simp [mk4]) hg)
        have e1 : exT (.mk 12 0 0 [] [a, b] p) ++ rest = wT 7 a ++ (mk4 [91] :: (exT b ++ mk4 [93] :: rest)) := by rw [exT_at]; simp
        rw [e1, ha.pr k (mk4 [91] :: (exT b ++ mk4 [93] :: rest)) (by omega) (good_app (a := [mk4 [91]]) (by simp [mk4]) hgb) (by simp [sees, mk4])]
        have hrb : lvl (unary k) (exT b ++ mk4 [93] :: rest) = .inl (b.er, mk4 [93] :: rest) := by
          have := hb.lv k 5 (mk4 [93] :: rest) (by decide) (by rw [show 6 - 5 = 1 from rfl, wD_no hlb]; omega) (fol_mark hg (by decide) (by decide) (by decide))
          rw [show 6 - 5 = 1 from rfl, wT_no hlb, lvF_lvl] at this
          exact this
        rw [ats, if_pos (by simp [sees, mk4])]
        simp only [List.tail_cons]
        rw [hrb]
        simp only [bind, need_mk4]
        have e5 : (Ex.mk 12 0 0 [] [a, b] p).er = .mk 12 0 0 [] [a.er, b.er] (place (mk4 [91] :: (exT b ++ mk4 [93] :: rest))) := by simp [Ex.er, ersE, mk4, place]
        rw [e5]
        exact ats_fuel (lvl_ok (unary_ok k)) _ _ _ _ hg (by simp; omega) (by omega)
    · obtain ⟨hk, rfl, rfl, rfl, hlen⟩ := h
      match args, hlen, hs, hN, hh, hw0, hlow1 with
      | [a], _, hs, hN, hh, hw0, hlow1 =>
        simp only [WfEs] at hs
        simp only [List.cons.sizeOf_spec] at hN
        have ha := (back_all V N a (by omega) hs.1).1
        have hk15 : (Ex.mk k 0 0 [] [a] p).k ≠ 15 := by rcases hk with rfl | rfl <;> simp [Ex.k]
        have h7 : lowE 7 (Ex.mk k 0 0 [] [a] p) = true := by rcases hk with rfl | rfl <;> simp [lowE, Ex.k]
        have hun : ∀ k2 rest, exD (Ex.mk k 0 0 [] [a] p) ≤ k2 → Good rest → sees 4 [91] rest = false → sees 4 [40] rest = false → unary k2 (exT (Ex.mk k 0 0 [] [a] p) ++ rest) = .inl ((Ex.mk k 0 0 [] [a] p).er, rest) := by
          intro k2 rest hd hg h1 h2
          rw [exD_un _ _ _ _ _ _ hk] at hd
          obtain ⟨k2, rfl⟩ : ∃ k', k2 = k' + 1 := ⟨k2 - 1, by omega⟩
          have hr := ha.un k2 rest (by omega) hg h1 h2
          rcases hk with rfl | rfl
          · rw [exT_neg, List.cons_append, unary, if_pos (by simp [sees, mk4])]
            simp only [List.tail_cons]
            rw [hr]
            simp [bind, Ex.er, ersE, place, mk4]
          · rw [exT_not, List.cons_append, unary, if_neg (by simp [sees, mk4]), if_pos (by simp [sees, mk4])]
            simp only [List.tail_cons]
            rw [hr]
            simp [bind, Ex.er, ersE, place, mk4]
        have hlv := lv_of hk15 hun
        have h6 : ∀ n, n ≤ 6 → lowE n (Ex.mk k 0 0 [] [a] p) = false := fun n hn => by
          rcases hk with rfl | rfl <;> simp [lowE, Ex.k] <;> omega
        exact ⟨bk_of hlow1 (fun h => by rw [h7] at h; simp at h) (fun _ => hun) (fun k j rest hj _ => hlv k j rest hj), fun k j rest hj _ hd hf => ⟨0, fun h => by omega, ch_of (fun k j rest hj _ => hlv k j rest hj) hj (h6 _ (by omega)) hd hf⟩⟩
    · obtain ⟨rfl, h1, h2, rfl, rfl, hlen⟩ := h
      match args, hlen, hs, hN, hh, hw0, hlow1 with
      | [a, b], _, hs, hN, hh, hw0, hlow1 =>
        simp only [WfEs] at hs
        simp only [List.cons.sizeOf_spec] at hN
        obtain ⟨ha, hca⟩ := back_all V N a (by omega) hs.1
        have hb := (back_all V N b (by omega) hs.2.1).1
        have h5 := opL_pos h1 h2
        have hlow : ∀ n, n ≤ 6 → (lowE n (Ex.mk 15 o 0 [] [a, b] p) = false ↔ n ≤ opL o) := fun n hn => by
          rw [low15, decide_eq_false_iff_not]; omega
        have hlv : ∀ k j rest, j ≤ 5 → lowE (6 - j) (Ex.mk 15 o 0 [] [a, b] p) = false → exD (Ex.mk 15 o 0 [] [a, b] p) ≤ k → Fol (6 - j) rest → lvF (unary k) j (exT (Ex.mk 15 o 0 [] [a, b] p) ++ rest) = .inl ((Ex.mk 15 o 0 [] [a, b] p).er, rest) := by
          intro k j
          induction j with
          | zero => intro rest _ hl; rw [hlow _ (by omega)] at hl; omega
          | succ j ih =>
            intro rest hj hl hd hf
            rw [hlow _ (by omega)] at hl
            have hf' : Fol (5 - j) rest := by rw [show 5 - j = 6 - (j + 1) by omega]; exact hf
            by_cases ho : opL o = 5 - j
            · obtain ⟨c, _, hc⟩ := bin_ch (p := p) h1 h2 ha hca hb (by omega) ho hd (hf.mono (by omega))
              rw [lvF, hc, chain_end hf']
            · simp only [lvF, level]
              rw [ih rest (by omega) (by rw [hlow _ (by omega)]; omega) hd (hf.mono (by omega))]
              simp only [bind]
              exact chain_end hf' _
        refine ⟨bk_of hlow1 (fun h => by rw [low15, decide_eq_false_iff_not] at h; omega) (fun h => by rw [hlow 6 (by omega)] at h; omega) hlv, fun k j rest hj hl hd hf => ?_⟩
        rw [hlow _ (by omega)] at hl
        by_cases ho : opL o = 5 - j
        · obtain ⟨c, _, hc⟩ := bin_ch (p := p) h1 h2 ha hca hb hj ho hd hf
          exact ⟨c, fun _ => ⟨rfl, ho⟩, hc⟩
        · exact ⟨0, fun h => by omega, ch_of hlv hj (by rw [hlow _ (by omega)]; omega) hd hf⟩
/-- What is written of an expression is read as it, with as many depths as it has. -/
theorem expr_back {V : Nat → B → Nat → Prop} {e : Ex} {k : Nat} {rest : List Tok} (hw : WfE V e) (hd : exD e ≤ k) (hf : Fol 1 rest) : expr k (exT e ++ rest) = .inl (e.er, rest) := by
  have hl := low_1 hw
  have := (back_all V _ e (Nat.le_refl _) hw).1.lv k 5 rest (by decide) (by rw [show 6 - 5 = 1 from rfl, wD_no hl]; exact hd) hf
  rw [show 6 - 5 = 1 from rfl, wT_no hl, lvF_lvl] at this
  exact this
end Go.Proofs.YtifebbdjdllfpaaGreatDoor.Px
/- The tokens that are written of types, slots and statements; read as they are. Plain mathematics. -/
namespace Go.Proofs.YtifebbdjdllfpaaGreatDoor.Px
open Go.Proofs.YtifebbdjdllfpaaGreatDoor.Lx (Tok B)
set_option linter.unusedVariables false
set_option linter.unusedSimpArgs false

/-- A type's text, and its tokens. -/
inductive Ty : Nat → B → List Tok → Prop
  | int {k : Nat} : Ty (k + 1) [105, 110, 116] [wd [105, 110, 116]]
  | bool {k : Nat} : Ty (k + 1) [98, 111, 111, 108] [wd [98, 111, 111, 108]]
  | text {k : Nat} : Ty (k + 1) [116, 101, 120, 116] [wd [116, 101, 120, 116]]
  | list {k : Nat} {y : B} {c : List Tok} : Ty k y c → Ty (k + 1) ([91] ++ y ++ [93]) (mk4 [91] :: (c ++ [mk4 [93]]))
  | map {k : Nat} {a y : B} {c : List Tok} : (a = [105, 110, 116] ∨ a = [116, 101, 120, 116]) → Ty k y c → Ty (k + 1) ([123] ++ a ++ [58] ++ y ++ [125]) (mk4 [123] :: wd a :: mk4 [58] :: (c ++ [mk4 [125]]))
theorem Ty.no5 {k : Nat} {y : B} {c : List Tok} (h : Ty k y c) : ∀ t ∈ c, t.kind ≠ 5 := by
  induction h with
  | int => intro t ht; simp at ht; rw [ht]; simp [wd]
  | bool => intro t ht; simp at ht; rw [ht]; simp [wd]
  | text => intro t ht; simp at ht; rw [ht]; simp [wd]
  | list _ ih =>
    intro t ht
    simp only [List.mem_cons, List.mem_append, List.not_mem_nil, or_false] at ht
    rcases ht with rfl | ht | rfl
    · simp [mk4]
    · exact ih t ht
    · simp [mk4]
  | map _ _ ih =>
    intro t ht
    simp only [List.mem_cons, List.mem_append, List.not_mem_nil, or_false] at ht
    rcases ht with rfl | rfl | rfl | ht | rfl
    · simp [mk4]
    · simp [wd]
    · simp [mk4]
    · exact ih t ht
    · simp [mk4]
theorem Ty.text_eq {k : Nat} {y : B} {c : List Tok} (h : Ty k y c) : c.flatMap (fun t => t.text) = y := by
  induction h with
  | int => rfl
  | bool => rfl
  | text => rfl
  | list _ ih => simp [List.flatMap_append, ih, mk4]
  | map _ _ ih => simp [List.flatMap_append, ih, mk4, wd]
theorem Ty.back {k : Nat} {y : B} {c : List Tok} (h : Ty k y c) : ∀ rest, typ k (c ++ rest) = .inl (y, rest) := by
  induction h with
  | int => intro rest; simp [typ, sees, wd]
  | bool => intro rest; simp [typ, sees, wd]
  | text => intro rest; simp [typ, sees, wd]
  | @list k y c _ ih =>
    intro rest
    have e : mk4 [91] :: (c ++ [mk4 [93]]) ++ rest = mk4 [91] :: (c ++ mk4 [93] :: rest) := by simp
    rw [e, typ, if_neg (by simp [sees, mk4]), if_neg (by simp [sees, mk4]), if_neg (by simp [sees, mk4]), if_pos (by simp [sees, mk4])]
    simp only [List.tail_cons]
    rw [ih]
    simp only [bind, need_mk4]
  | @map k a y c ha _ ih =>
    intro rest
    have e : mk4 [123] :: wd a :: mk4 [58] :: (c ++ [mk4 [125]]) ++ rest = mk4 [123] :: wd a :: mk4 [58] :: (c ++ mk4 [125] :: rest) := by simp
    have hk : key (wd a :: mk4 [58] :: (c ++ mk4 [125] :: rest)) = .inl (a, mk4 [58] :: (c ++ mk4 [125] :: rest)) := by
      rcases ha with rfl | rfl <;> simp [key, sees, wd]
    rw [e, typ, if_neg (by simp [sees, mk4]), if_neg (by simp [sees, mk4]), if_neg (by simp [sees, mk4]), if_neg (by simp [sees, mk4]), if_pos (by simp [sees, mk4])]
    simp only [List.tail_cons]
    rw [hk]
    simp only [bind, need_mk4]
    rw [ih]
    simp only [need_mk4]
theorem key_some {l l' : List Tok} {a : B} (h : key l = .inl (a, l')) : (a = [105, 110, 116] ∨ a = [116, 101, 120, 116]) ∧ ∃ t, l = t :: l' := by
  unfold key at h
  split at h
  · rename_i hs
    obtain ⟨t, r, rfl, _, _⟩ := sees_head hs
    simp at h
    exact ⟨Or.inl h.1.symm, t, by rw [h.2]⟩
  split at h
  · rename_i hs
    obtain ⟨t, r, rfl, _, _⟩ := sees_head hs
    simp at h
    exact ⟨Or.inr h.1.symm, t, by rw [h.2]⟩
  · simp [fail] at h
theorem typ_sm : ∀ (k : Nat) (l : List Tok) (y : B) (l' : List Tok), typ k l = .inl (y, l') → ∃ c, Ty k y c ∧ c.length + l'.length = l.length ∧ l' <:+ l
  | 0, l, y, l', h => by simp [typ, fail] at h
  | k + 1, l, y, l', h => by
    simp only [typ] at h
    split at h
    · rename_i hs
      obtain ⟨t, r, rfl, _, _⟩ := sees_head hs
      simp at h
      obtain ⟨rfl, rfl⟩ := h
      exact ⟨_, .int, by simp; omega, List.suffix_cons _ _⟩
    split at h
    · rename_i hs
      obtain ⟨t, r, rfl, _, _⟩ := sees_head hs
      simp at h
      obtain ⟨rfl, rfl⟩ := h
      exact ⟨_, .bool, by simp; omega, List.suffix_cons _ _⟩
    split at h
    · rename_i hs
      obtain ⟨t, r, rfl, _, _⟩ := sees_head hs
      simp at h
      obtain ⟨rfl, rfl⟩ := h
      exact ⟨_, .text, by simp; omega, List.suffix_cons _ _⟩
    split at h
    · rename_i hs
      obtain ⟨t, r, rfl, _, _⟩ := sees_head hs
      obtain ⟨y1, l1, h1, h2⟩ := bind_some h
      obtain ⟨u, l2, h3, h4⟩ := bind_some h2
      clear h h2
      obtain ⟨t2, rfl⟩ := need_some h3
      simp at h4
      obtain ⟨rfl, rfl⟩ := h4
      simp only [List.tail_cons] at h1
      obtain ⟨c, hc, hl, hs⟩ := typ_sm k r y1 _ h1
      exact ⟨_, .list hc, by simp at hl ⊢; omega, ((List.suffix_cons _ _).trans hs).trans (List.suffix_cons _ _)⟩
    split at h
    · rename_i hs
      obtain ⟨t, r, rfl, _, _⟩ := sees_head hs
      obtain ⟨a, l1, h1, h2⟩ := bind_some h
      obtain ⟨u, l2, h3, h4⟩ := bind_some h2
      obtain ⟨y1, l3, h5, h6⟩ := bind_some h4
      obtain ⟨u2, l4, h7, h8⟩ := bind_some h6
      clear h h2 h4 h6
      simp only [List.tail_cons] at h1
      obtain ⟨ha, t1, rfl⟩ := key_some h1
      clear h1
      obtain ⟨t2, rfl⟩ := need_some h3
      clear h3
      obtain ⟨t3, rfl⟩ := need_some h7
      simp only [Sum.inl.injEq, Prod.mk.injEq] at h8
      obtain ⟨rfl, rfl⟩ := h8
      obtain ⟨c, hc, hl, hs⟩ := typ_sm k l2 y1 _ h5
      exact ⟨_, .map ha hc, by simp at hl ⊢; omega, ((((List.suffix_cons _ _).trans hs).trans (List.suffix_cons _ _)).trans (List.suffix_cons _ _)).trans (List.suffix_cons _ _)⟩
    · simp [fail] at h
open Classical in
/-- A type's tokens. -/
noncomputable def tyT (y : B) : List Tok := if h : ∃ c, Ty 4 y c then Classical.choose h else []
theorem tyT_spec {y : B} {c : List Tok} (h : Ty 4 y c) : Ty 4 y (tyT y) := by
  have hh : ∃ c, Ty 4 y c := ⟨c, h⟩
  unfold tyT
  rw [dif_pos hh]
  exact Classical.choose_spec hh
theorem Ty.uniq {k : Nat} {y : B} {c : List Tok} (h : Ty k y c) : ∀ {k' : Nat} {y' : B} {d : List Tok}, Ty k' y' d → y' = y → c = d := by
  induction h with
  | int =>
    intro k' y' d h2 e
    cases h2 with
    | int => rfl
    | bool => simp at e
    | text => simp at e
    | list => simp at e
    | map => simp at e
  | bool =>
    intro k' y' d h2 e
    cases h2 with
    | int => simp at e
    | bool => rfl
    | text => simp at e
    | list => simp at e
    | map => simp at e
  | text =>
    intro k' y' d h2 e
    cases h2 with
    | int => simp at e
    | bool => simp at e
    | text => rfl
    | list => simp at e
    | map => simp at e
  | list _ ih =>
    intro k' y' d h2 e
    cases h2 with
    | int => simp at e
    | bool => simp at e
    | text => simp at e
    | list h3 =>
      simp at e
      rw [ih h3 e]
    | map => simp at e
  | @map k a y c ha _ ih =>
    intro k' y' d h2 e
    cases h2 with
    | int => simp at e
    | bool => simp at e
    | text => simp at e
    | list => simp at e
    | map hb h3 =>
      rcases ha with rfl | rfl <;> rcases hb with rfl | rfl
      · simp at e; rw [ih h3 e]
      · simp at e
      · simp at e
      · simp at e; rw [ih h3 e]
theorem tyT_eq {y : B} {c : List Tok} (h : Ty 4 y c) : tyT y = c := (tyT_spec h).uniq h rfl
/-- A slot. -/
noncomputable def slT (s : Sl) : List Tok := wd s.name :: mk4 [58] :: tyT s.type
def NmOk (V : Nat → B → Nat → Prop) (t : B) : Prop := reserved t = false ∧ V 1 t 0
def WfSl (V : Nat → B → Nat → Prop) (s : Sl) : Prop := NmOk V s.name ∧ ∃ c, Ty 4 s.type c
theorem name_wd {V : Nat → B → Nat → Prop} {t : B} (h : NmOk V t) (l : List Tok) : name (wd t :: l) = .inl (wd t, l) := by simp [name, wd, h.1]
theorem slot_back {V : Nat → B → Nat → Prop} {s : Sl} (h : WfSl V s) (rest : List Tok) : slot (slT s ++ rest) = .inl (s.er, rest) := by
  obtain ⟨hn, c, hc⟩ := h
  have e : slT s ++ rest = wd s.name :: mk4 [58] :: (tyT s.type ++ rest) := by simp [slT]
  rw [e, slot, name_wd hn]
  simp only [bind, need_mk4]
  rw [(tyT_spec hc).back]
  simp [Sl.er, wd]
theorem slot_sm {V : Nat → B → Nat → Prop} {l l' : List Tok} {s : Sl} (hV : AllV V l) (h : slot l = .inl (s, l')) : WfSl V s ∧ (slT s).length + l'.length ≤ l.length ∧ l' <:+ l := by
  obtain ⟨t, l1, h1, h2⟩ := bind_some h
  obtain ⟨u, l2, h3, h4⟩ := bind_some h2
  obtain ⟨y, l3, h5, h6⟩ := bind_some h4
  clear h h2 h4
  obtain ⟨rfl, hk, hr⟩ := name_some h1
  clear h1
  obtain ⟨t2, rfl⟩ := need_some h3
  simp at h6
  obtain ⟨rfl, rfl⟩ := h6
  obtain ⟨c, hc, hl, hs⟩ := typ_sm 4 l2 y _ h5
  refine ⟨⟨⟨hr, (hV t (by simp)).1 hk⟩, c, hc⟩, ?_, (hs.trans (List.suffix_cons _ _)).trans (List.suffix_cons _ _)⟩
  simp only [slT, List.length_cons, tyT_eq hc]
  omega
theorem slT_no5 {V : Nat → B → Nat → Prop} {s : Sl} (h : WfSl V s) : ∀ t ∈ slT s, t.kind ≠ 5 := by
  obtain ⟨_, c, hc⟩ := h
  intro t ht
  simp only [slT, List.mem_cons] at ht
  rcases ht with rfl | rfl | ht
  · simp [wd]
  · simp [mk4]
  · exact (tyT_spec hc).no5 t ht
/- Statements. -/
def blk (l : List Tok) : List Tok := mk4 [123] :: (l ++ [mk4 [125]])
def stK (k : Nat) (n : B) (es : List (List Tok)) (b c : List Tok) (none : Bool) : List Tok :=
  if k = 1 then wd [108, 101, 116] :: wd n :: mk4 [61] :: (es.getD 0 [] ++ [mk4 [59]])
  else if k = 2 then (if es.length = 1 then wd [115, 101, 116] :: wd n :: mk4 [61] :: (es.getD 0 [] ++ [mk4 [59]]) else wd [115, 101, 116] :: wd n :: mk4 [91] :: (es.getD 0 [] ++ mk4 [93] :: mk4 [61] :: (es.getD 1 [] ++ [mk4 [59]])))
  else if k = 3 then wd [100, 101, 108] :: wd n :: mk4 [91] :: (es.getD 0 [] ++ [mk4 [93], mk4 [59]])
  else if k = 4 then wd [105, 102] :: (es.getD 0 [] ++ (blk b ++ if none then [] else wd [101, 108, 115, 101] :: blk c))
  else if k = 5 then wd [102, 111, 114] :: wd n :: wd [116, 111] :: (es.getD 0 [] ++ blk b)
  else wd [114, 101, 116] :: (es.getD 0 [] ++ [mk4 [59]])
mutual
/-- The tokens that are written of a statement. -/
def stT : St → List Tok
  | .mk k n es b c _ => stK k n (es.map exT) (stsT b) (stsT c) c.isEmpty
def stsT : List St → List Tok
  | [] => []
  | s :: r => stT s ++ stsT r
end
mutual
/-- How many depths they ask for, of exprs and of blocks. -/
def stD : St → Nat
  | .mk k n es b c _ => max (maxL (es.map exD)) (max (if k = 4 ∨ k = 5 then 1 + stsD b else 0) (if k = 4 ∧ c.isEmpty = false then 1 + stsD c else 0))
def stsD : List St → Nat
  | [] => 0
  | s :: r => max (stD s) (stsD r)
end
def FormS (V : Nat → B → Nat → Prop) (k : Nat) (n : B) (len : Nat) (b c : List St) : Prop :=
  (k = 1 ∧ NmOk V n ∧ len = 1 ∧ b = [] ∧ c = []) ∨ (k = 2 ∧ NmOk V n ∧ (len = 1 ∨ len = 2) ∧ b = [] ∧ c = []) ∨ (k = 3 ∧ NmOk V n ∧ len = 1 ∧ b = [] ∧ c = []) ∨ (k = 4 ∧ n = [] ∧ len = 1) ∨ (k = 5 ∧ NmOk V n ∧ len = 1 ∧ c = []) ∨ (k = 6 ∧ n = [] ∧ len = 1 ∧ b = [] ∧ c = [])
mutual
def WfS (V : Nat → B → Nat → Prop) : St → Prop
  | .mk k n es b c _ => FormS V k n es.length b c ∧ (∀ e ∈ es, WfE V e) ∧ WfSs V b ∧ WfSs V c
def WfSs (V : Nat → B → Nat → Prop) : List St → Prop
  | [] => True
  | s :: r => WfS V s ∧ WfSs V r
end
theorem stsT_app : ∀ (a b : List St), stsT (a ++ b) = stsT a ++ stsT b
  | [], b => by simp [stsT]
  | s :: r, b => by simp [stsT, stsT_app r b]
theorem stsD_app : ∀ (a b : List St), stsD (a ++ b) = max (stsD a) (stsD b)
  | [], b => by simp [stsD]
  | s :: r, b => by simp only [List.cons_append, stsD, stsD_app r b]; omega
theorem WfSs_app {V : Nat → B → Nat → Prop} : ∀ {a b : List St}, WfSs V a → WfSs V b → WfSs V (a ++ b)
  | [], b, _, h => h
  | s :: r, b, h1, h2 => by
    simp only [WfSs] at h1
    simp only [List.cons_append, WfSs]
    exact ⟨h1.1, WfSs_app h1.2 h2⟩
/-- What reads a statement, or a block, with k depths left. -/
def SmS (V : Nat → B → Nat → Prop) (k : Nat) (q : P St) : Prop := ∀ l s l', AllV V l → q l = .inl (s, l') → WfS V s ∧ stD s ≤ k ∧ (stT s).length + l'.length ≤ l.length ∧ l' <:+ l
def SmB (V : Nat → B → Nat → Prop) (k : Nat) (q : P (List St)) : Prop := ∀ l b l', AllV V l → q l = .inl (b, l') → WfSs V b ∧ 1 + stsD b ≤ k ∧ (blk (stsT b)).length + l'.length ≤ l.length ∧ l' <:+ l
theorem stmts_sm {V : Nat → B → Nat → Prop} {k : Nat} {q : P St} (hq : SmS V k q) : ∀ (f : Nat) (acc : List St) (l : List Tok) (b : List St) (l' : List Tok), AllV V l → WfSs V acc → stsD acc ≤ k → stmts q f acc l = .inl (b, l') → WfSs V b ∧ stsD b ≤ k ∧ (stsT b).length + l'.length + 1 ≤ (stsT acc).length + l.length ∧ l' <:+ l
  | 0, _, _, _, _, _, _, _, h => by simp [stmts] at h
  | f + 1, acc, l, b, l', hV, hw, hd, h => by
    simp only [stmts] at h
    split at h
    · rename_i hs
      obtain ⟨t, r, rfl, _, _⟩ := sees_head hs
      simp at h
      obtain ⟨rfl, rfl⟩ := h
      exact ⟨hw, hd, by simp; omega, List.suffix_cons _ _⟩
    · obtain ⟨s, l1, h1, h2⟩ := bind_some h
      obtain ⟨w1, w2, w3, w4⟩ := hq l s l1 hV h1
      have hrec := stmts_sm hq f (acc ++ [s]) l1 b l' (hV.suf w4) (WfSs_app hw (by simp only [WfSs]; exact ⟨w1, trivial⟩)) (by rw [stsD_app]; simp only [stsD]; omega) h2
      refine ⟨hrec.1, hrec.2.1, ?_, hrec.2.2.2.trans w4⟩
      have h3 := hrec.2.2.1
      rw [stsT_app] at h3
      simp only [stsT, List.append_nil, List.length_append] at h3
      omega
theorem st_words (k : Nat) (n : B) (es : List Ex) (b c : List St) (p : Nat) : stT (.mk k n es b c p) = stK k n (es.map exT) (stsT b) (stsT c) c.isEmpty := by rw [stT]
theorem stmt_sm {V : Nat → B → Nat → Prop} {k : Nat} {q : P (List St)} (hq : SmB V k q) : SmS V k (stmt (expr k) q) := by
  intro l s l' hV h
  unfold stmt at h
  split at h
  · rename_i hs
    obtain ⟨t0, r, rfl, _, _⟩ := sees_head hs
    obtain ⟨t, l1, h1, h2⟩ := bind_some h
    obtain ⟨u, l2, h3, h4⟩ := bind_some h2
    obtain ⟨x, l3, h5, h6⟩ := bind_some h4
    obtain ⟨u2, l4, h7, h8⟩ := bind_some h6
    clear h h2 h4 h6
    simp only [List.tail_cons] at h1
    obtain ⟨rfl, hk, hr⟩ := name_some h1
    clear h1
    obtain ⟨t2, rfl⟩ := need_some h3
    clear h3
    obtain ⟨t3, rfl⟩ := need_some h7
    simp at h8
    obtain ⟨rfl, rfl⟩ := h8
    have hV2 : AllV V l2 := hV.suf (((List.suffix_cons _ _).trans (List.suffix_cons _ _)).trans (List.suffix_cons _ _))
    obtain ⟨w1, w2, w3, w4⟩ := expr_sm V k hV2 h5
    refine ⟨?_, ?_, ?_, ((((List.suffix_cons _ _).trans w4).trans (List.suffix_cons _ _)).trans (List.suffix_cons _ _)).trans (List.suffix_cons _ _)⟩
    · simp only [WfS, WfSs, FormS]
      exact ⟨Or.inl ⟨trivial, ⟨hr, (hV t (by simp)).1 hk⟩, by simp⟩, by simpa using w1, trivial, trivial⟩
    · simp [stD, maxL]; omega
    · rw [st_words]; simp [stK] at w3 ⊢; omega
  split at h
  · rename_i _ hs
    obtain ⟨t0, r, rfl, _, _⟩ := sees_head hs
    obtain ⟨t, l1, h1, h2⟩ := bind_some h
    obtain ⟨xs, l2, h3, h4⟩ := bind_some h2
    obtain ⟨u, l3, h5, h6⟩ := bind_some h4
    obtain ⟨x, l4, h7, h8⟩ := bind_some h6
    obtain ⟨u2, l5, h9, h10⟩ := bind_some h8
    clear h h2 h4 h6 h8
    simp only [List.tail_cons] at h1
    obtain ⟨rfl, hk, hr⟩ := name_some h1
    clear h1
    obtain ⟨t2, rfl⟩ := need_some h5
    clear h5
    obtain ⟨t3, rfl⟩ := need_some h9
    simp at h10
    obtain ⟨rfl, rfl⟩ := h10
    have hnm : NmOk V t.text := ⟨hr, (hV t (by simp)).1 hk⟩
    unfold opt at h3
    split at h3
    · rename_i hs2
      obtain ⟨t4, r4, rfl, _, _⟩ := sees_head hs2
      obtain ⟨y, l6, g1, g2⟩ := bind_some h3
      obtain ⟨u3, l7, g3, g4⟩ := bind_some g2
      clear h3 g2
      obtain ⟨t5, rfl⟩ := need_some g3
      simp at g4
      obtain ⟨rfl, rfl⟩ := g4
      simp only [List.tail_cons] at g1
      have hV2 : AllV V r4 := hV.suf (((List.suffix_cons _ _).trans (List.suffix_cons _ _)).trans (List.suffix_cons _ _))
      obtain ⟨v1, v2, v3, v4⟩ := expr_sm V k hV2 g1
      have hV3 : AllV V l3 := hV2.suf (((List.suffix_cons _ _).trans (List.suffix_cons _ _)).trans v4)
      obtain ⟨w1, w2, w3, w4⟩ := expr_sm V k hV3 h7
      refine ⟨?_, ?_, ?_, (((List.suffix_cons _ _).trans w4).trans (((List.suffix_cons _ _).trans (List.suffix_cons _ _)).trans v4)).trans (((List.suffix_cons _ _).trans (List.suffix_cons _ _)).trans (List.suffix_cons _ _))⟩
      · simp only [WfS, WfSs, FormS]
        exact ⟨Or.inr (Or.inl ⟨trivial, hnm, by simp⟩), by simpa using ⟨v1, w1⟩, trivial, trivial⟩
      · simp [stD, maxL]; omega
      · rw [st_words]; simp [stK] at v3 w3 ⊢; omega
    · simp at h3
      obtain ⟨rfl, rfl⟩ := h3
      have hV3 : AllV V l3 := hV.suf (((List.suffix_cons _ _).trans (List.suffix_cons _ _)).trans (List.suffix_cons _ _))
      obtain ⟨w1, w2, w3, w4⟩ := expr_sm V k hV3 h7
      refine ⟨?_, ?_, ?_, ((List.suffix_cons _ _).trans w4).trans (((List.suffix_cons _ _).trans (List.suffix_cons _ _)).trans (List.suffix_cons _ _))⟩
      · simp only [WfS, WfSs, FormS]
        exact ⟨Or.inr (Or.inl ⟨trivial, hnm, by simp⟩), by simpa using w1, trivial, trivial⟩
      · simp [stD, maxL]; omega
      · rw [st_words]; simp [stK] at w3 ⊢; omega
  split at h
  · rename_i _ _ hs
    obtain ⟨t0, r, rfl, _, _⟩ := sees_head hs
    obtain ⟨t, l1, h1, h2⟩ := bind_some h
    obtain ⟨u, l2, h3, h4⟩ := bind_some h2
    obtain ⟨x, l3, h5, h6⟩ := bind_some h4
    obtain ⟨u2, l4, h7, h8⟩ := bind_some h6
    obtain ⟨u3, l5, h9, h10⟩ := bind_some h8
    clear h h2 h4 h6 h8
    simp only [List.tail_cons] at h1
    obtain ⟨rfl, hk, hr⟩ := name_some h1
    clear h1
    obtain ⟨t2, rfl⟩ := need_some h3
    clear h3
    obtain ⟨t3, rfl⟩ := need_some h7
    clear h7
    obtain ⟨t4, rfl⟩ := need_some h9
    simp at h10
    obtain ⟨rfl, rfl⟩ := h10
    have hV2 : AllV V l2 := hV.suf (((List.suffix_cons _ _).trans (List.suffix_cons _ _)).trans (List.suffix_cons _ _))
    obtain ⟨w1, w2, w3, w4⟩ := expr_sm V k hV2 h5
    refine ⟨?_, ?_, ?_, (((List.suffix_cons _ _).trans (List.suffix_cons _ _)).trans w4).trans (((List.suffix_cons _ _).trans (List.suffix_cons _ _)).trans (List.suffix_cons _ _))⟩
    · simp only [WfS, WfSs, FormS]
      exact ⟨Or.inr (Or.inr (Or.inl ⟨trivial, ⟨hr, (hV t (by simp)).1 hk⟩, by simp⟩)), by simpa using w1, trivial, trivial⟩
    · simp [stD, maxL]; omega
    · rw [st_words]; simp [stK] at w3 ⊢; omega
  split at h
  · rename_i _ _ _ hs
    obtain ⟨t0, r, rfl, _, _⟩ := sees_head hs
    obtain ⟨x, l1, h1, h2⟩ := bind_some h
    obtain ⟨b, l2, h3, h4⟩ := bind_some h2
    obtain ⟨c, l3, h5, h6⟩ := bind_some h4
    clear h h2 h4
    simp at h6
    obtain ⟨rfl, rfl⟩ := h6
    simp only [List.tail_cons] at h1
    have hV2 : AllV V r := hV.suf (List.suffix_cons _ _)
    obtain ⟨w1, w2, w3, w4⟩ := expr_sm V k hV2 h1
    obtain ⟨v1, v2, v3, v4⟩ := hq l1 b l2 (hV2.suf w4) h3
    unfold other at h5
    split at h5
    · rename_i hs2
      obtain ⟨t4, r4, rfl, _, _⟩ := sees_head hs2
      simp only [List.tail_cons] at h5
      obtain ⟨z1, z2, z3, z4⟩ := hq r4 c _ (hV2.suf (((List.suffix_cons _ _).trans v4).trans w4)) h5
      refine ⟨?_, ?_, ?_, (((z4.trans (List.suffix_cons _ _)).trans v4).trans w4).trans (List.suffix_cons _ _)⟩
      · simp only [WfS, FormS]
        exact ⟨Or.inr (Or.inr (Or.inr (Or.inl ⟨trivial, trivial, by simp⟩))), by simpa using w1, v1, z1⟩
      · simp only [stD, List.map_cons, List.map_nil, maxL]
        simp
        split <;> omega
      · rw [st_words]
        rcases c with _ | ⟨s, c⟩
        · simp [stK, blk] at w3 v3 z3 ⊢; omega
        · simp [stK, blk] at w3 v3 z3 ⊢; omega
    · simp at h5
      obtain ⟨rfl, rfl⟩ := h5
      refine ⟨?_, ?_, ?_, (v4.trans w4).trans (List.suffix_cons _ _)⟩
      · simp only [WfS, WfSs, FormS]
        exact ⟨Or.inr (Or.inr (Or.inr (Or.inl ⟨trivial, trivial, by simp⟩))), by simpa using w1, v1, trivial⟩
      · simp only [stD, List.map_cons, List.map_nil, maxL]
        simp
        omega
      · rw [st_words]; simp [stK, blk] at w3 v3 ⊢; omega
  split at h
  · rename_i _ _ _ _ hs
    obtain ⟨t0, r, rfl, _, _⟩ := sees_head hs
    obtain ⟨t, l1, h1, h2⟩ := bind_some h
    obtain ⟨u, l2, h3, h4⟩ := bind_some h2
    obtain ⟨x, l3, h5, h6⟩ := bind_some h4
    obtain ⟨b, l4, h7, h8⟩ := bind_some h6
    clear h h2 h4 h6
    simp only [List.tail_cons] at h1
    obtain ⟨rfl, hk, hr⟩ := name_some h1
    clear h1
    obtain ⟨t2, rfl, _, _⟩ := needK_some h3
    simp at h8
    obtain ⟨rfl, rfl⟩ := h8
    have hV2 : AllV V l2 := hV.suf (((List.suffix_cons _ _).trans (List.suffix_cons _ _)).trans (List.suffix_cons _ _))
    obtain ⟨w1, w2, w3, w4⟩ := expr_sm V k hV2 h5
    obtain ⟨v1, v2, v3, v4⟩ := hq l3 b _ (hV2.suf w4) h7
    refine ⟨?_, ?_, ?_, (v4.trans w4).trans (((List.suffix_cons _ _).trans (List.suffix_cons _ _)).trans (List.suffix_cons _ _))⟩
    · simp only [WfS, WfSs, FormS]
      exact ⟨Or.inr (Or.inr (Or.inr (Or.inr (Or.inl ⟨trivial, ⟨hr, (hV t (by simp)).1 hk⟩, by simp⟩)))), by simpa using w1, v1, trivial⟩
    · simp only [stD, List.map_cons, List.map_nil, maxL]
      simp
      omega
    · rw [st_words]; simp [stK, blk] at w3 v3 ⊢; omega
  split at h
  · rename_i _ _ _ _ _ hs
    obtain ⟨t0, r, rfl, _, _⟩ := sees_head hs
    obtain ⟨x, l1, h1, h2⟩ := bind_some h
    obtain ⟨u, l2, h3, h4⟩ := bind_some h2
    clear h h2
    obtain ⟨t2, rfl⟩ := need_some h3
    simp at h4
    obtain ⟨rfl, rfl⟩ := h4
    simp only [List.tail_cons] at h1
    obtain ⟨w1, w2, w3, w4⟩ := expr_sm V k (hV.suf (List.suffix_cons _ _)) h1
    refine ⟨?_, ?_, ?_, ((List.suffix_cons _ _).trans w4).trans (List.suffix_cons _ _)⟩
    · simp only [WfS, WfSs, FormS]
      exact ⟨Or.inr (Or.inr (Or.inr (Or.inr (Or.inr ⟨trivial, trivial, by simp⟩)))), by simpa using w1, trivial, trivial⟩
    · simp [stD, maxL]; omega
    · rw [st_words]; simp [stK] at w3 ⊢; omega
  · simp [fail] at h
theorem block_sm (V : Nat → B → Nat → Prop) : ∀ k, SmB V k (block k)
  | 0 => by intro l b l' hV h; simp [block, fail] at h
  | k + 1 => by
    intro l b l' hV h
    simp only [block] at h
    obtain ⟨u, l1, h1, h2⟩ := bind_some h
    clear h
    obtain ⟨t, rfl⟩ := need_some h1
    obtain ⟨w1, w2, w3, w4⟩ := stmts_sm (stmt_sm (block_sm V k)) _ [] l1 b l' (hV.suf (List.suffix_cons _ _)) (by simp [WfSs]) (by simp [stsD]) h2
    exact ⟨w1, by omega, by simp [blk, stsT] at w3 ⊢; omega, w4.trans (List.suffix_cons _ _)⟩
end Go.Proofs.YtifebbdjdllfpaaGreatDoor.Px
/- What is written of statements and blocks is read as they are. Plain mathematics. -/
namespace Go.Proofs.YtifebbdjdllfpaaGreatDoor.Px
open Go.Proofs.YtifebbdjdllfpaaGreatDoor.Lx (Tok B)
set_option linter.unusedVariables false
set_option linter.unusedSimpArgs false

theorem blk_no5 {l : List Tok} (h : ∀ t ∈ l, t.kind ≠ 5) : ∀ t ∈ blk l, t.kind ≠ 5 := by
  intro t ht
  simp only [blk, List.mem_cons, List.mem_append, List.not_mem_nil, or_false] at ht
  rcases ht with rfl | ht | rfl
  · simp [mk4]
  · exact h t ht
  · simp [mk4]
theorem stK_no5 {k : Nat} {n : B} {es : List (List Tok)} {b c : List Tok} {e : Bool} (he : ∀ l ∈ es, ∀ t ∈ l, t.kind ≠ 5) (hb : ∀ t ∈ b, t.kind ≠ 5) (hc : ∀ t ∈ c, t.kind ≠ 5) : ∀ t ∈ stK k n es b c e, t.kind ≠ 5 := by
  have h0 := getD_no5 0 he
  have h1 := getD_no5 1 he
  have w : ∀ x, (wd x).kind ≠ 5 := fun x => by simp [wd]
  have m : ∀ x, (mk4 x).kind ≠ 5 := fun x => by simp [mk4]
  have hb' := blk_no5 hb
  have hc' := blk_no5 hc
  intro t ht
  unfold stK at ht
  repeat' split at ht
  all_goals simp only [List.mem_cons, List.mem_append, List.not_mem_nil, or_false] at ht
  · rcases ht with rfl | rfl | rfl | ht | rfl
    · exact w _
    · exact w _
    · exact m _
    · exact h0 t ht
    · exact m _
  · rcases ht with rfl | rfl | rfl | ht | rfl
    · exact w _
    · exact w _
    · exact m _
    · exact h0 t ht
    · exact m _
  · rcases ht with rfl | rfl | rfl | ht | rfl | rfl | ht | rfl
    · exact w _
    · exact w _
    · exact m _
    · exact h0 t ht
    · exact m _
    · exact m _
    · exact h1 t ht
    · exact m _
  · rcases ht with rfl | rfl | rfl | ht | rfl | rfl
    · exact w _
    · exact w _
    · exact m _
    · exact h0 t ht
    · exact m _
    · exact m _
  · rcases ht with rfl | ht | ht
    · exact w _
    · exact h0 t ht
    · exact hb' t ht
  · rcases ht with rfl | ht | ht | rfl | ht
    · exact w _
    · exact h0 t ht
    · exact hb' t ht
    · exact w _
    · exact hc' t ht
  · rcases ht with rfl | rfl | rfl | ht | ht
    · exact w _
    · exact w _
    · exact w _
    · exact h0 t ht
    · exact hb' t ht
  · rcases ht with rfl | ht | rfl
    · exact w _
    · exact h0 t ht
    · exact m _
mutual
theorem stT_no5 : ∀ s, ∀ t ∈ stT s, t.kind ≠ 5
  | .mk k n es b c p => by
    rw [stT]
    exact stK_no5 (fun l hl => by simp at hl; obtain ⟨e, _, rfl⟩ := hl; exact exT_no5 e) (stsT_no5 b) (stsT_no5 c)
theorem stsT_no5 : ∀ l, ∀ t ∈ stsT l, t.kind ≠ 5
  | [] => by intro t ht; simp [stsT] at ht
  | s :: r => by
    intro t ht
    rw [stsT] at ht
    simp only [List.mem_append] at ht
    rcases ht with ht | ht
    · exact stT_no5 s t ht
    · exact stsT_no5 r t ht
end
/-- The first of a statement's words. -/
theorem stT_head (s : St) : ∃ x r, stT s = wd x :: r ∧ x ≠ [101, 108, 115, 101] := by
  match s with
  | .mk k n es b c p =>
    rw [stT]
    unfold stK
    repeat' split
    all_goals exact ⟨_, _, rfl, by decide⟩
theorem sts_next (b : List St) (rest : List Tok) : sees 1 [101, 108, 115, 101] (stsT b ++ mk4 [125] :: rest) = false := by
  match b with
  | [] => simp [stsT, sees, mk4]
  | s :: r =>
    obtain ⟨x, q, e, hx⟩ := stT_head s
    rw [stsT, e]
    simp [sees, wd, hx]
/-- A statement's reading. -/
def StBk (s : St) : Prop := ∀ k rest, stD s ≤ k → Good rest → sees 1 [101, 108, 115, 101] rest = false → stmt (expr k) (block k) (stT s ++ rest) = .inl (s.er, rest)
theorem sts_back {k : Nat} : ∀ (b acc : List St) (f : Nat) (rest : List Tok), (∀ s ∈ b, StBk s ∧ stD s ≤ k) → Good rest → (stsT b).length + rest.length + 1 < f → stmts (stmt (expr k) (block k)) f acc (stsT b ++ mk4 [125] :: rest) = .inl (acc ++ b.map St.er, rest)
  | [], acc, f, rest, _, hg, hf => by
    obtain ⟨f, rfl⟩ : ∃ f', f = f' + 1 := ⟨f - 1, by omega⟩
    simp [stmts, stsT, sees, mk4]
  | s :: b, acc, f, rest, h, hg, hf => by
    obtain ⟨f, rfl⟩ : ∃ f', f = f' + 1 := ⟨f - 1, by omega⟩
    obtain ⟨hs, hd⟩ := h s (by simp)
    have hg2 : Good (stsT b ++ mk4 [125] :: rest) := good_app (stsT_no5 b) (good_app (a := [mk4 [125]]) (by simp [mk4]) hg)
    have hrd := hs k _ hd hg2 (sts_next b rest)
    obtain ⟨x, r, e, hx⟩ := stT_head s
    have hlen : 1 ≤ (stT s).length := by rw [e]; simp
    rw [stsT, List.append_assoc]
    simp only [stmts]
    rw [if_neg (by rw [e]; simp [sees, wd]), hrd]
    simp only [bind]
    rw [stsT, List.length_append] at hf
    have := sts_back b (acc ++ [s.er]) f rest (fun s2 h2 => h s2 (by simp [h2])) hg (by omega)
    rw [this]
    simp
theorem stsD_mem : ∀ {b : List St} {s : St}, s ∈ b → stD s ≤ stsD b
  | a :: r, s, h => by
    simp only [List.mem_cons] at h
    simp only [stsD]
    rcases h with rfl | h
    · omega
    · have := stsD_mem h; omega
theorem WfSs_mem {V : Nat → B → Nat → Prop} : ∀ {b : List St} {s : St}, WfSs V b → s ∈ b → WfS V s
  | a :: r, s, hw, h => by
    simp only [WfSs] at hw
    simp only [List.mem_cons] at h
    rcases h with rfl | h
    · exact hw.1
    · exact WfSs_mem hw.2 h
theorem blk_back {b : List St} (hb : ∀ s ∈ b, StBk s) {k : Nat} {rest : List Tok} (hd : 1 + stsD b ≤ k) (hg : Good rest) : block k (blk (stsT b) ++ rest) = .inl (ersS b, rest) := by
  obtain ⟨k, rfl⟩ : ∃ k', k = k' + 1 := ⟨k - 1, by omega⟩
  have e : blk (stsT b) ++ rest = mk4 [123] :: (stsT b ++ mk4 [125] :: rest) := by simp [blk]
  rw [e, block, need_mk4]
  simp only [bind]
  have := sts_back (k := k) b [] ((stsT b ++ mk4 [125] :: rest).length + 1) rest (fun s hs => ⟨hb s hs, by have := stsD_mem hs; omega⟩) hg (by simp)
  rw [this, ersS_map]
  simp
theorem stsize_mem : ∀ {l : List St} {x : St}, x ∈ l → sizeOf x < sizeOf l
  | a :: r, x, h => by
    simp only [List.mem_cons] at h
    simp only [List.cons.sizeOf_spec]
    rcases h with rfl | h
    · omega
    · have := stsize_mem h; omega
theorem fol_semi {rest : List Tok} (hg : Good rest) : Fol 1 (mk4 [59] :: rest) := fol_mark hg (by decide) (by decide) (by decide)
theorem fol_shut {rest : List Tok} (hg : Good rest) : Fol 1 (mk4 [93] :: rest) := fol_mark hg (by decide) (by decide) (by decide)
theorem good_m {x : B} {l : List Tok} (hg : Good l) : Good (mk4 x :: l) := good_app (a := [mk4 x]) (by simp [mk4]) hg
theorem fol_blk {l rest : List Tok} (hl : ∀ t ∈ l, t.kind ≠ 5) (hg : Good rest) : Fol 1 (blk l ++ rest) := by
  have e : blk l ++ rest = mk4 [123] :: (l ++ mk4 [125] :: rest) := by simp [blk]
  rw [e]
  exact fol_mark (good_app hl (good_m hg)) (by decide) (by decide) (by decide)
theorem st_back (V : Nat → B → Nat → Prop) : ∀ (N : Nat) (s : St), sizeOf s ≤ N → WfS V s → StBk s
  | 0, .mk k n es b c p, hN, _ => by simp at hN
  | N + 1, .mk kk n es b c p, hN, hw => by
    rw [WfS] at hw
    obtain ⟨hf, he, hb, hc⟩ := hw
    simp only [St.mk.sizeOf_spec] at hN
    have hB : ∀ s ∈ b, StBk s := fun s hs => st_back V N s (by have := stsize_mem hs; omega) (WfSs_mem hb hs)
    have hC : ∀ s ∈ c, StBk s := fun s hs => st_back V N s (by have := stsize_mem hs; omega) (WfSs_mem hc hs)
    intro k rest hd hg hel
    rw [st_words]
    rw [stD] at hd
    have hde : maxL (es.map exD) ≤ k := Nat.le_trans (Nat.le_max_left _ _) hd
    have hdr := Nat.le_trans (Nat.le_max_right _ _) hd
    rcases hf with h | h | h | h | h | h
    · obtain ⟨rfl, hn, hlen, rfl, rfl⟩ := h
      match es, hlen, he, hde with
      | [x], _, he, hde =>
        have hx := he x (by simp)
        simp [maxL] at hde
        have e1 : stK 1 n ([x].map exT) (stsT []) (stsT []) ([] : List St).isEmpty ++ rest = wd [108, 101, 116] :: wd n :: mk4 [61] :: (exT x ++ mk4 [59] :: rest) := by simp [stK]
        rw [e1, stmt, if_pos (by simp [sees, wd])]
        simp only [List.tail_cons]
        rw [name_wd hn]
        simp only [bind, need_mk4]
        rw [expr_back hx hde (fol_semi hg)]
        simp [need_mk4, St.er, ersE, ersS, place, wd]
    · obtain ⟨rfl, hn, hlen, rfl, rfl⟩ := h
      match es, hlen, he, hde with
      | [x], _, he, hde =>
        have hx := he x (by simp)
        simp [maxL] at hde
        have e1 : stK 2 n ([x].map exT) (stsT []) (stsT []) ([] : List St).isEmpty ++ rest = wd [115, 101, 116] :: wd n :: mk4 [61] :: (exT x ++ mk4 [59] :: rest) := by simp [stK]
        rw [e1, stmt, if_neg (by simp [sees, wd]), if_pos (by simp [sees, wd])]
        simp only [List.tail_cons]
        rw [name_wd hn]
        simp only [bind]
        rw [opt, if_neg (by simp [sees, mk4])]
        simp only [need_mk4]
        rw [expr_back hx hde (fol_semi hg)]
        simp [need_mk4, St.er, ersE, ersS, place, wd]
      | [y, x], _, he, hde =>
        have hy := he y (by simp)
        have hx := he x (by simp)
        simp only [List.map_cons, List.map_nil, maxL] at hde
        have e1 : stK 2 n ([y, x].map exT) (stsT []) (stsT []) ([] : List St).isEmpty ++ rest = wd [115, 101, 116] :: wd n :: mk4 [91] :: (exT y ++ mk4 [93] :: mk4 [61] :: (exT x ++ mk4 [59] :: rest)) := by simp [stK]
        rw [e1, stmt, if_neg (by simp [sees, wd]), if_pos (by simp [sees, wd])]
        simp only [List.tail_cons]
        rw [name_wd hn]
        simp only [bind]
        rw [opt, if_pos (by simp [sees, mk4])]
        simp only [List.tail_cons]
        rw [expr_back hy (by omega) (fol_shut (good_m (good_app (exT_no5 x) (good_m hg))))]
        simp only [bind, need_mk4]
        rw [expr_back hx (by omega) (fol_semi hg)]
        simp [need_mk4, St.er, ersE, ersS, place, wd]
    · obtain ⟨rfl, hn, hlen, rfl, rfl⟩ := h
      match es, hlen, he, hde with
      | [x], _, he, hde =>
        have hx := he x (by simp)
        simp [maxL] at hde
        have e1 : stK 3 n ([x].map exT) (stsT []) (stsT []) ([] : List St).isEmpty ++ rest = wd [100, 101, 108] :: wd n :: mk4 [91] :: (exT x ++ mk4 [93] :: mk4 [59] :: rest) := by simp [stK]
        rw [e1, stmt, if_neg (by simp [sees, wd]), if_neg (by simp [sees, wd]), if_pos (by simp [sees, wd])]
        simp only [List.tail_cons]
        rw [name_wd hn]
        simp only [bind, need_mk4]
        rw [expr_back hx hde (fol_shut (good_m hg))]
        simp [need_mk4, St.er, ersE, ersS, place, wd]
    · obtain ⟨rfl, rfl, hlen⟩ := h
      match es, hlen, he, hde with
      | [x], _, he, hde =>
        have hx := he x (by simp)
        simp [maxL] at hde
        simp only [true_or, if_true, true_and] at hdr
        rcases c with _ | ⟨c1, c2⟩
        · simp at hdr
          have e1 : stK 4 [] ([x].map exT) (stsT b) (stsT []) ([] : List St).isEmpty ++ rest = wd [105, 102] :: (exT x ++ (blk (stsT b) ++ rest)) := by simp [stK]
          rw [e1, stmt, if_neg (by simp [sees, wd]), if_neg (by simp [sees, wd]), if_neg (by simp [sees, wd]), if_pos (by simp [sees, wd])]
          simp only [List.tail_cons]
          rw [expr_back hx hde (fol_blk (stsT_no5 b) hg)]
          simp only [bind]
          rw [blk_back hB hdr hg]
          simp only [bind, other]
          rw [if_neg (by rw [hel]; simp)]
          simp [St.er, ersE, ersS, place, wd]
        · simp at hdr
          have e1 : stK 4 [] ([x].map exT) (stsT b) (stsT (c1 :: c2)) (c1 :: c2).isEmpty ++ rest = wd [105, 102] :: (exT x ++ (blk (stsT b) ++ (wd [101, 108, 115, 101] :: (blk (stsT (c1 :: c2)) ++ rest)))) := by simp [stK]
          have hg2 : Good (wd [101, 108, 115, 101] :: (blk (stsT (c1 :: c2)) ++ rest)) := good_app (a := [wd [101, 108, 115, 101]]) (by simp [wd]) (good_app (blk_no5 (stsT_no5 _)) hg)
          rw [e1, stmt, if_neg (by simp [sees, wd]), if_neg (by simp [sees, wd]), if_neg (by simp [sees, wd]), if_pos (by simp [sees, wd])]
          simp only [List.tail_cons]
          rw [expr_back hx hde (fol_blk (stsT_no5 b) hg2)]
          simp only [bind]
          rw [blk_back hB (by omega) hg2]
          simp only [bind, other]
          rw [if_pos (by simp [sees, wd])]
          simp only [List.tail_cons]
          rw [blk_back hC (by omega) hg]
          simp [St.er, ersE, ersS, place, wd]
    · obtain ⟨rfl, hn, hlen, rfl⟩ := h
      match es, hlen, he, hde with
      | [x], _, he, hde =>
        have hx := he x (by simp)
        simp [maxL] at hde
        simp at hdr
        have e1 : stK 5 n ([x].map exT) (stsT b) (stsT []) ([] : List St).isEmpty ++ rest = wd [102, 111, 114] :: wd n :: wd [116, 111] :: (exT x ++ (blk (stsT b) ++ rest)) := by simp [stK]
        rw [e1, stmt, if_neg (by simp [sees, wd]), if_neg (by simp [sees, wd]), if_neg (by simp [sees, wd]), if_neg (by simp [sees, wd]), if_pos (by simp [sees, wd])]
        simp only [List.tail_cons]
        rw [name_wd hn]
        simp only [bind]
        rw [needK, if_pos (by simp [sees, wd])]
        simp only [List.tail_cons]
        rw [expr_back hx hde (fol_blk (stsT_no5 b) hg)]
        simp only [bind]
        rw [blk_back hB hdr hg]
        simp [St.er, ersE, ersS, place, wd]
    · obtain ⟨rfl, rfl, hlen, rfl, rfl⟩ := h
      match es, hlen, he, hde with
      | [x], _, he, hde =>
        have hx := he x (by simp)
        simp [maxL] at hde
        have e1 : stK 6 [] ([x].map exT) (stsT []) (stsT []) ([] : List St).isEmpty ++ rest = wd [114, 101, 116] :: (exT x ++ mk4 [59] :: rest) := by simp [stK]
        rw [e1, stmt, if_neg (by simp [sees, wd]), if_neg (by simp [sees, wd]), if_neg (by simp [sees, wd]), if_neg (by simp [sees, wd]), if_neg (by simp [sees, wd]), if_pos (by simp [sees, wd])]
        simp only [List.tail_cons]
        rw [expr_back hx hde (fol_semi hg)]
        simp [bind, need_mk4, St.er, ersE, ersS, place, wd]
theorem block_back {V : Nat → B → Nat → Prop} {b : List St} (hw : WfSs V b) {k : Nat} {rest : List Tok} (hd : 1 + stsD b ≤ k) (hg : Good rest) : block k (blk (stsT b) ++ rest) = .inl (ersS b, rest) :=
  blk_back (fun s hs => st_back V _ s (Nat.le_refl _) (WfSs_mem hw hs)) hd hg
end Go.Proofs.YtifebbdjdllfpaaGreatDoor.Px
/- The tokens that are written of functions and programs; what is read was no shorter, and they are read as it. Plain mathematics. -/
namespace Go.Proofs.YtifebbdjdllfpaaGreatDoor.Px
open Go.Proofs.YtifebbdjdllfpaaGreatDoor.Lx (Tok B)
set_option linter.unusedVariables false
set_option linter.unusedSimpArgs false

theorem slots_back {V : Nat → B → Nat → Prop} : ∀ (xs acc : List Sl) (f : Nat) (rest : List Tok), (∀ x ∈ xs, WfSl V x) → (if acc = [] then (commas (xs.map slT)).length else (xs.flatMap fun x => mk4 [44] :: slT x).length) + rest.length + 1 < f →
    items slot f acc.length acc ((if acc = [] then commas (xs.map slT) else xs.flatMap fun x => mk4 [44] :: slT x) ++ mk4 [41] :: rest) = .inl (acc ++ xs.map Sl.er, rest)
  | [], acc, f, rest, _, hf => by
    obtain ⟨f, rfl⟩ : ∃ f', f = f' + 1 := ⟨f - 1, by omega⟩
    have e : (if acc = [] then commas (([] : List Sl).map slT) else ([] : List Sl).flatMap fun x => mk4 [44] :: slT x) = [] := by split <;> rfl
    rw [e]
    simp [items, sees, mk4]
  | x :: xs, acc, f, rest, h, hf => by
    obtain ⟨f, rfl⟩ : ∃ f', f = f' + 1 := ⟨f - 1, by omega⟩
    have hx := h x (by simp)
    have hcom : ∀ (y : Sl) (ys : List Sl), commas ((y :: ys).map slT) = slT y ++ ys.flatMap fun x => mk4 [44] :: slT x := by
      intro y ys
      induction ys generalizing y with
      | nil => simp [commas]
      | cons z zs ih =>
        have := ih z
        simp only [List.map_cons] at this ⊢
        rw [commas, this]
        simp
    have hrd := slot_back hx ((xs.flatMap fun x => mk4 [44] :: slT x) ++ mk4 [41] :: rest)
    have hrec := fun (f : Nat) (hf : (xs.flatMap fun x => mk4 [44] :: slT x).length + rest.length + 1 < f) => slots_back (V := V) xs (acc ++ [x.er]) f rest (fun y hy => h y (by simp [hy])) (by rw [if_neg (by simp)]; exact hf)
    have hne : (acc ++ [x.er] = []) = False := by simp
    simp only [hne, if_false, List.length_append, List.length_cons, List.length_nil] at hrec
    have hres : acc ++ [x.er] ++ xs.map Sl.er = acc ++ (x :: xs).map Sl.er := by simp
    have hpos : 1 ≤ (slT x).length := by simp [slT]
    by_cases ha : acc = []
    · subst ha
      simp only [if_true] at hf ⊢
      rw [hcom, List.append_assoc]
      rw [hcom] at hf
      have hns : sees 4 [41] (slT x ++ ((xs.flatMap fun x => mk4 [44] :: slT x) ++ mk4 [41] :: rest)) = false := by simp [slT, sees, wd]
      simp only [items, List.length_nil, sep, if_true]
      rw [if_neg (by rw [hns]; simp)]
      simp only [bind]
      rw [hrd]
      simp only
      have := hrec f (by simp only [List.length_append] at hf; omega)
      rw [hres] at this
      simpa using this
    · rw [if_neg ha] at hf ⊢
      simp only [List.flatMap_cons, List.cons_append, List.append_assoc]
      have hlen : acc.length ≠ 0 := fun e => ha (List.length_eq_zero_iff.1 e)
      have hns : sees 4 [41] (mk4 [44] :: (slT x ++ ((xs.flatMap fun x => mk4 [44] :: slT x) ++ mk4 [41] :: rest))) = false := by simp [sees, mk4]
      simp only [items, sep]
      rw [if_neg (by rw [hns]; simp), if_neg hlen, need_mk4]
      simp only [bind]
      rw [hrd]
      simp only
      have := hrec f (by simp only [List.flatMap_cons, List.length_append, List.length_cons] at hf; omega)
      rw [hres] at this
      exact this
theorem slots_sm {V : Nat → B → Nat → Prop} : ∀ (f n : Nat) (acc : List Sl) (l : List Tok) (xs : List Sl) (l' : List Tok), AllV V l → (∀ x ∈ acc, WfSl V x) → n = acc.length → items slot f n acc l = .inl (xs, l') →
    (∀ x ∈ xs, WfSl V x) ∧ (commas (xs.map slT)).length + l'.length + 1 ≤ (commas (acc.map slT)).length + l.length ∧ l' <:+ l
  | 0, _, _, _, _, _, _, _, _, h => by simp [items] at h
  | f + 1, n, acc, l, xs, l', hV, hw, hn, h => by
    simp only [items] at h
    split at h
    · rename_i hs
      obtain ⟨t, r, rfl, _, _⟩ := sees_head hs
      simp at h
      obtain ⟨rfl, rfl⟩ := h
      exact ⟨hw, by simp; omega, List.suffix_cons _ _⟩
    · obtain ⟨u, l1, hu, h1⟩ := bind_some h
      obtain ⟨y, l2, hy, h2⟩ := bind_some h1
      have hs1 : l1 <:+ l := by
        rcases sep_some hu with ⟨_, rfl⟩ | ⟨_, t, rfl⟩
        · exact List.suffix_refl _
        · exact List.suffix_cons _ _
      obtain ⟨w1, w3, w4⟩ := slot_sm (hV.suf hs1) hy
      have hrec := slots_sm f (n + 1) (acc ++ [y]) l2 xs l' (hV.suf (w4.trans hs1)) (fun x hx => by simp at hx; rcases hx with hx | rfl; exact hw x hx; exact w1) (by simp [hn]) h2
      refine ⟨hrec.1, ?_, hrec.2.2.trans (w4.trans hs1)⟩
      have h3 := hrec.2.1
      rw [List.map_append, List.map_cons, List.map_nil, commas_snoc] at h3
      rcases sep_some hu with ⟨h0, rfl⟩ | ⟨h0, t, rfl⟩
      · have : acc = [] := List.length_eq_zero_iff.1 (by omega)
        subst this
        simp only [List.map_nil, if_true] at h3 ⊢
        omega
      · have : ¬ acc.map slT = [] := by
          intro e; rw [List.map_eq_nil_iff] at e; subst e; simp at hn; omega
        rw [if_neg this] at h3
        simp only [List.length_cons] at h3 w3 ⊢
        omega
/-- The tokens that are written of a function, behind its first word. -/
noncomputable def fnT (f : Fn) : List Tok := wd f.name :: mk4 [40] :: (commas (f.params.map slT) ++ mk4 [41] :: mk4 [58] :: (tyT f.result ++ blk (stsT f.body)))
def WfF (V : Nat → B → Nat → Prop) (f : Fn) : Prop := NmOk V f.name ∧ (∀ s ∈ f.params, WfSl V s) ∧ (∃ c, Ty 4 f.result c) ∧ WfSs V f.body ∧ 1 + stsD f.body ≤ 24
theorem commas_sl_no5 {V : Nat → B → Nat → Prop} {ps : List Sl} (h : ∀ s ∈ ps, WfSl V s) : ∀ t ∈ commas (ps.map slT), t.kind ≠ 5 := commas_no5 (fun l hl => by simp at hl; obtain ⟨s, hs, rfl⟩ := hl; exact slT_no5 (h s hs))
theorem fn_back {V : Nat → B → Nat → Prop} {f : Fn} (h : WfF V f) {rest : List Tok} (hg : Good rest) : function f.on (fnT f ++ rest) = .inl (f.er, rest) := by
  obtain ⟨hn, hp, ⟨c, hc⟩, hb, hd⟩ := h
  have e : fnT f ++ rest = wd f.name :: mk4 [40] :: (commas (f.params.map slT) ++ mk4 [41] :: mk4 [58] :: (tyT f.result ++ (blk (stsT f.body) ++ rest))) := by simp [fnT]
  have hp2 := slots_back (V := V) f.params [] ((commas (f.params.map slT) ++ mk4 [41] :: mk4 [58] :: (tyT f.result ++ (blk (stsT f.body) ++ rest))).length + 1) (mk4 [58] :: (tyT f.result ++ (blk (stsT f.body) ++ rest))) hp (by simp)
  simp only [if_true, List.length_nil, List.nil_append] at hp2
  rw [e, function, name_wd hn]
  simp only [bind, need_mk4]
  rw [hp2]
  simp only [need_mk4]
  rw [(tyT_spec hc).back]
  simp only
  rw [block_back hb hd hg]
  simp [Fn.er, wd]
theorem function_sm {V : Nat → B → Nat → Prop} {on : Bool} {l l' : List Tok} {f : Fn} (hV : AllV V l) (h : function on l = .inl (f, l')) : WfF V f ∧ f.on = on ∧ (fnT f).length + l'.length ≤ l.length ∧ l' <:+ l := by
  obtain ⟨t, l1, h1, h2⟩ := bind_some h
  obtain ⟨u, l2, h3, h4⟩ := bind_some h2
  obtain ⟨ps, l3, h5, h6⟩ := bind_some h4
  obtain ⟨u2, l4, h7, h8⟩ := bind_some h6
  obtain ⟨y, l5, h9, h10⟩ := bind_some h8
  obtain ⟨b, l6, h11, h12⟩ := bind_some h10
  clear h h2 h4 h6 h8 h10
  obtain ⟨rfl, hk, hr⟩ := name_some h1
  clear h1
  obtain ⟨t2, rfl⟩ := need_some h3
  clear h3
  obtain ⟨t3, rfl⟩ := need_some h7
  simp at h12
  obtain ⟨rfl, rfl⟩ := h12
  have hV2 : AllV V l2 := hV.suf ((List.suffix_cons _ _).trans (List.suffix_cons _ _))
  obtain ⟨w1, w2, w3⟩ := slots_sm (V := V) _ 0 [] l2 ps (t3 :: l4) hV2 (by simp) rfl h5
  obtain ⟨c, hc, hl, hs⟩ := typ_sm 4 l4 y l5 h9
  have hV5 : AllV V l5 := hV2.suf ((hs.trans (List.suffix_cons _ _)).trans w3)
  obtain ⟨v1, v2, v3, v4⟩ := block_sm V 24 l5 b _ hV5 h11
  refine ⟨⟨⟨hr, (hV t (by simp)).1 hk⟩, w1, ⟨c, hc⟩, v1, v2⟩, rfl, ?_, (((v4.trans hs).trans (List.suffix_cons _ _)).trans w3).trans ((List.suffix_cons _ _).trans (List.suffix_cons _ _))⟩
  simp only [fnT, tyT_eq hc]
  simp [commas] at w2 ⊢
  omega
/-- The tokens of states, and of functions. -/
noncomputable def ssT : List Sl → List Tok
  | [] => []
  | s :: r => wd [115, 116, 97, 116, 101] :: (slT s ++ mk4 [59] :: ssT r)
noncomputable def fsT : List Fn → List Tok
  | [] => []
  | f :: r => wd (if f.on then [111, 110] else [102, 110]) :: (fnT f ++ fsT r)
def endT : Tok := ⟨5, [], 0, 0⟩
/-- The tokens that are written of a program. -/
noncomputable def prT (p : Pr) : List Tok := wd [118, 101, 114, 115, 105, 111, 110] :: ⟨2, dg p.version, p.version, 0⟩ :: mk4 [59] :: (ssT p.states ++ (fsT p.fns ++ [endT]))
def WfP (V : Nat → B → Nat → Prop) (p : Pr) : Prop := (∃ x, V 2 x p.version) ∧ (∀ s ∈ p.states, WfSl V s) ∧ (∀ f ∈ p.fns, WfF V f)
theorem ssT_len : ∀ (a : List Sl) (s : Sl), (ssT (a ++ [s])).length = (ssT a).length + (slT s).length + 2
  | [], s => by simp [ssT]
  | x :: r, s => by
    have := ssT_len r s
    simp only [List.cons_append, ssT, List.length_cons, List.length_append, this]
    omega
theorem fsT_len : ∀ (a : List Fn) (f : Fn), (fsT (a ++ [f])).length = (fsT a).length + (fnT f).length + 1
  | [], f => by simp [fsT]
  | x :: r, f => by
    have := fsT_len r f
    simp only [List.cons_append, fsT, List.length_cons, List.length_append, this]
    omega
theorem parts_sm {V : Nat → B → Nat → Prop} : ∀ (f : Nat) (p : Pr) (l : List Tok) (p' : Pr) (l' : List Tok), AllV V l → (∀ s ∈ p.states, WfSl V s) → (∀ f ∈ p.fns, WfF V f) → parts f p l = .inl (p', l') →
    p'.version = p.version ∧ (∀ s ∈ p'.states, WfSl V s) ∧ (∀ f ∈ p'.fns, WfF V f) ∧ (ssT p'.states).length + (fsT p'.fns).length + l'.length ≤ (ssT p.states).length + (fsT p.fns).length + l.length ∧ 1 ≤ l'.length
  | 0, _, _, _, _, _, _, _, h => by simp [parts] at h
  | f + 1, p, [], _, _, _, _, _, h => by simp [parts] at h
  | f + 1, p, t :: r, p', l', hV, h1, h2, h => by
    simp only [parts] at h
    split at h
    · simp at h
      obtain ⟨rfl, rfl⟩ := h
      exact ⟨rfl, h1, h2, Nat.le_refl _, by simp⟩
    split at h
    · obtain ⟨s, l1, g1, g2⟩ := bind_some h
      obtain ⟨u, l2, g3, g4⟩ := bind_some g2
      clear h g2
      obtain ⟨t2, rfl⟩ := need_some g3
      obtain ⟨w1, w2, w3⟩ := slot_sm (hV.suf (List.suffix_cons _ _)) g1
      have hrec := parts_sm (V := V) f { p with states := p.states ++ [s] } l2 p' l' (hV.suf (((List.suffix_cons _ _).trans w3).trans (List.suffix_cons _ _))) (by intro x hx; simp at hx; rcases hx with hx | rfl; exact h1 x hx; exact w1) h2 g4
      refine ⟨hrec.1, hrec.2.1, hrec.2.2.1, ?_, hrec.2.2.2.2⟩
      have h3 := hrec.2.2.2.1
      simp only [ssT_len, List.length_cons] at h3 w2 ⊢
      omega
    split at h
    · obtain ⟨g, l1, g1, g2⟩ := bind_some h
      obtain ⟨w1, _, w2, w3⟩ := function_sm (hV.suf (List.suffix_cons _ _)) g1
      have hrec := parts_sm (V := V) f { p with fns := p.fns ++ [g] } l1 p' l' (hV.suf (w3.trans (List.suffix_cons _ _))) h1 (by intro x hx; simp at hx; rcases hx with hx | rfl; exact h2 x hx; exact w1) g2
      refine ⟨hrec.1, hrec.2.1, hrec.2.2.1, ?_, hrec.2.2.2.2⟩
      have h3 := hrec.2.2.2.1
      simp only [fsT_len, List.length_cons] at h3 w2 ⊢
      omega
    split at h
    · obtain ⟨g, l1, g1, g2⟩ := bind_some h
      obtain ⟨w1, _, w2, w3⟩ := function_sm (hV.suf (List.suffix_cons _ _)) g1
      have hrec := parts_sm (V := V) f { p with fns := p.fns ++ [g] } l1 p' l' (hV.suf (w3.trans (List.suffix_cons _ _))) h1 (by intro x hx; simp at hx; rcases hx with hx | rfl; exact h2 x hx; exact w1) g2
      refine ⟨hrec.1, hrec.2.1, hrec.2.2.1, ?_, hrec.2.2.2.2⟩
      have h3 := hrec.2.2.2.1
      simp only [fsT_len, List.length_cons] at h3 w2 ⊢
      omega
    · simp [fail] at h
/-- What is read as a program is written with no more tokens. -/
theorem program_sm {V : Nat → B → Nat → Prop} {l l' : List Tok} {p : Pr} (hV : AllV V l) (h : program l = .inl (p, l')) : WfP V p ∧ (prT p).length ≤ l.length := by
  obtain ⟨u, l1, h1, h2⟩ := bind_some h
  obtain ⟨v, l2, h3, h4⟩ := bind_some h2
  obtain ⟨u2, l3, h5, h6⟩ := bind_some h4
  clear h h2 h4
  obtain ⟨t, rfl, _, _⟩ := needK_some h1
  clear h1
  obtain ⟨t2, rfl, hk, rfl⟩ : ∃ t2, l1 = t2 :: l2 ∧ t2.kind = 2 ∧ t2.num = v := by
    unfold number at h3
    split at h3
    · rename_i a r
      split at h3
      · rename_i hk
        simp at h3
        exact ⟨a, by rw [h3.2], hk, h3.1⟩
      · simp [fail] at h3
    · simp [fail] at h3
  clear h3
  obtain ⟨t3, rfl⟩ := need_some h5
  have hr := parts_sm (V := V) _ _ l3 p l' (hV.suf (((List.suffix_cons _ _).trans (List.suffix_cons _ _)).trans (List.suffix_cons _ _))) (by simp) (by simp) h6
  obtain ⟨r1, r2, r3, r4, r5⟩ := hr
  simp at r1
  refine ⟨⟨⟨t2.text, by rw [r1]; exact (hV t2 (by simp)).2.1 hk⟩, r2, r3⟩, ?_⟩
  simp only [prT, List.length_cons, List.length_append, List.length_nil]
  simp [ssT, fsT] at r4
  omega
theorem ssT_no5 {V : Nat → B → Nat → Prop} : ∀ {l : List Sl}, (∀ s ∈ l, WfSl V s) → ∀ t ∈ ssT l, t.kind ≠ 5
  | [], _, t, ht => by simp [ssT] at ht
  | s :: r, h, t, ht => by
    simp only [ssT, List.mem_cons, List.mem_append] at ht
    rcases ht with rfl | ht | rfl | ht
    · simp [wd]
    · exact slT_no5 (h s (by simp)) t ht
    · simp [mk4]
    · exact ssT_no5 (fun x hx => h x (by simp [hx])) t ht
theorem fnT_no5 {V : Nat → B → Nat → Prop} {f : Fn} (h : WfF V f) : ∀ t ∈ fnT f, t.kind ≠ 5 := by
  obtain ⟨hn, hp, ⟨c, hc⟩, hb, hd⟩ := h
  intro t ht
  simp only [fnT, List.mem_cons, List.mem_append] at ht
  rcases ht with rfl | rfl | ht | rfl | rfl | ht | ht
  · simp [wd]
  · simp [mk4]
  · exact commas_sl_no5 hp t ht
  · simp [mk4]
  · simp [mk4]
  · exact (tyT_spec hc).no5 t ht
  · exact blk_no5 (stsT_no5 _) t ht
theorem fsT_no5 {V : Nat → B → Nat → Prop} : ∀ {l : List Fn}, (∀ f ∈ l, WfF V f) → ∀ t ∈ fsT l, t.kind ≠ 5
  | [], _, t, ht => by simp [fsT] at ht
  | s :: r, h, t, ht => by
    simp only [fsT, List.mem_cons, List.mem_append] at ht
    rcases ht with rfl | ht | ht
    · simp [wd]
    · exact fnT_no5 (h s (by simp)) t ht
    · exact fsT_no5 (fun x hx => h x (by simp [hx])) t ht
theorem good_end : Good [endT] := rfl
theorem fns_back {V : Nat → B → Nat → Prop} : ∀ (fs : List Fn) (p : Pr) (f : Nat), (∀ g ∈ fs, WfF V g) → (fsT fs).length + 1 < f → parts f p (fsT fs ++ [endT]) = .inl ({ p with fns := p.fns ++ fs.map Fn.er }, [endT])
  | [], p, f, _, hf => by
    obtain ⟨f, rfl⟩ : ∃ f', f = f' + 1 := ⟨f - 1, by omega⟩
    simp [fsT, parts, endT]
  | g :: fs, p, f, h, hf => by
    obtain ⟨f, rfl⟩ : ∃ f', f = f' + 1 := ⟨f - 1, by omega⟩
    have hg := h g (by simp)
    have hgd : Good (fsT fs ++ [endT]) := good_app (fsT_no5 (fun x hx => h x (by simp [hx]))) good_end
    have hb := fn_back hg hgd
    have hrec := fns_back (V := V) fs { p with fns := p.fns ++ [g.er] } f (fun x hx => h x (by simp [hx])) (by simp only [fsT, List.length_cons, List.length_append] at hf; omega)
    have e : fsT (g :: fs) ++ [endT] = wd (if g.on then [111, 110] else [102, 110]) :: (fnT g ++ (fsT fs ++ [endT])) := by simp [fsT]
    rw [e, parts, if_neg (by simp [wd])]
    rcases hon : g.on with _ | _
    · rw [hon] at hb
      rw [if_neg (by simp [sees, wd]), if_pos (by simp [sees, wd]), hb]
      simp only [bind]
      rw [hrec]
      simp
    · rw [hon] at hb
      rw [if_neg (by simp [sees, wd]), if_neg (by simp [sees, wd]), if_pos (by simp [sees, wd]), hb]
      simp only [bind]
      rw [hrec]
      simp
theorem parts_back {V : Nat → B → Nat → Prop} : ∀ (ss : List Sl) (fs : List Fn) (p : Pr) (f : Nat), (∀ s ∈ ss, WfSl V s) → (∀ g ∈ fs, WfF V g) → (ssT ss).length + (fsT fs).length + 1 < f → parts f p (ssT ss ++ (fsT fs ++ [endT])) = .inl ({ p with states := p.states ++ ss.map Sl.er, fns := p.fns ++ fs.map Fn.er }, [endT])
  | [], fs, p, f, _, h, hf => by
    simp only [ssT, List.nil_append]
    rw [fns_back (V := V) fs p f h (by simp only [ssT, List.length_nil] at hf; omega)]
    simp
  | s :: ss, fs, p, f, hs, h, hf => by
    obtain ⟨f, rfl⟩ : ∃ f', f = f' + 1 := ⟨f - 1, by omega⟩
    have hb := slot_back (hs s (by simp)) (mk4 [59] :: (ssT ss ++ (fsT fs ++ [endT])))
    have hrec := parts_back (V := V) ss fs { p with states := p.states ++ [s.er] } f (fun x hx => hs x (by simp [hx])) h (by simp only [ssT, List.length_cons, List.length_append] at hf; omega)
    have e : ssT (s :: ss) ++ (fsT fs ++ [endT]) = wd [115, 116, 97, 116, 101] :: (slT s ++ mk4 [59] :: (ssT ss ++ (fsT fs ++ [endT]))) := by simp [ssT]
    rw [e, parts, if_neg (by simp [wd]), if_pos (by simp [sees, wd]), hb]
    simp only [bind, need_mk4]
    rw [hrec]
    simp
/-- What is written of a program is read as it. -/
theorem program_back {V : Nat → B → Nat → Prop} {p : Pr} (h : WfP V p) : program (prT p) = .inl (p.er, [endT]) := by
  obtain ⟨hv, hs, hf⟩ := h
  have hp := parts_back (V := V) p.states p.fns ⟨p.version, [], []⟩ ((ssT p.states ++ (fsT p.fns ++ [endT])).length + 1) hs hf (by simp)
  unfold prT
  rw [program, needK, if_pos (by simp [sees, wd])]
  simp only [List.tail_cons, bind]
  rw [number, if_pos rfl]
  simp only [need_mk4]
  rw [hp]
  simp [Pr.er]
theorem prT_good {V : Nat → B → Nat → Prop} {p : Pr} (h : WfP V p) : Good (prT p) := by
  obtain ⟨hv, hs, hf⟩ := h
  have h1 : Good (ssT p.states ++ (fsT p.fns ++ [endT])) := good_app (ssT_no5 hs) (good_app (fsT_no5 hf) good_end)
  unfold prT
  exact good_app (a := [wd [118, 101, 114, 115, 105, 111, 110], ⟨2, dg p.version, p.version, 0⟩, mk4 [59]]) (by intro t ht; simp at ht; rcases ht with rfl | rfl | rfl <;> simp [wd, mk4]) h1
end Go.Proofs.YtifebbdjdllfpaaGreatDoor.Px
/- Types' texts: none is the beginning of another; how deep one is. Plain mathematics. -/
namespace Go.Proofs.YtifebbdjdllfpaaGreatDoor.Px
open Go.Proofs.YtifebbdjdllfpaaGreatDoor.Lx (Tok B)
set_option linter.unusedVariables false
set_option linter.unusedSimpArgs false

/-- No type's text begins with another one's. -/
theorem Ty.prefix {k : Nat} {y : B} {c : List Tok} (h : Ty k y c) : ∀ {k' : Nat} {y' : B} {c' : List Tok} {j j' : B}, Ty k' y' c' → y ++ j = y' ++ j' → y = y' ∧ j = j' := by
  induction h with
  | int =>
    intro k' y' c' j j' h2 e
    cases h2 with
    | int => simp at e; exact ⟨rfl, e⟩
    | bool => simp at e
    | text => simp at e
    | list => simp at e
    | map => simp at e
  | bool =>
    intro k' y' c' j j' h2 e
    cases h2 with
    | int => simp at e
    | bool => simp at e; exact ⟨rfl, e⟩
    | text => simp at e
    | list => simp at e
    | map => simp at e
  | text =>
    intro k' y' c' j j' h2 e
    cases h2 with
    | int => simp at e
    | bool => simp at e
    | text => simp at e; exact ⟨rfl, e⟩
    | list => simp at e
    | map => simp at e
  | @list k y c _ ih =>
    intro k' y' c' j j' h2 e
    cases h2 with
    | int => simp at e
    | bool => simp at e
    | text => simp at e
    | @list k2 y2 c2 h3 =>
      have e2 : y ++ (93 :: j) = y2 ++ (93 :: j') := by simpa using e
      obtain ⟨rfl, e3⟩ := ih h3 e2
      simp at e3
      exact ⟨rfl, e3⟩
    | map => simp at e
  | @map k a y c ha _ ih =>
    intro k' y' c' j j' h2 e
    cases h2 with
    | int => simp at e
    | bool => simp at e
    | text => simp at e
    | list => simp at e
    | @map k2 a2 y2 c2 hb h3 =>
      rcases ha with rfl | rfl <;> rcases hb with rfl | rfl
      · have e2 : y ++ (125 :: j) = y2 ++ (125 :: j') := by simpa using e
        obtain ⟨rfl, e3⟩ := ih h3 e2
        simp at e3
        exact ⟨rfl, e3⟩
      · simp at e
      · simp at e
      · have e2 : y ++ (125 :: j) = y2 ++ (125 :: j') := by simpa using e
        obtain ⟨rfl, e3⟩ := ih h3 e2
        simp at e3
        exact ⟨rfl, e3⟩
/-- A text is a type's, of up to k depths. -/
def IsTy (k : Nat) (y : B) : Prop := ∃ c, Ty k y c
theorem Ty.mono {k : Nat} {y : B} {c : List Tok} (h : Ty k y c) : ∀ {m : Nat}, k ≤ m → Ty m y c := by
  induction h with
  | int => intro m hm; obtain ⟨m, rfl⟩ : ∃ m', m = m' + 1 := ⟨m - 1, by omega⟩; exact .int
  | bool => intro m hm; obtain ⟨m, rfl⟩ : ∃ m', m = m' + 1 := ⟨m - 1, by omega⟩; exact .bool
  | text => intro m hm; obtain ⟨m, rfl⟩ : ∃ m', m = m' + 1 := ⟨m - 1, by omega⟩; exact .text
  | list _ ih => intro m hm; obtain ⟨m, rfl⟩ : ∃ m', m = m' + 1 := ⟨m - 1, by omega⟩; exact .list (ih (by omega))
  | map ha _ ih => intro m hm; obtain ⟨m, rfl⟩ : ∃ m', m = m' + 1 := ⟨m - 1, by omega⟩; exact .map ha (ih (by omega))
def isOpen (t : Tok) : Bool := t.kind == 4 && (t.text == [91] || t.text == [123])
/-- As many brackets are opened as it is deep, but one. -/
theorem Ty.deep {k : Nat} {y : B} {c : List Tok} (h : Ty k y c) : c.countP isOpen + 1 ≤ k := by
  induction h with
  | int => simp [isOpen, wd]
  | bool => simp [isOpen, wd]
  | text => simp [isOpen, wd]
  | list _ ih => simp [List.countP_cons, List.countP_append, isOpen, mk4] at ih ⊢; omega
  | @map k a y c ha _ ih =>
    rcases ha with rfl | rfl <;> (simp [List.countP_cons, List.countP_append, isOpen, mk4, wd] at ih ⊢; omega)
/-- A type that is just d deep. -/
def Just (d : Nat) (y : B) : Prop := ∃ c, Ty d y c ∧ c.countP isOpen + 1 = d
theorem Just.base {y : B} (h : y = [105, 110, 116] ∨ y = [98, 111, 111, 108] ∨ y = [116, 101, 120, 116]) : Just 1 y := by
  rcases h with rfl | rfl | rfl
  · exact ⟨_, .int, by simp [isOpen, wd]⟩
  · exact ⟨_, .bool, by simp [isOpen, wd]⟩
  · exact ⟨_, .text, by simp [isOpen, wd]⟩
theorem Just.list {d : Nat} {y : B} (h : Just d y) : Just (d + 1) ([91] ++ y ++ [93]) := by
  obtain ⟨c, h1, h2⟩ := h
  exact ⟨_, .list h1, by simp [List.countP_cons, List.countP_append, isOpen, mk4] at h2 ⊢; omega⟩
theorem Just.map {d : Nat} {y : B} (h : Just d y) : Just (d + 1) ([123, 116, 101, 120, 116, 58] ++ y ++ [125]) := by
  obtain ⟨c, h1, h2⟩ := h
  have := Ty.map (a := [116, 101, 120, 116]) (Or.inr rfl) h1
  exact ⟨_, by simpa using this, by simp [List.countP_cons, List.countP_append, isOpen, mk4, wd] at h2 ⊢; omega⟩
theorem Just.iff {d k : Nat} {y : B} (h : Just d y) : IsTy k y ↔ d ≤ k := by
  obtain ⟨c, h1, h2⟩ := h
  constructor
  · rintro ⟨c2, h3⟩
    have e := h1.uniq h3 rfl
    have := h3.deep
    rw [← e] at this
    omega
  · intro hk
    exact ⟨c, h1.mono hk⟩
theorem Just.behind {d k : Nat} {y j : B} (h : Just d y) (hj : j ≠ []) : ¬ IsTy k (y ++ j) := by
  obtain ⟨c, h1, _⟩ := h
  rintro ⟨c2, h3⟩
  have := h1.prefix (j := j) (j' := []) h3 (by simp)
  exact hj this.2
theorem not_blank {k : Nat} {y : B} : ¬ IsTy k (32 :: y) := by
  rintro ⟨c, h⟩
  generalize e : 32 :: y = x at h
  cases h with
  | int => simp at e
  | bool => simp at e
  | text => simp at e
  | list => simp at e
  | map => simp at e
theorem not_key {k : Nat} {y : B} : ¬ IsTy k ([123, 98, 111, 111, 108, 58] ++ y) := by
  rintro ⟨c, h⟩
  generalize e : [123, 98, 111, 111, 108, 58] ++ y = x at h
  cases h with
  | int => simp at e
  | bool => simp at e
  | text => simp at e
  | list => simp at e
  | map ha _ => rcases ha with rfl | rfl <;> simp at e
end Go.Proofs.YtifebbdjdllfpaaGreatDoor.Px
