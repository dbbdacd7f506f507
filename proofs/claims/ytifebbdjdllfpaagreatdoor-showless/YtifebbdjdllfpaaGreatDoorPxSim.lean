/- The same tokens at other places are the same program, or at fault too, but for the places. Plain mathematics. -/
import Derived.Test.YtifebbdjdllfpaaGreatDoorPx
namespace Go.Proofs.YtifebbdjdllfpaaGreatDoor.Px
open Go.Proofs.YtifebbdjdllfpaaGreatDoor.Lx (Tok B)
set_option linter.unusedVariables false
set_option linter.unusedSimpArgs false

/- Parts without their places. -/
mutual
def Ex.er : Ex → Ex
  | .mk k o n t a _ => .mk k o n t (ersE a) 0
def ersE : List Ex → List Ex
  | [] => []
  | e :: r => e.er :: ersE r
end
mutual
def St.er : St → St
  | .mk k n es b c _ => .mk k n (ersE es) (ersS b) (ersS c) 0
def ersS : List St → List St
  | [] => []
  | s :: r => s.er :: ersS r
end
def Sl.er (s : Sl) : Sl := ⟨s.name, s.type, 0⟩
def Fn.er (f : Fn) : Fn := ⟨f.name, f.on, f.params.map Sl.er, f.result, ersS f.body, 0⟩
def Pr.er (p : Pr) : Pr := ⟨p.version, p.states.map Sl.er, p.fns.map Fn.er⟩
theorem ersE_map : ∀ l, ersE l = l.map Ex.er
  | [] => by simp [ersE]
  | e :: r => by simp [ersE, ersE_map r]
theorem ersS_map : ∀ l, ersS l = l.map St.er
  | [] => by simp [ersS]
  | e :: r => by simp [ersS, ersS_map r]

structure TS (t u : Tok) : Prop where
  kind : t.kind = u.kind
  text : t.text = u.text
  num : t.num = u.num
inductive TSim : List Tok → List Tok → Prop
  | nil : TSim [] []
  | cons {t u : Tok} {l m : List Tok} : TS t u → TSim l m → TSim (t :: l) (u :: m)
theorem TSim.len {l m : List Tok} (h : TSim l m) : l.length = m.length := by
  induction h with
  | nil => rfl
  | cons _ _ ih => simp [ih]
theorem TSim.tail {l m : List Tok} (h : TSim l m) : TSim l.tail m.tail := by
  cases h with
  | nil => exact .nil
  | cons _ h => exact h
theorem TSim.sees {l m : List Tok} (h : TSim l m) (k : Nat) (x : B) : sees k x m = Px.sees k x l := by
  cases h with
  | nil => rfl
  | cons a _ => simp only [Px.sees, a.kind, a.text]
def SimR {α : Type} (ρ : α → α → Prop) (r s : R α) : Prop :=
  match r, s with
  | .inl (x, l), .inl (y, m) => ρ x y ∧ TSim l m
  | .inr (_, e), .inr (_, f) => e = f
  | _, _ => False
def SimP {α : Type} (ρ : α → α → Prop) (q : P α) : Prop := ∀ l m, TSim l m → SimR ρ (q l) (q m)
theorem SimR.bind {α β : Type} {ρ : α → α → Prop} {σ : β → β → Prop} {r s : R α} {f g : α → List Tok → R β} (h : SimR ρ r s) (hf : ∀ x y l m, ρ x y → TSim l m → SimR σ (f x l) (g y m)) : SimR σ (bind r f) (bind s g) := by
  match r, s, h with
  | .inl (x, l), .inl (y, m), h => exact hf x y l m h.1 h.2
  | .inr (_, e), .inr (_, f), h => exact h
theorem SimR.fail {α : Type} {ρ : α → α → Prop} {e : Nat} {l m : List Tok} : SimR ρ (fail e l) (fail e m) := rfl
theorem SimR.pure {α : Type} {ρ : α → α → Prop} {x y : α} {l m : List Tok} (h : ρ x y) (t : TSim l m) : SimR ρ (.inl (x, l)) (.inl (y, m)) := ⟨h, t⟩
abbrev EqR {α : Type} : α → α → Prop := fun x y => x = y
abbrev ExR : Ex → Ex → Prop := fun x y => x.er = y.er
abbrev ExsR : List Ex → List Ex → Prop := fun x y => x.map Ex.er = y.map Ex.er
abbrev StR : St → St → Prop := fun x y => x.er = y.er
abbrev StsR : List St → List St → Prop := fun x y => x.map St.er = y.map St.er
abbrev SlR : Sl → Sl → Prop := fun x y => x.er = y.er
theorem needK_sim (k : Nat) (x : B) : SimP EqR (needK k x) := by
  intro l m h
  unfold needK
  rw [h.sees]
  split
  · exact .pure rfl h.tail
  · exact .fail
theorem need_sim (x : B) : SimP EqR (need x) := needK_sim 4 x
theorem name_sim : SimP TS name := by
  intro l m h
  cases h with
  | nil => exact .fail
  | cons a h =>
    simp only [name, ← a.kind, ← a.text]
    split
    · exact .pure a h
    · exact .fail
theorem number_sim : SimP EqR number := by
  intro l m h
  cases h with
  | nil => exact .fail
  | cons a h =>
    simp only [number, ← a.kind, ← a.num]
    split
    · exact .pure rfl h
    · exact .fail
theorem key_sim : SimP EqR key := by
  intro l m h
  unfold key
  rw [h.sees, h.sees]
  split
  · exact .pure rfl h.tail
  split
  · exact .pure rfl h.tail
  · exact .fail
theorem typ_sim : ∀ k, SimP EqR (typ k)
  | 0 => fun _ _ _ => .fail
  | k + 1 => by
    intro l m h
    simp only [typ, h.sees]
    split
    · exact .pure rfl h.tail
    split
    · exact .pure rfl h.tail
    split
    · exact .pure rfl h.tail
    split
    · exact (typ_sim k _ _ h.tail).bind fun x y _ _ e h1 => (need_sim _ _ _ h1).bind fun _ _ _ _ _ h2 => .pure (by rw [e]) h2
    split
    · exact (key_sim _ _ h.tail).bind fun x y _ _ e h1 => (need_sim _ _ _ h1).bind fun _ _ _ _ _ h2 => (typ_sim k _ _ h2).bind fun _ _ _ _ e3 h3 => (need_sim _ _ _ h3).bind fun _ _ _ _ _ h4 => .pure (by rw [e, e3]) h4
    · exact .fail
theorem slot_sim : SimP SlR slot := fun l m h => (name_sim _ _ h).bind fun x y _ _ e h1 => (need_sim _ _ _ h1).bind fun _ _ _ _ _ h2 => (typ_sim 4 _ _ h2).bind fun _ _ _ _ e3 h3 => .pure (by simp only [SlR, Sl.er, e.text, e3]) h3
theorem sep_sim (n : Nat) : SimP EqR (sep n) := by
  intro l m h
  unfold sep; split
  · exact .pure rfl h
  · exact need_sim _ _ _ h
theorem items_sim {α β : Type} {g : α → β} {q : P α} (hq : SimP (fun x y => g x = g y) q) : ∀ (f n : Nat) (a b : List α), a.map g = b.map g → ∀ l m, TSim l m → SimR (fun x y => x.map g = y.map g) (items q f n a l) (items q f n b m)
  | 0, _, _, _, _, _, _, _ => rfl
  | f + 1, n, a, b, hab, l, m, h => by
    simp only [items, h.sees]
    split
    · exact .pure hab h.tail
    · exact (sep_sim n _ _ h).bind fun _ _ _ _ _ h1 => (hq _ _ h1).bind fun x y _ _ e h2 => items_sim hq f (n + 1) _ _ (by simp [hab, e]) _ _ h2
theorem levelOf_sim {t u : Tok} (h : TS t u) : levelOf u = levelOf t := by
  unfold levelOf; rw [← h.kind, ← h.text]
theorem er_two {k o n : Nat} {t : B} {a b c d : Ex} {p q : Nat} (h1 : a.er = b.er) (h2 : c.er = d.er) : (Ex.mk k o n t [a, c] p).er = (Ex.mk k o n t [b, d] q).er := by
  simp [Ex.er, ersE, h1, h2]
theorem er_one {k o n : Nat} {t : B} {a b : Ex} {p q : Nat} (h1 : a.er = b.er) : (Ex.mk k o n t [a] p).er = (Ex.mk k o n t [b] q).er := by
  simp [Ex.er, ersE, h1]
theorem er_list {k o n : Nat} {t : B} {a b : List Ex} {p q : Nat} (h1 : a.map Ex.er = b.map Ex.er) : (Ex.mk k o n t a p).er = (Ex.mk k o n t b q).er := by
  simp [Ex.er, ersE_map, h1]
theorem chain_sim {n : Nat} {q : P Ex} (hq : SimP ExR q) : ∀ (f c : Nat) (a b : Ex), a.er = b.er → ∀ l m, TSim l m → SimR ExR (chain n q f c a l) (chain n q f c b m)
  | 0, _, _, _, _, _, _, _ => rfl
  | f + 1, c, a, b, hab, _, _, .nil => rfl
  | f + 1, c, a, b, hab, _, _, .cons (t := t) (u := u) (l := l) (m := m) ht h => by
    simp only [chain, levelOf_sim ht]
    split
    · split
      · exact .fail
      · exact (hq _ _ h).bind fun x y _ _ e h1 => chain_sim hq f (c + 1) _ _ (er_two hab e) _ _ h1
    · exact .pure hab (.cons ht h)
theorem level_sim {n : Nat} {q : P Ex} (hq : SimP ExR q) : SimP ExR (level n q) := fun l m h => (hq _ _ h).bind fun x y _ _ e h1 => by rw [h1.len]; exact chain_sim hq _ _ _ _ e _ _ h1
theorem lvl_sim {q : P Ex} (hq : SimP ExR q) : SimP ExR (lvl q) := level_sim (level_sim (level_sim (level_sim (level_sim hq))))
theorem ats_sim {e : P Ex} (he : SimP ExR e) : ∀ (f : Nat) (a b : Ex), a.er = b.er → ∀ l m, TSim l m → SimR ExR (ats e f a l) (ats e f b m)
  | 0, _, _, _, _, _, _ => rfl
  | f + 1, a, b, hab, l, m, h => by
    simp only [ats, h.sees]
    split
    · exact (he _ _ h.tail).bind fun x y _ _ e1 h1 => (need_sim _ _ _ h1).bind fun _ _ _ _ _ h2 => ats_sim he f _ _ (er_two hab e1) _ _ h2
    · exact .pure hab h
theorem primary_sim {e : P Ex} (he : SimP ExR e) : SimP ExR (primary e) := by
  intro l m h
  have hs := h.sees
  cases h with
  | nil => exact .fail
  | cons a h =>
    rename_i t u l m
    simp only [primary, hs, ← a.kind, ← a.text, ← a.num]
    split
    · exact .pure (by simp [ExR, Ex.er]) h
    split
    · exact .pure (by simp [ExR, Ex.er]) h
    split
    · exact .pure (by simp [ExR, Ex.er]) h
    split
    · exact .pure (by simp [ExR, Ex.er]) h
    split
    · exact (he _ _ h).bind fun x y _ _ e1 h1 => (need_sim _ _ _ h1).bind fun _ _ _ _ _ h2 => .pure e1 h2
    · refine (name_sim _ _ (.cons a h)).bind fun t1 u1 l1 m1 e1 h1 => ?_
      rw [h1.sees]
      split
      · rw [h1.len]
        exact (items_sim (g := Ex.er) he _ _ _ _ rfl _ _ h1.tail).bind fun xs ys _ _ e2 h2 => .pure (by rw [e1.text]; exact er_list e2) h2
      · exact .pure (by simp [ExR, Ex.er, e1.text]) h1
theorem unary_sim : ∀ k, SimP ExR (unary k)
  | 0 => fun _ _ _ => .fail
  | k + 1 => by
    intro l m h
    simp only [unary, h.sees]
    split
    · exact (unary_sim k _ _ h.tail).bind fun x y _ _ e h1 => .pure (er_one e) h1
    split
    · exact (unary_sim k _ _ h.tail).bind fun x y _ _ e h1 => .pure (er_one e) h1
    · exact (primary_sim (lvl_sim (unary_sim k)) _ _ h).bind fun x y _ _ e h1 => by rw [h1.len]; exact ats_sim (lvl_sim (unary_sim k)) _ _ _ e _ _ h1
theorem expr_sim (k : Nat) : SimP ExR (expr k) := lvl_sim (unary_sim k)
theorem opt_sim {e : P Ex} (he : SimP ExR e) : SimP ExsR (opt e) := by
  intro l m h
  unfold opt
  rw [h.sees]
  split
  · exact (he _ _ h.tail).bind fun x y _ _ e1 h1 => (need_sim _ _ _ h1).bind fun _ _ _ _ _ h2 => .pure (by simp [ExsR, e1]) h2
  · exact .pure rfl h
theorem other_sim {b : P (List St)} (hb : SimP StsR b) : SimP StsR (other b) := by
  intro l m h
  unfold other
  rw [h.sees]
  split
  · exact hb _ _ h.tail
  · exact .pure rfl h
theorem er_st {k : Nat} {n n' : B} {es es' : List Ex} {b b' c c' : List St} {p p' : Nat} (h0 : n = n') (h1 : es.map Ex.er = es'.map Ex.er) (h2 : b.map St.er = b'.map St.er) (h3 : c.map St.er = c'.map St.er) : (St.mk k n es b c p).er = (St.mk k n' es' b' c' p').er := by
  simp [St.er, ersE_map, ersS_map, h0, h1, h2, h3]
theorem stmt_sim {e : P Ex} {b : P (List St)} (he : SimP ExR e) (hb : SimP StsR b) : SimP StR (stmt e b) := by
  intro l m h
  simp only [stmt, h.sees]
  split
  · exact (name_sim _ _ h.tail).bind fun _ _ _ _ e0 h0 => (need_sim _ _ _ h0).bind fun _ _ _ _ _ h1 => (he _ _ h1).bind fun _ _ _ _ e2 h2 => (need_sim _ _ _ h2).bind fun _ _ _ _ _ h3 => .pure (er_st e0.text (by simp [e2]) rfl rfl) h3
  split
  · exact (name_sim _ _ h.tail).bind fun _ _ _ _ e0 h0 => (opt_sim he _ _ h0).bind fun _ _ _ _ e1 h1 => (need_sim _ _ _ h1).bind fun _ _ _ _ _ h2 => (he _ _ h2).bind fun _ _ _ _ e3 h3 => (need_sim _ _ _ h3).bind fun _ _ _ _ _ h4 => .pure (er_st e0.text (by simp [e1, e3]) rfl rfl) h4
  split
  · exact (name_sim _ _ h.tail).bind fun _ _ _ _ e0 h0 => (need_sim _ _ _ h0).bind fun _ _ _ _ _ h1 => (he _ _ h1).bind fun _ _ _ _ e2 h2 => (need_sim _ _ _ h2).bind fun _ _ _ _ _ h3 => (need_sim _ _ _ h3).bind fun _ _ _ _ _ h4 => .pure (er_st e0.text (by simp [e2]) rfl rfl) h4
  split
  · exact (he _ _ h.tail).bind fun _ _ _ _ e0 h0 => (hb _ _ h0).bind fun _ _ _ _ e1 h1 => (other_sim hb _ _ h1).bind fun _ _ _ _ e2 h2 => .pure (er_st rfl (by simp [e0]) e1 e2) h2
  split
  · exact (name_sim _ _ h.tail).bind fun _ _ _ _ e0 h0 => (needK_sim _ _ _ _ h0).bind fun _ _ _ _ _ h1 => (he _ _ h1).bind fun _ _ _ _ e2 h2 => (hb _ _ h2).bind fun _ _ _ _ e3 h3 => .pure (er_st e0.text (by simp [e2]) e3 rfl) h3
  split
  · exact (he _ _ h.tail).bind fun _ _ _ _ e0 h0 => (need_sim _ _ _ h0).bind fun _ _ _ _ _ h1 => .pure (er_st rfl (by simp [e0]) rfl rfl) h1
  · exact .fail
theorem stmts_sim {q : P St} (hq : SimP StR q) : ∀ (f : Nat) (a b : List St), a.map St.er = b.map St.er → ∀ l m, TSim l m → SimR StsR (stmts q f a l) (stmts q f b m)
  | 0, _, _, _, _, _, _ => rfl
  | f + 1, a, b, hab, l, m, h => by
    simp only [stmts, h.sees]
    split
    · exact .pure hab h.tail
    · exact (hq _ _ h).bind fun x y _ _ e h1 => stmts_sim hq f _ _ (by simp [hab, e]) _ _ h1
theorem block_sim : ∀ k, SimP StsR (block k)
  | 0 => fun _ _ _ => .fail
  | k + 1 => fun l m h => (need_sim _ _ _ h).bind fun _ _ _ _ _ h1 => by rw [h1.len]; exact stmts_sim (stmt_sim (expr_sim k) (block_sim k)) _ _ _ rfl _ _ h1
theorem function_sim (on : Bool) : SimP (fun x y => x.er = y.er) (function on) := fun l m h =>
  (name_sim _ _ h).bind fun _ _ _ _ e0 h0 => (need_sim _ _ _ h0).bind fun _ _ _ _ _ h1 => by
    rw [h1.len]
    exact (items_sim (g := Sl.er) slot_sim _ _ _ _ rfl _ _ h1).bind fun _ _ _ _ e2 h2 => (need_sim _ _ _ h2).bind fun _ _ _ _ _ h3 => (typ_sim 4 _ _ h3).bind fun _ _ _ _ e4 h4 => (block_sim 24 _ _ h4).bind fun _ _ _ _ e5 h5 => .pure (by simp [Fn.er, e0.text, e2, e4, ersS_map, e5]) h5
theorem parts_sim : ∀ (f : Nat) (p q : Pr), p.er = q.er → ∀ l m, TSim l m → SimR (fun x y => x.er = y.er) (parts f p l) (parts f q m)
  | 0, _, _, _, _, _, _ => rfl
  | f + 1, p, q, hpq, _, _, .nil => rfl
  | f + 1, p, q, hpq, _, _, .cons (t := t) (u := u) (l := l) (m := m) ht h => by
    have hs := (TSim.cons ht h).sees
    have hp : p.version = q.version ∧ p.states.map Sl.er = q.states.map Sl.er ∧ p.fns.map Fn.er = q.fns.map Fn.er := by simpa [Pr.er] using hpq
    simp only [parts, hs, ← ht.kind]
    split
    · exact .pure hpq (.cons ht h)
    split
    · exact (slot_sim _ _ h).bind fun _ _ _ _ e0 h0 => (need_sim _ _ _ h0).bind fun _ _ _ _ _ h1 => parts_sim f _ _ (by simp [Pr.er, hp.1, hp.2.1, hp.2.2, e0]) _ _ h1
    split
    · exact (function_sim _ _ _ h).bind fun _ _ _ _ e0 h0 => parts_sim f _ _ (by simp [Pr.er, hp.1, hp.2.1, hp.2.2, e0]) _ _ h0
    split
    · exact (function_sim _ _ _ h).bind fun _ _ _ _ e0 h0 => parts_sim f _ _ (by simp [Pr.er, hp.1, hp.2.1, hp.2.2, e0]) _ _ h0
    · exact .fail
theorem program_sim : SimP (fun x y => x.er = y.er) program := fun l m h =>
  (needK_sim _ _ _ _ h).bind fun _ _ _ _ _ h0 => (number_sim _ _ h0).bind fun _ _ _ _ e1 h1 => (need_sim _ _ _ h1).bind fun _ _ _ _ _ h2 => by rw [h2.len]; exact parts_sim _ _ _ (by simp [Pr.er, e1]) _ _ h2
end Go.Proofs.YtifebbdjdllfpaaGreatDoor.Px
