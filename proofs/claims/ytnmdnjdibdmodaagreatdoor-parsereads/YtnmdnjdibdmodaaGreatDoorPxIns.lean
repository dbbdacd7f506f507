/- Round brackets around numbers change nothing but places, where nothing is too deep. Plain mathematics. -/
import Derived.Test.YtnmdnjdibdmodaaGreatDoorPxSim
namespace Go.Proofs.YtnmdnjdibdmodaaGreatDoor.Px
open Go.Proofs.YtnmdnjdibdmodaaGreatDoor.Lx (Tok B)
set_option linter.unusedVariables false
set_option linter.unusedSimpArgs false

/-- The tokens m are those of l at other places, some numbers with round brackets around them. -/
inductive Ins : List Tok → List Tok → Prop
  | nil : Ins [] []
  | cons {t u : Tok} {l m : List Tok} : TS t u → Ins l m → Ins (t :: l) (u :: m)
  | wrap {t u a b : Tok} {l m : List Tok} : t.kind = 2 → TS t u → a.kind = 4 → a.text = [40] → b.kind = 4 → b.text = [41] → Ins l m → Ins (t :: l) (a :: u :: b :: m)
def notnum : List Tok → Prop
  | [] => True
  | t :: _ => t.kind ≠ 2
theorem Ins.of_sim {l m : List Tok} (h : TSim l m) : Ins l m := by
  induction h with
  | nil => exact .nil
  | cons a _ ih => exact .cons a ih
theorem sees_notnum {k : Nat} {x : B} {l : List Tok} (h : sees k x l = true) (hk : k ≠ 2) : notnum l := by
  obtain ⟨t, r, rfl, h1, _⟩ := sees_head h
  show t.kind ≠ 2
  omega
theorem Ins.yes {l m : List Tok} (h : Ins l m) {k : Nat} {x : B} (hs : sees k x l = true) (hk : k ≠ 2) : sees k x m = true ∧ Ins l.tail m.tail := by
  cases h with
  | nil => simp [sees] at hs
  | cons a h => exact ⟨by rw [← hs]; simp only [sees, a.kind, a.text], h⟩
  | wrap h2 _ _ _ _ _ h => simp [sees] at hs; omega
theorem Ins.no {l m : List Tok} (h : Ins l m) {k : Nat} {x : B} (hs : sees k x l = false) (hk : k ≠ 4 ∨ x ≠ [40]) : sees k x m = false := by
  cases h with
  | nil => rfl
  | cons a h => rw [← hs]; simp only [sees, a.kind, a.text]
  | wrap h2 _ h4 ht _ _ h =>
    simp only [sees, h4, ht]
    rcases hk with hk | hk
    · have : (4 == k) = false := by simp; omega
      rw [this]; rfl
    · have : (([40] : B) == x) = false := by simp; exact fun e => hk e.symm
      rw [this, Bool.and_false]
theorem Ins.sees {l m : List Tok} (h : Ins l m) (k : Nat) (x : B) (h2 : k ≠ 2) (hk : k ≠ 4 ∨ x ≠ [40]) : Px.sees k x m = Px.sees k x l := by
  rcases hs : Px.sees k x l with _ | _
  · exact h.no hs hk
  · exact (h.yes hs h2).1
theorem Ins.seesN {l m : List Tok} (h : Ins l m) (k : Nat) (x : B) (h2 : k ≠ 2) (hn : notnum l) : Px.sees k x m = Px.sees k x l := by
  cases h with
  | nil => rfl
  | cons a h => simp only [Px.sees, a.kind, a.text]
  | wrap h2 => exact absurd h2 hn
/-- What is answered of l and of m: where l's is a part, so is m's, but for places; or m is too deep. (Where a number stands behind, nothing is said.) -/
def InsE {α : Type} (ρ : α → α → Prop) (r s : R α) : Prop := ∀ x l, r = .inl (x, l) → notnum l → (∃ a, s = .inr (a, 32)) ∨ ∃ y m, s = .inl (y, m) ∧ ρ x y ∧ Ins l m
def InsF {α : Type} (ρ : α → α → Prop) (r s : R α) : Prop := ∀ x l, r = .inl (x, l) → (∃ a, s = .inr (a, 32)) ∨ ∃ y m, s = .inl (y, m) ∧ ρ x y ∧ Ins l m
theorem InsF.e {α : Type} {ρ : α → α → Prop} {r s : R α} (h : InsF ρ r s) : InsE ρ r s := fun x l e _ => h x l e
theorem bind_inl {α β : Type} {r : R α} {f : α → List Tok → R β} {z : β × List Tok} (h : bind r f = .inl z) : ∃ x l, r = .inl (x, l) ∧ f x l = .inl z := by
  match r, h with
  | .inl (x, l), h => exact ⟨x, l, rfl, h⟩
/-- Behind an expression. -/
theorem InsE.bindE {α β : Type} {ρ : α → α → Prop} {σ : β → β → Prop} {r s : R α} {f g : α → List Tok → R β} (h : InsE ρ r s) (hn : ∀ x l y l', f x l = .inl (y, l') → notnum l' → notnum l) (hf : ∀ x y l m, r = .inl (x, l) → s = .inl (y, m) → ρ x y → Ins l m → InsE σ (f x l) (g y m)) : InsE σ (bind r f) (bind s g) := by
  intro y l' hy hl
  obtain ⟨x, l, hr, hx⟩ := bind_inl hy
  rcases h x l hr (hn x l y l' hx hl) with ⟨a, ha⟩ | ⟨x2, m, hs, hρ, hi⟩
  · exact Or.inl ⟨a, by rw [ha]; rfl⟩
  · rw [hs]; exact hf x x2 l m hr hs hρ hi y l' hx hl
theorem InsE.bindF {α β : Type} {ρ : α → α → Prop} {σ : β → β → Prop} {r s : R α} {f g : α → List Tok → R β} (h : InsE ρ r s) (hn : ∀ x l z, f x l = .inl z → notnum l) (hf : ∀ x y l m, r = .inl (x, l) → s = .inl (y, m) → ρ x y → Ins l m → InsF σ (f x l) (g y m)) : InsF σ (bind r f) (bind s g) := by
  intro y l' hy
  obtain ⟨x, l, hr, hx⟩ := bind_inl hy
  rcases h x l hr (hn x l _ hx) with ⟨a, ha⟩ | ⟨x2, m, hs, hρ, hi⟩
  · exact Or.inl ⟨a, by rw [ha]; rfl⟩
  · rw [hs]; exact hf x x2 l m hr hs hρ hi y l' hx
/-- Behind what looks at no token beyond its own. -/
theorem InsF.bindE {α β : Type} {ρ : α → α → Prop} {σ : β → β → Prop} {r s : R α} {f g : α → List Tok → R β} (h : InsF ρ r s) (hf : ∀ x y l m, r = .inl (x, l) → s = .inl (y, m) → ρ x y → Ins l m → InsE σ (f x l) (g y m)) : InsE σ (bind r f) (bind s g) := by
  intro y l' hy hl
  obtain ⟨x, l, hr, hx⟩ := bind_inl hy
  rcases h x l hr with ⟨a, ha⟩ | ⟨x2, m, hs, hρ, hi⟩
  · exact Or.inl ⟨a, by rw [ha]; rfl⟩
  · rw [hs]; exact hf x x2 l m hr hs hρ hi y l' hx hl
theorem InsF.bindF {α β : Type} {ρ : α → α → Prop} {σ : β → β → Prop} {r s : R α} {f g : α → List Tok → R β} (h : InsF ρ r s) (hf : ∀ x y l m, r = .inl (x, l) → s = .inl (y, m) → ρ x y → Ins l m → InsF σ (f x l) (g y m)) : InsF σ (bind r f) (bind s g) := by
  intro y l' hy
  obtain ⟨x, l, hr, hx⟩ := bind_inl hy
  rcases h x l hr with ⟨a, ha⟩ | ⟨x2, m, hs, hρ, hi⟩
  · exact Or.inl ⟨a, by rw [ha]; rfl⟩
  · rw [hs]; exact hf x x2 l m hr hs hρ hi y l' hx
theorem InsF.fail {α : Type} {ρ : α → α → Prop} {e : Nat} {l : List Tok} {s : R α} : InsF ρ (fail e l) s := fun x l h => by simp [Px.fail] at h
theorem InsE.fail {α : Type} {ρ : α → α → Prop} {e : Nat} {l : List Tok} {s : R α} : InsE ρ (fail e l) s := InsF.fail.e
theorem InsF.pure {α : Type} {ρ : α → α → Prop} {x y : α} {l m : List Tok} (h : ρ x y) (t : Ins l m) : InsF ρ (.inl (x, l)) (.inl (y, m)) := fun x' l' e => by
  simp at e; obtain ⟨rfl, rfl⟩ := e; exact Or.inr ⟨y, m, rfl, h, t⟩
theorem needK_ins {k : Nat} {x : B} {l m : List Tok} (h : Ins l m) (hk : k ≠ 2) : InsF EqR (needK k x l) (needK k x m) := by
  unfold needK
  split
  · rename_i hs
    obtain ⟨h1, h2⟩ := h.yes hs hk
    rw [if_pos h1]
    exact .pure rfl h2
  · exact .fail
theorem need_ins {x : B} {l m : List Tok} (h : Ins l m) : InsF EqR (need x l) (need x m) := needK_ins h (by decide)
theorem name_ins {l m : List Tok} (h : Ins l m) : InsF TS (name l) (name m) := by
  cases h with
  | nil => exact .fail
  | cons a h =>
    simp only [name, ← a.kind, ← a.text]
    split
    · exact .pure a h
    · exact .fail
  | wrap h2 _ _ _ _ _ h =>
    simp only [name]
    rw [if_neg (by omega)]
    exact .fail
theorem key_ins {l m : List Tok} (h : Ins l m) : InsF EqR (key l) (key m) := by
  unfold key
  rw [h.sees 1 _ (by decide) (by decide), h.sees 1 _ (by decide) (by decide)]
  split
  · rename_i hs; exact .pure rfl (h.yes hs (by decide)).2
  split
  · rename_i hs; exact .pure rfl (h.yes hs (by decide)).2
  · exact .fail
theorem typ_ins : ∀ (k : Nat) {l m : List Tok}, Ins l m → InsF EqR (typ k l) (typ k m)
  | 0, _, _, _ => .fail
  | k + 1, l, m, h => by
    simp only [typ]
    rw [h.sees 1 _ (by decide) (by decide), h.sees 1 _ (by decide) (by decide), h.sees 1 _ (by decide) (by decide), h.sees 4 _ (by decide) (by decide), h.sees 4 _ (by decide) (by decide)]
    split
    · rename_i hs; exact .pure rfl (h.yes hs (by decide)).2
    split
    · rename_i hs; exact .pure rfl (h.yes hs (by decide)).2
    split
    · rename_i hs; exact .pure rfl (h.yes hs (by decide)).2
    split
    · rename_i hs
      exact (typ_ins k (h.yes hs (by decide)).2).bindF fun _ _ _ _ _ _ e h1 => (need_ins h1).bindF fun _ _ _ _ _ _ _ h2 => .pure (by rw [e]) h2
    split
    · rename_i hs
      exact (key_ins (h.yes hs (by decide)).2).bindF fun _ _ _ _ _ _ e h1 => (need_ins h1).bindF fun _ _ _ _ _ _ _ h2 => (typ_ins k h2).bindF fun _ _ _ _ _ _ e3 h3 => (need_ins h3).bindF fun _ _ _ _ _ _ _ h4 => .pure (by rw [e, e3]) h4
    · exact .fail
theorem slot_ins {l m : List Tok} (h : Ins l m) : InsF SlR (slot l) (slot m) :=
  (name_ins h).bindF fun _ _ _ _ _ _ e h1 => (need_ins h1).bindF fun _ _ _ _ _ _ _ h2 => (typ_ins 4 h2).bindF fun _ _ _ _ _ _ e3 h3 => .pure (by simp only [SlR, Sl.er, e.text, e3]) h3
theorem sep_ins {n : Nat} {l m : List Tok} (h : Ins l m) : InsF EqR (sep n l) (sep n m) := by
  unfold sep; split
  · exact .pure rfl h
  · exact need_ins h
theorem Ins.good {l m : List Tok} (h : Ins l m) : Good l → Good m := by
  induction h with
  | nil => exact id
  | cons a h ih =>
    rename_i t u l m
    intro hg
    match l, m, h, hg, ih with
    | [], [], _, hg, _ => exact (show u.kind = 5 from a.kind ▸ (show t.kind = 5 from hg))
    | t2 :: l, u2 :: m, _, hg, ih => exact ⟨a.kind ▸ hg.1, ih hg.2⟩
  | wrap h2 a h4 _ h5 _ h ih =>
    rename_i t u c b l m _ _
    intro hg
    have hk := a.kind
    match l, m, h, hg, ih with
    | [], _, _, hg, _ => exact absurd (show t.kind = 5 from hg) (by omega)
    | t2 :: l, u2 :: m, _, hg, ih => exact ⟨by omega, by omega, by omega, ih hg.2⟩
theorem need_notnum {α : Type} {x : B} {l : List Tok} {f : Unit → List Tok → R α} {z : α × List Tok} (h : bind (need x l) f = .inl z) : notnum l := by
  obtain ⟨y, l1, h1, _⟩ := bind_inl h
  unfold need needK at h1
  split at h1
  · rename_i hs; exact sees_notnum hs (by decide)
  · simp [Px.fail] at h1
/-- A part that looks ahead, over tokens that are good. -/
def InsP {α : Type} (ρ : α → α → Prop) (q : P α) : Prop := ∀ l m, Good l → Ins l m → InsE ρ (q l) (q m)
def InsQ {α : Type} (ρ : α → α → Prop) (q : P α) : Prop := ∀ l m, Good l → Ins l m → InsF ρ (q l) (q m)
theorem items_notnum {α : Type} {q : P α} {f n : Nat} {a : List α} {l : List Tok} {z : List α × List Tok} (hn : 0 < n) (h : items q f n a l = .inl z) : notnum l := by
  match f, h with
  | f + 1, h =>
    simp only [items] at h
    split at h
    · rename_i hs; exact sees_notnum hs (by decide)
    · unfold sep at h
      rw [if_neg (by omega)] at h
      exact need_notnum h
theorem items_ins {α β : Type} {g : α → β} {q : P α} (hq : InsP (fun x y => g x = g y) q) (hok : Ok q) : ∀ (f n : Nat) (a b : List α), a.map g = b.map g → ∀ l m, Good l → Ins l m → l.length < f → ∀ f', m.length < f' → InsF (fun x y => x.map g = y.map g) (items q f n a l) (items q f' n b m)
  | 0, _, _, _, _, _, _, _, _, h, _, _ => by omega
  | f + 1, n, a, b, hab, l, m, hg, h, hf, 0, hf' => by omega
  | f + 1, n, a, b, hab, l, m, hg, h, hf, f' + 1, hf' => by
    have hgm := h.good hg
    simp only [items]
    rw [h.sees 4 _ (by decide) (by decide)]
    split
    · rename_i hs; exact .pure hab (h.yes hs (by decide)).2
    · refine (sep_ins h).bindF fun _ _ l1 m1 er es _ h1 => ?_
      have a1 := (sep_res hg).ok _ _ er
      have b1 := (sep_res hgm).ok _ _ es
      refine (hq _ _ a1.good h1).bindF (fun _ _ _ hz => items_notnum (Nat.succ_pos _) hz) fun x y l2 m2 er2 es2 e h2 => ?_
      have a2 := (hok _ a1.good).ok _ _ er2
      have b2 := (hok _ b1.good).ok _ _ es2
      have := a1.less; have := b1.less; have := a2.less; have := b2.less
      exact items_ins hq hok f (n + 1) _ _ (by simp [hab, e]) _ _ a2.good h2 (by omega) f' (by omega)
theorem levelOf_num {t : Tok} (h : t.kind ≠ 4) : levelOf t = (0, 0) := by unfold levelOf; rw [if_neg h]
theorem chain_notnum {n : Nat} {q : P Ex} {f c : Nat} {a : Ex} {l : List Tok} {y : Ex} {l' : List Tok} (hn : 0 < n) (h : chain n q f c a l = .inl (y, l')) (hl : notnum l') : notnum l := by
  match f, l, h with
  | f + 1, t :: r, h =>
    intro h2
    simp only [chain] at h
    rw [levelOf_num (by omega), if_neg (by simp; omega)] at h
    simp at h
    rw [← h.2] at hl
    exact hl h2
theorem chain_ins {n : Nat} {q : P Ex} (hn : 0 < n) (hq : InsP ExR q) (hok : Ok q) : ∀ (f c : Nat) (a b : Ex), a.er = b.er → ∀ l m, Good l → Ins l m → l.length < f → ∀ f', m.length < f' → notnum l → InsE ExR (chain n q f c a l) (chain n q f' c b m)
  | 0, _, _, _, _, _, _, _, _, h, _, _, _ => by omega
  | f + 1, c, a, b, hab, l, m, hg, h, hf, 0, hf', _ => by omega
  | f + 1, c, a, b, hab, l, m, hg, h, hf, f' + 1, hf', hnl => by
    have hgm := h.good hg
    cases h with
    | nil => exact absurd hg (by simp [Good])
    | wrap h2 => exact absurd h2 hnl
    | cons ht h =>
      rename_i t u l m
      simp only [chain, levelOf_sim ht]
      split
      · rename_i hl
        split
        · exact .fail
        · have hk : t.kind ≠ 5 := by
            intro h5
            rw [levelOf_num (by omega)] at hl; simp at hl; omega
          have hgl := hg.tail hk
          have hgm' := hgm.tail (by rw [← ht.kind]; exact hk)
          refine (hq _ _ hgl h).bindE (fun _ _ _ _ hz hl' => chain_notnum hn hz hl') fun x y l1 m1 er es e h1 => ?_
          have a1 := (hok _ hgl).ok _ _ er
          have b1 := (hok _ hgm').ok _ _ es
          have := a1.less; have := b1.less
          simp only [List.length_cons] at hf hf'
          intro z l' hz hl'
          exact chain_ins hn hq hok f (c + 1) _ _ (er_two hab e) _ _ a1.good h1 (by omega) f' (by omega) (chain_notnum hn hz hl') z l' hz hl'
      · exact (InsF.pure (ρ := ExR) hab (.cons ht h)).e
theorem level_ins {n : Nat} {q : P Ex} (hn : 0 < n) (hq : InsP ExR q) (hok : Ok q) : InsP ExR (level n q) := fun l m hg h => by
  refine (hq _ _ hg h).bindE (fun _ _ _ _ hz hl => chain_notnum hn hz hl) fun x y l1 m1 er es e h1 => ?_
  intro z l' hz hl
  exact chain_ins hn hq hok _ _ _ _ e _ _ ((hok _ hg).ok _ _ er).good h1 (Nat.lt_succ_self _) _ (Nat.lt_succ_self _) (chain_notnum hn hz hl) z l' hz hl
theorem lvl_ins {q : P Ex} (hq : InsP ExR q) (hok : Ok q) : InsP ExR (lvl q) :=
  level_ins (by decide) (level_ins (by decide) (level_ins (by decide) (level_ins (by decide) (level_ins (by decide) hq hok) (level_ok hok (by decide))) (level_ok (level_ok hok (by decide)) (by decide))) (level_ok (level_ok (level_ok hok (by decide)) (by decide)) (by decide))) (level_ok (level_ok (level_ok (level_ok hok (by decide)) (by decide)) (by decide)) (by decide))
theorem ats_notnum {e : P Ex} {f : Nat} {a : Ex} {l : List Tok} {y : Ex} {l' : List Tok} (h : ats e f a l = .inl (y, l')) (hl : notnum l') : notnum l := by
  match f, h with
  | f + 1, h =>
    simp only [ats] at h
    split at h
    · rename_i hs; exact sees_notnum hs (by decide)
    · simp at h; rw [h.2]; exact hl
theorem ats_ins {e : P Ex} (he : InsP ExR e) (hok : Ok e) : ∀ (f : Nat) (a b : Ex), a.er = b.er → ∀ l m, Good l → Ins l m → l.length < f → ∀ f', m.length < f' → InsE ExR (ats e f a l) (ats e f' b m)
  | 0, _, _, _, _, _, _, _, h, _, _ => by omega
  | f + 1, a, b, hab, l, m, hg, h, hf, 0, hf' => by omega
  | f + 1, a, b, hab, l, m, hg, h, hf, f' + 1, hf' => by
    have hgm := h.good hg
    simp only [ats]
    rw [h.sees 4 _ (by decide) (by decide)]
    split
    · rename_i hs
      obtain ⟨hs2, ht⟩ := h.yes hs (by decide)
      have a0 := sees4 hs hg
      have b0 := sees4 hs2 hgm
      refine (he _ _ a0.good ht).bindE (fun _ _ _ _ hz _ => need_notnum hz) fun x y l1 m1 er es e1 h1 => ?_
      have a1 := (hok _ a0.good).ok _ _ er
      have b1 := (hok _ b0.good).ok _ _ es
      refine (need_ins h1).bindE fun _ _ l2 m2 er2 es2 _ h2 => ?_
      have a2 := (need_res a1.good).ok _ _ er2
      have b2 := (need_res b1.good).ok _ _ es2
      have := a0.less; have := b0.less; have := a1.less; have := b1.less; have := a2.less; have := b2.less
      exact ats_ins he hok f _ _ (er_two hab e1) _ _ a2.good h2 (by omega) f' (by omega)
    · exact (InsF.pure (ρ := ExR) hab h).e
/-- A number in round brackets, behind the first of them: it is read as the number, or is too deep. -/
def Wraps (e : P Ex) : Prop := ∀ (u b : Tok) (m : List Tok), u.kind = 2 → b.kind = 4 → b.text = [41] → (∃ a, e (u :: b :: m) = .inr (a, 32)) ∨ e (u :: b :: m) = .inl (.mk 1 0 u.num [] [] u.place, b :: m)
theorem level_wraps {n : Nat} {q : P Ex} (hn : 0 < n) (h : Wraps q) : Wraps (level n q) := by
  intro u b m h2 h4 ht
  rcases h u b m h2 h4 ht with ⟨a, ha⟩ | ha
  · exact Or.inl ⟨a, by simp [level, ha, bind]⟩
  · refine Or.inr ?_
    have hl : levelOf b = (0, 0) := by simp [levelOf, h4, ht]
    simp only [level, ha, bind, chain, hl]
    rw [if_neg (by omega)]
theorem lvl_wraps {q : P Ex} (h : Wraps q) : Wraps (lvl q) := level_wraps (by decide) (level_wraps (by decide) (level_wraps (by decide) (level_wraps (by decide) (level_wraps (by decide) h))))
theorem unary_wraps : ∀ k, Wraps (unary k)
  | 0 => fun u b m _ _ _ => Or.inl ⟨_, rfl⟩
  | k + 1 => fun u b m h2 h4 ht => Or.inr (by simp [unary, sees, primary, ats, bind, h2, h4, ht])
theorem primary_ins {e : P Ex} (he : InsP ExR e) (hok : Ok e) (hw : Wraps e) : InsP ExR (primary e) := by
  intro l m hg h
  have hgm := h.good hg
  cases h with
  | nil => exact .fail
  | wrap h2 a h4 ht h5 ht5 h =>
    rename_i t u c b l m
    intro x l' hx _
    simp only [primary, h2, if_true] at hx
    simp only [Sum.inl.injEq, Prod.mk.injEq] at hx
    obtain ⟨rfl, rfl⟩ := hx
    rcases hw u b m (by rw [← a.kind]; exact h2) h5 ht5 with ⟨d, hd⟩ | hd
    · refine Or.inl ⟨d, ?_⟩
      simp [primary, sees, h4, ht, hd, bind]
    · refine Or.inr ⟨.mk 1 0 u.num [] [] u.place, m, ?_, ?_, h⟩
      · simp [primary, sees, h4, ht, hd, bind, need, needK, h5, ht5]
      · simp [ExR, Ex.er, a.num]
  | cons a h =>
    rename_i t u l m
    have hs : ∀ k x, sees k x (u :: m) = sees k x (t :: l) := fun k x => by simp only [sees, a.kind, a.text]
    simp only [primary, hs, ← a.kind, ← a.text, ← a.num]
    split
    · exact (InsF.pure (ρ := ExR) (by simp [ExR, Ex.er]) h).e
    split
    · exact (InsF.pure (ρ := ExR) (by simp [ExR, Ex.er]) h).e
    split
    · exact (InsF.pure (ρ := ExR) (by simp [ExR, Ex.er]) h).e
    split
    · exact (InsF.pure (ρ := ExR) (by simp [ExR, Ex.er]) h).e
    split
    · rename_i hs4
      have a0 := sees4 hs4 hg
      exact (he _ _ a0.good h).bindE (fun _ _ _ _ hz _ => need_notnum hz) fun x y l1 m1 er es e1 h1 => (need_ins h1).bindE fun _ _ _ _ _ _ _ h2 => (InsF.pure (ρ := ExR) e1 h2).e
    · refine (name_ins (.cons a h)).bindE fun t1 u1 l1 m1 er es e1 h1 => ?_
      have a1 := (name_res hg).ok _ _ er
      have b1 := (name_res hgm).ok _ _ es
      intro x l' hx hl'
      have hnn : notnum l1 := by
        split at hx
        · rename_i hs4; exact sees_notnum hs4 (by decide)
        · simp at hx; rw [hx.2]; exact hl'
      rw [h1.seesN 4 _ (by decide) hnn]
      split at hx
      · rename_i hs4
        rw [if_pos hs4]
        obtain ⟨hs5, ht⟩ := h1.yes hs4 (by decide)
        have a2 := sees4 hs4 a1.good
        have b2 := sees4 hs5 b1.good
        have := a2.less; have := b2.less
        exact ((items_ins (g := Ex.er) he hok _ _ _ _ rfl _ _ a2.good ht (by omega) _ (by omega)).bindE fun xs ys _ _ _ _ e2 h2 => (InsF.pure (ρ := ExR) (by rw [e1.text]; exact er_list e2) h2).e) x l' hx hl'
      · rename_i hs4
        rw [if_neg hs4]
        exact (InsF.pure (ρ := ExR) (by simp [ExR, Ex.er, e1.text]) h1).e x l' hx hl'
theorem unary_ins : ∀ k, InsP ExR (unary k)
  | 0 => fun _ _ _ _ => .fail
  | k + 1 => by
    intro l m hg h
    have hgm := h.good hg
    simp only [unary]
    rw [h.sees 4 _ (by decide) (by decide), h.sees 4 _ (by decide) (by decide)]
    split
    · rename_i hs
      exact (unary_ins k _ _ (sees4 hs hg).good (h.yes hs (by decide)).2).bindE (fun _ _ _ _ hz hl => by simp at hz; rw [hz.2]; exact hl) fun x y _ _ _ _ e h1 => (InsF.pure (ρ := ExR) (er_one e) h1).e
    split
    · rename_i hs
      exact (unary_ins k _ _ (sees4 hs hg).good (h.yes hs (by decide)).2).bindE (fun _ _ _ _ hz hl => by simp at hz; rw [hz.2]; exact hl) fun x y _ _ _ _ e h1 => (InsF.pure (ρ := ExR) (er_one e) h1).e
    · have hok := lvl_ok (unary_ok k)
      have hi := lvl_ins (unary_ins k) (unary_ok k)
      refine (primary_ins hi hok (lvl_wraps (unary_wraps k)) _ _ hg h).bindE (fun _ _ _ _ hz hl => ats_notnum hz hl) fun x y l1 m1 er es e h1 => ?_
      exact ats_ins hi hok _ _ _ e _ _ ((primary_ok hok _ hg).ok _ _ er).good h1 (Nat.lt_succ_self _) _ (Nat.lt_succ_self _)
theorem expr_ins (k : Nat) : InsP ExR (expr k) := lvl_ins (unary_ins k) (unary_ok k)
theorem opt_ins {e : P Ex} (he : InsP ExR e) (hok : Ok e) : InsQ ExsR (opt e) := by
  intro l m hg h
  have hgm := h.good hg
  unfold opt
  rw [h.sees 4 _ (by decide) (by decide)]
  split
  · rename_i hs
    exact (he _ _ (sees4 hs hg).good (h.yes hs (by decide)).2).bindF (fun _ _ _ hz => need_notnum hz) fun x y _ _ _ _ e1 h1 => (need_ins h1).bindF fun _ _ _ _ _ _ _ h2 => .pure (by simp [ExsR, e1]) h2
  · exact .pure rfl h
theorem other_ins {b : P (List St)} (hb : InsQ StsR b) : InsQ StsR (other b) := by
  intro l m hg h
  unfold other
  rw [h.sees 1 _ (by decide) (by decide)]
  split
  · rename_i hs
    exact hb _ _ (sees1 hs hg).good (h.yes hs (by decide)).2
  · exact .pure rfl h
/-- A part that begins with no number. -/
def NoNum {α : Type} (q : P α) : Prop := ∀ l z, q l = .inl z → notnum l
theorem block_nonum : ∀ k, NoNum (block k)
  | 0, l, z, h => by simp [block, Px.fail] at h
  | k + 1, l, z, h => need_notnum h
theorem bind_nonum {α β : Type} {q : P α} (hq : NoNum q) {l : List Tok} {f : α → List Tok → R β} {z : β × List Tok} (h : bind (q l) f = .inl z) : notnum l := by
  obtain ⟨x, l1, h1, _⟩ := bind_inl h
  exact hq l _ h1
theorem stmt_ins {e : P Ex} {b : P (List St)} (he : InsP ExR e) (hok : Ok e) (hb : InsQ StsR b) (hbo : Ok b) (hbn : NoNum b) : InsQ StR (stmt e b) := by
  intro l m hg h
  have hgm := h.good hg
  simp only [stmt]
  rw [h.sees 1 _ (by decide) (by decide), h.sees 1 _ (by decide) (by decide), h.sees 1 _ (by decide) (by decide), h.sees 1 _ (by decide) (by decide), h.sees 1 _ (by decide) (by decide), h.sees 1 _ (by decide) (by decide)]
  split
  · rename_i hs
    have g0 := (sees1 hs hg).good
    refine (name_ins (h.yes hs (by decide)).2).bindF fun _ _ _ _ r0 _ e0 h0 => (need_ins h0).bindF fun _ _ _ _ r1 _ _ h1 => ?_
    have g1 := ((name_res g0).ok _ _ r0).good
    have g2 := ((need_res g1).ok _ _ r1).good
    exact (he _ _ g2 h1).bindF (fun _ _ _ hz => need_notnum hz) fun _ _ _ _ _ _ e2 h2 => (need_ins h2).bindF fun _ _ _ _ _ _ _ h3 => .pure (er_st e0.text (by simp [e2]) rfl rfl) h3
  split
  · rename_i hs
    have g0 := (sees1 hs hg).good
    refine (name_ins (h.yes hs (by decide)).2).bindF fun _ _ _ _ r0 _ e0 h0 => ?_
    have g1 := ((name_res g0).ok _ _ r0).good
    refine (opt_ins he hok _ _ g1 h0).bindF fun _ _ _ _ r1 _ e1 h1 => ?_
    have g2 := ((opt_res hok g1).ok _ _ r1).good
    refine (need_ins h1).bindF fun _ _ _ _ r2 _ _ h2 => ?_
    have g3 := ((need_res g2).ok _ _ r2).good
    exact (he _ _ g3 h2).bindF (fun _ _ _ hz => need_notnum hz) fun _ _ _ _ _ _ e3 h3 => (need_ins h3).bindF fun _ _ _ _ _ _ _ h4 => .pure (er_st e0.text (by simp [e1, e3]) rfl rfl) h4
  split
  · rename_i hs
    have g0 := (sees1 hs hg).good
    refine (name_ins (h.yes hs (by decide)).2).bindF fun _ _ _ _ r0 _ e0 h0 => (need_ins h0).bindF fun _ _ _ _ r1 _ _ h1 => ?_
    have g1 := ((name_res g0).ok _ _ r0).good
    have g2 := ((need_res g1).ok _ _ r1).good
    exact (he _ _ g2 h1).bindF (fun _ _ _ hz => need_notnum hz) fun _ _ _ _ _ _ e2 h2 => (need_ins h2).bindF fun _ _ _ _ _ _ _ h3 => (need_ins h3).bindF fun _ _ _ _ _ _ _ h4 => .pure (er_st e0.text (by simp [e2]) rfl rfl) h4
  split
  · rename_i hs
    have g0 := (sees1 hs hg).good
    refine (he _ _ g0 (h.yes hs (by decide)).2).bindF (fun _ _ _ hz => bind_nonum hbn hz) fun _ _ _ _ r0 _ e0 h0 => ?_
    have g1 := ((hok _ g0).ok _ _ r0).good
    refine (hb _ _ g1 h0).bindF fun _ _ _ _ r1 _ e1 h1 => ?_
    have g2 := ((hbo _ g1).ok _ _ r1).good
    exact (other_ins hb _ _ g2 h1).bindF fun _ _ _ _ _ _ e2 h2 => .pure (er_st rfl (by simp [e0]) e1 e2) h2
  split
  · rename_i hs
    have g0 := (sees1 hs hg).good
    refine (name_ins (h.yes hs (by decide)).2).bindF fun _ _ _ _ r0 _ e0 h0 => (needK_ins h0 (by decide)).bindF fun _ _ _ _ r1 _ _ h1 => ?_
    have g1 := ((name_res g0).ok _ _ r0).good
    have g2 := ((needK_res g1 (by decide)).ok _ _ r1).good
    refine (he _ _ g2 h1).bindF (fun _ _ _ hz => bind_nonum hbn hz) fun _ _ _ _ r2 _ e2 h2 => ?_
    have g3 := ((hok _ g2).ok _ _ r2).good
    exact (hb _ _ g3 h2).bindF fun _ _ _ _ _ _ e3 h3 => .pure (er_st e0.text (by simp [e2]) e3 rfl) h3
  split
  · rename_i hs
    have g0 := (sees1 hs hg).good
    exact (he _ _ g0 (h.yes hs (by decide)).2).bindF (fun _ _ _ hz => need_notnum hz) fun _ _ _ _ _ _ e0 h0 => (need_ins h0).bindF fun _ _ _ _ _ _ _ h1 => .pure (er_st rfl (by simp [e0]) rfl rfl) h1
  · exact .fail
theorem stmts_ins {q : P St} (hq : InsQ StR q) (hok : Ok q) : ∀ (f : Nat) (a b : List St), a.map St.er = b.map St.er → ∀ l m, Good l → Ins l m → l.length < f → ∀ f', m.length < f' → InsF StsR (stmts q f a l) (stmts q f' b m)
  | 0, _, _, _, _, _, _, _, h, _, _ => by omega
  | f + 1, a, b, hab, l, m, hg, h, hf, 0, hf' => by omega
  | f + 1, a, b, hab, l, m, hg, h, hf, f' + 1, hf' => by
    have hgm := h.good hg
    simp only [stmts]
    rw [h.sees 4 _ (by decide) (by decide)]
    split
    · rename_i hs; exact .pure hab (h.yes hs (by decide)).2
    · refine (hq _ _ hg h).bindF fun x y l1 m1 er es e h1 => ?_
      have a1 := (hok _ hg).ok _ _ er
      have b1 := (hok _ hgm).ok _ _ es
      have := a1.less; have := b1.less
      exact stmts_ins hq hok f _ _ (by simp [hab, e]) _ _ a1.good h1 (by omega) f' (by omega)
theorem block_ins : ∀ k, InsQ StsR (block k)
  | 0 => fun _ _ _ _ => .fail
  | k + 1 => fun l m hg h => (need_ins h).bindF fun _ _ _ _ r0 _ _ h1 => by
    have g1 := ((need_res hg).ok _ _ r0).good
    exact stmts_ins (stmt_ins (expr_ins k) (expr_ok k) (block_ins k) (block_ok k) (block_nonum k)) (stmt_ok (expr_ok k) (block_ok k)) _ _ _ rfl _ _ g1 h1 (Nat.lt_succ_self _) _ (Nat.lt_succ_self _)
theorem function_ins (on : Bool) : InsQ (fun x y => x.er = y.er) (function on) := fun l m hg h =>
  (name_ins h).bindF fun _ _ _ _ r0 _ e0 h0 => (need_ins h0).bindF fun _ _ _ _ r1 _ _ h1 => by
    have g0 := ((name_res hg).ok _ _ r0).good
    have g1 := ((need_res g0).ok _ _ r1).good
    refine (items_ins (g := Sl.er) (fun l m _ h => (slot_ins h).e) slot_ok _ _ _ _ rfl _ _ g1 h1 (Nat.lt_succ_self _) _ (Nat.lt_succ_self _)).bindF fun _ _ _ _ r2 _ e2 h2 => (need_ins h2).bindF fun _ _ _ _ r3 _ _ h3 => (typ_ins 4 h3).bindF fun _ _ _ _ r4 _ e4 h4 => ?_
    have g2 := ((items_res slot_ok _ _ _ _ g1 (Nat.lt_succ_self _)).ok _ _ r2).good
    have g3 := ((need_res g2).ok _ _ r3).good
    have g4 := ((typ_ok 4 _ g3).ok _ _ r4).good
    exact (block_ins 24 _ _ g4 h4).bindF fun _ _ _ _ _ _ e5 h5 => .pure (by simp [Fn.er, e0.text, e2, e4, ersS_map, e5]) h5
theorem parts_ins : ∀ (f : Nat) (p q : Pr), p.er = q.er → ∀ l m, Good l → Ins l m → l.length < f → ∀ f', m.length < f' → InsF (fun x y => x.er = y.er) (parts f p l) (parts f' q m)
  | 0, _, _, _, _, _, _, _, h, _, _ => by omega
  | f + 1, p, q, hpq, l, m, hg, h, hf, 0, hf' => by omega
  | f + 1, p, q, hpq, l, m, hg, h, hf, f' + 1, hf' => by
    have hgm := h.good hg
    cases h with
    | nil => exact absurd hg (by simp [Good])
    | wrap h2 =>
      simp only [parts, sees, h2]
      exact .fail
    | cons ht h =>
      rename_i t u l m
      have hs : ∀ k x, sees k x (u :: m) = sees k x (t :: l) := fun k x => by simp only [sees, ht.kind, ht.text]
      have hp : p.version = q.version ∧ p.states.map Sl.er = q.states.map Sl.er ∧ p.fns.map Fn.er = q.fns.map Fn.er := by simpa [Pr.er] using hpq
      simp only [List.length_cons] at hf hf'
      simp only [parts, hs, ← ht.kind]
      split
      · exact .pure hpq (.cons ht h)
      rename_i hk
      have gl := hg.tail hk
      have gm := hgm.tail (by rw [← ht.kind]; exact hk)
      split
      · refine (slot_ins h).bindF fun _ _ _ _ r0 s0 e0 h0 => (need_ins h0).bindF fun _ _ _ _ r1 s1 _ h1 => ?_
        have a0 := (slot_ok _ gl).ok _ _ r0
        have a1 := (need_res a0.good).ok _ _ r1
        have b0 := (slot_ok _ gm).ok _ _ s0
        have b1 := (need_res b0.good).ok _ _ s1
        have := a0.less; have := a1.less; have := b0.less; have := b1.less
        exact parts_ins f _ _ (by simp [Pr.er, hp.1, hp.2.1, hp.2.2, e0]) _ _ a1.good h1 (by omega) f' (by omega)
      split
      · refine (function_ins _ _ _ gl h).bindF fun _ _ _ _ r0 s0 e0 h0 => ?_
        have a0 := (function_ok _ _ gl).ok _ _ r0
        have b0 := (function_ok _ _ gm).ok _ _ s0
        have := a0.less; have := b0.less
        exact parts_ins f _ _ (by simp [Pr.er, hp.1, hp.2.1, hp.2.2, e0]) _ _ a0.good h0 (by omega) f' (by omega)
      split
      · refine (function_ins _ _ _ gl h).bindF fun _ _ _ _ r0 s0 e0 h0 => ?_
        have a0 := (function_ok _ _ gl).ok _ _ r0
        have b0 := (function_ok _ _ gm).ok _ _ s0
        have := a0.less; have := b0.less
        exact parts_ins f _ _ (by simp [Pr.er, hp.1, hp.2.1, hp.2.2, e0]) _ _ a0.good h0 (by omega) f' (by omega)
      · exact .fail
/-- Whole programs: brackets around numbers behind the version's. -/
theorem program_ins {t0 t1 u0 u1 : Tok} {l m : List Tok} (h0 : TS t0 u0) (h1 : TS t1 u1) (h : Ins l m) (hg : Good (t0 :: t1 :: l)) : InsF (fun x y => x.er = y.er) (program (t0 :: t1 :: l)) (program (u0 :: u1 :: m)) := by
  refine (needK_ins (.cons h0 (.cons h1 h)) (by decide)).bindF fun _ _ l1 m1 r0 s0 _ _ => ?_
  have e1 : l1 = t1 :: l := by
    unfold needK at r0; split at r0
    · simp at r0; exact r0.symm
    · simp [Px.fail] at r0
  have e2 : m1 = u1 :: m := by
    unfold needK at s0; split at s0
    · simp at s0; exact s0.symm
    · simp [Px.fail] at s0
  subst e1; subst e2
  have g0 := ((needK_res hg (by decide)).ok _ _ r0).good
  have hnum : InsF EqR (number (t1 :: l)) (number (u1 :: m)) := by
    simp only [number, ← h1.kind, ← h1.num]
    split
    · exact .pure rfl h
    · exact .fail
  refine hnum.bindF fun _ _ _ _ r1 _ e1 h2 => (need_ins h2).bindF fun _ _ _ _ r2 _ _ h3 => ?_
  have g1 := ((number_res g0).ok _ _ r1).good
  have g2 := ((need_res g1).ok _ _ r2).good
  exact parts_ins _ _ _ (by simp [Pr.er, e1]) _ _ g2 h3 (Nat.lt_succ_self _) _ (Nat.lt_succ_self _)
end Go.Proofs.YtnmdnjdibdmodaaGreatDoor.Px
