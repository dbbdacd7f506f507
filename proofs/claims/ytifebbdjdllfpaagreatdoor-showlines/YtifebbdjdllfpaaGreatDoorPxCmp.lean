/- A compare that leaves a second comparing mark to whoever comes next: the same faults at the same places. Plain mathematics. -/
import Derived.Test.YtifebbdjdllfpaaGreatDoorPx
namespace Go.Proofs.YtifebbdjdllfpaaGreatDoor.Px
open Go.Proofs.YtifebbdjdllfpaaGreatDoor.Lx (Tok B)
set_option linter.unusedVariables false

def isCmp : List Tok → Bool
  | t :: _ => (levelOf t).1 == 3
  | [] => false
/-- What is answered with a comparing mark behind it is a fault there. -/
def guard {α : Type} (r : R α) : R α :=
  match r with
  | .inl (x, l) => if isCmp l then fail 31 l else .inl (x, l)
  | .inr f => .inr f
def GE (e e' : P Ex) : Prop := ∀ l, Good l → e l = guard (e' l)
def cmp (q : P Ex) (l : List Tok) : R Ex := bind (q l) fun x l1 =>
  match l1 with
  | t :: r => if (levelOf t).1 = 3 then bind (q r) fun y l2 => .inl (.mk 15 (levelOf t).2 0 [] [x, y] t.place, l2) else .inl (x, t :: r)
  | [] => .inr (0, 0)
def lvl' (q : P Ex) : P Ex := level 1 (level 2 (cmp (level 4 (level 5 q))))
def expr' (k : Nat) : P Ex := lvl' (unary k)

theorem level_kind {t : Tok} (h : (levelOf t).1 ≠ 0) : t.kind = 4 := by
  by_cases hk : t.kind = 4
  · exact hk
  · exfalso; apply h; unfold levelOf; rw [if_neg hk]
theorem isCmp_cases {l : List Tok} (h : isCmp l = true) : ∃ t r, l = t :: r ∧ (levelOf t).1 = 3 := by
  match l, h with
  | t :: r, h => exact ⟨t, r, rfl, by simpa [isCmp] using h⟩
theorem isCmp_no {t : Tok} {r : List Tok} (h : isCmp (t :: r) = false) : (levelOf t).1 ≠ 3 := by simpa [isCmp] using h
theorem isCmp_yes {t : Tok} {r : List Tok} (h : isCmp (t :: r) = true) : (levelOf t).1 = 3 := by simpa [isCmp] using h
theorem level_text {t : Tok} {a b : Nat} (x : B) (hx : (levelOf (⟨4, x, 0, 0⟩ : Tok)).1 ≠ 3) (h : (levelOf t).1 = 3) : ¬ t.text = x := by
  intro he
  have hk := level_kind (t := t) (by omega)
  apply hx
  rw [← h]
  unfold levelOf
  simp only [hk, he]
theorem need_cmp {l : List Tok} {x : B} (hx : (levelOf (⟨4, x, 0, 0⟩ : Tok)).1 ≠ 3) (h : isCmp l = true) : need x l = fail 31 l := by
  obtain ⟨t, r, rfl, h3⟩ := isCmp_cases h
  have := level_text (a := 0) (b := 0) x hx h3
  unfold need needK
  rw [if_neg (by simp [sees, this])]
theorem sees_cmp {l : List Tok} {k : Nat} {x : B} (hx : (levelOf (⟨4, x, 0, 0⟩ : Tok)).1 ≠ 3) (h : isCmp l = true) : sees k x l = false := by
  obtain ⟨t, r, rfl, h3⟩ := isCmp_cases h
  have := level_text (a := 0) (b := 0) x hx h3
  simp [sees, this]
theorem guard_bind {α β : Type} {r : R α} {f g : α → List Tok → R β} (h1 : ∀ x l, r = .inl (x, l) → isCmp l = true → g x l = fail 31 l) (h2 : ∀ x l, r = .inl (x, l) → isCmp l = false → f x l = g x l) : bind (guard r) f = bind r g := by
  match r, h1, h2 with
  | .inr e, _, _ => rfl
  | .inl (x, l), h1, h2 =>
    simp only [guard]
    rcases hc : isCmp l with _ | _
    · simp only [Bool.false_eq_true, if_false, bind]; exact h2 x l rfl hc
    · simp only [if_true]
      show (fail 31 l : R β) = _
      simp only [bind]; exact (h1 x l rfl hc).symm

theorem cmp_ok {q : P Ex} (hq : Ok q) : Ok (cmp q) := fun l hg => (hq l hg).bind1 fun x l1 _ a1 => by
  match l1, a1 with
  | [], a1 => exact absurd a1.good (by simp [Good])
  | t :: r, a1 =>
    simp only
    split
    · rename_i h
      have hk := level_kind (t := t) (by omega)
      have hgr := a1.good.tail (by omega)
      have a0 : Adv 1 (t :: r) r := ⟨hgr, List.suffix_cons _ _, by simp⟩
      exact (Res.after a0 ((hq r hgr).weak.bind0 fun y l2 _ a2 => Res.here a2.good)).weak
    · exact Res.here a1.good
theorem lvl'_ok {q : P Ex} (hq : Ok q) : Ok (lvl' q) := level_ok (level_ok (cmp_ok (level_ok (level_ok hq (by decide)) (by decide))) (by decide)) (by decide)
theorem expr'_ok (k : Nat) : Ok (expr' k) := lvl'_ok (unary_ok k)

theorem level3_ge {q : P Ex} (hq : Ok q) : GE (level 3 q) (cmp q) := by
  intro l hg
  unfold level cmp
  rcases h : q l with ⟨x, l1⟩ | f
  · have a1 := (hq l hg).ok x l1 h
    match l1, a1 with
    | [], a1 => exact absurd a1.good (by simp [Good])
    | t :: r, a1 =>
      simp only [bind, chain, List.length_cons]
      by_cases hl : (levelOf t).1 = 3
      · rw [if_pos hl, if_pos hl, if_neg (by omega)]
        have hk := level_kind (t := t) (by omega)
        have hgr := a1.good.tail (by omega)
        rcases h2 : q r with ⟨y, l2⟩ | f
        · have a2 := (hq r hgr).ok y l2 h2
          match l2, a2 with
          | [], a2 => exact absurd a2.good (by simp [Good])
          | u :: v, a2 =>
            simp only [bind, chain, guard]
            by_cases h3 : (levelOf u).1 = 3
            · rw [if_pos h3, if_pos ⟨trivial, by omega⟩, if_pos (show isCmp (u :: v) = true by simpa [isCmp] using h3)]
            · rw [if_neg h3, if_neg (show ¬ isCmp (u :: v) = true by simpa [isCmp] using h3)]
        · rfl
      · rw [if_neg hl, if_neg hl]
        simp only [guard]
        rw [if_neg (show ¬ isCmp (t :: r) = true by simpa [isCmp] using hl)]
  · rfl
theorem chain_cmp {n : Nat} {q : P Ex} (hn : n ≠ 3) {f c : Nat} {acc : Ex} {l : List Tok} (h : isCmp l = true) (hf : 0 < f) : chain n q f c acc l = .inl (acc, l) := by
  obtain ⟨t, r, rfl, h3⟩ := isCmp_cases h
  match f, hf with
  | f + 1, _ => simp only [chain]; rw [if_neg (by omega)]
theorem chain_ge {n : Nat} {q q' : P Ex} (hn : n ≠ 3) (hn0 : 0 < n) (hq : Ok q') (hge : GE q q') : ∀ (f c : Nat) (acc : Ex) (l : List Tok), Good l → l.length < f → isCmp l = false → chain n q f c acc l = guard (chain n q' f c acc l)
  | 0, _, _, _, _, h, _ => by omega
  | f + 1, c, acc, [], hg, h, _ => by exact absurd hg (by simp [Good])
  | f + 1, c, acc, t :: r, hg, h, hc => by
    simp only [chain]
    by_cases hl : (levelOf t).1 = n
    · rw [if_pos hl, if_pos hl, if_neg (by omega), if_neg (by omega)]
      have hk := level_kind (t := t) (by omega)
      have hgr := hg.tail (by omega)
      rw [hge r hgr]
      rcases h2 : q' r with ⟨x, l1⟩ | e
      · have a2 := (hq r hgr).ok x l1 h2
        have hlen := a2.less
        simp only [List.length_cons] at h
        rcases hc1 : isCmp l1 with _ | _
        · simp only [guard, hc1, bind, Bool.false_eq_true, if_false]
          exact chain_ge hn hn0 hq hge f (c + 1) _ l1 a2.good (by omega) hc1
        · simp only [bind]
          rw [chain_cmp hn hc1 (by omega)]
          simp only [guard, hc1, if_true]
          rfl
      · rfl
    · rw [if_neg hl, if_neg hl]
      simp only [guard, hc, Bool.false_eq_true, if_false]
theorem level_ge {n : Nat} {q q' : P Ex} (hn : n ≠ 3) (hn0 : 0 < n) (hq : Ok q') (hge : GE q q') : GE (level n q) (level n q') := by
  intro l hg
  unfold level
  rw [hge l hg]
  rcases h2 : q' l with ⟨x, l1⟩ | e
  · have a2 := (hq l hg).ok x l1 h2
    rcases hc1 : isCmp l1 with _ | _
    · simp only [guard, hc1, bind, Bool.false_eq_true, if_false]
      exact chain_ge hn hn0 hq hge _ _ _ l1 a2.good (by omega) hc1
    · simp only [bind]
      rw [chain_cmp hn hc1 (by omega)]
      simp only [guard, hc1, if_true]
      rfl
  · rfl
theorem lvl_ge {q : P Ex} (hq : Ok q) : GE (lvl q) (lvl' q) := by
  have h5 := level_ok hq (n := 5) (by decide)
  have h4 := level_ok h5 (n := 4) (by decide)
  have h3 := cmp_ok h4
  have g3 := level3_ge h4
  have h2 := level_ok h3 (n := 2) (by decide)
  exact level_ge (by decide) (by decide) h2 (level_ge (by decide) (by decide) h3 g3)
theorem expr_ge (k : Nat) : GE (expr k) (expr' k) := lvl_ge (unary_ok k)

/-- An expr with a token behind it that must be there. -/
theorem then_need {β : Type} {e e' : P Ex} (hge : GE e e') {l : List Tok} (hg : Good l) {x : B} (hx : (levelOf (⟨4, x, 0, 0⟩ : Tok)).1 ≠ 3) (f : Ex → Unit → List Tok → R β) :
    (bind (e l) fun a l1 => bind (need x l1) fun u l2 => f a u l2) = bind (e' l) fun a l1 => bind (need x l1) fun u l2 => f a u l2 := by
  rw [hge l hg]
  exact guard_bind (fun a l1 _ hc => by rw [need_cmp hx hc]; rfl) (fun _ _ _ _ => rfl)
theorem bind_congr {α β : Type} {r : R α} {f g : α → List Tok → R β} (h : ∀ x l, r = .inl (x, l) → f x l = g x l) : bind r f = bind r g := by
  match r, h with
  | .inr e, _ => rfl
  | .inl (x, l), h => exact h x l rfl
theorem ats_ge {e e' : P Ex} (he : Ok e') (hge : GE e e') : ∀ (f : Nat) (acc : Ex) (l : List Tok), Good l → ats e f acc l = ats e' f acc l
  | 0, _, _, _ => rfl
  | f + 1, acc, l, hg => by
    simp only [ats]
    split
    · rename_i hs
      have a := sees4 hs hg
      rw [then_need hge a.good (by decide)]
      exact bind_congr fun x l1 h1 => bind_congr fun u l2 h2 => ats_ge he hge f _ l2 (((need_res ((he _ a.good).ok x l1 h1).good).ok u l2 h2).good)
    · rfl
theorem items_ge {e e' : P Ex} (he : Ok e') (hge : GE e e') : ∀ (f n : Nat) (acc : List Ex) (l : List Tok), Good l → l.length < f → items e f n acc l = items e' f n acc l
  | 0, _, _, _, _, h => by omega
  | f + 1, n, acc, l, hg, h => by
    simp only [items]
    split
    · rfl
    · refine bind_congr fun u l1 h1 => ?_
      have a1 := (sep_res hg).ok u l1 h1
      rw [hge l1 a1.good]
      refine guard_bind (fun x l2 h2 hc => ?_) (fun x l2 h2 hc => ?_)
      · have a2 := (he l1 a1.good).ok x l2 h2
        have := a1.less; have := a2.less
        match f, (show 0 < f by omega) with
        | f + 1, _ =>
          simp only [items]
          rw [if_neg (by rw [sees_cmp (by decide) hc]; simp), sep, if_neg (by omega), need_cmp (by decide) hc]
          rfl
      · have a2 := (he l1 a1.good).ok x l2 h2
        have := a1.less; have := a2.less
        exact items_ge he hge f (n + 1) _ l2 a2.good (by omega)
theorem primary_ge {e e' : P Ex} (he : Ok e') (hge : GE e e') {l : List Tok} (hg : Good l) : primary e l = primary e' l := by
  match l, hg with
  | t :: r, hg =>
    simp only [primary]
    split
    · rfl
    split
    · rfl
    split
    · rfl
    split
    · rfl
    split
    · rename_i h
      have a := sees4 h hg
      exact then_need hge a.good (by decide) _
    · refine bind_congr fun t1 l1 h1 => ?_
      have a1 := (name_res hg).ok t1 l1 h1
      split
      · rename_i h
        have a := sees4 h a1.good
        rw [items_ge he hge _ _ _ _ a.good (by have := a.less; omega)]
      · rfl
/-- A unary, as it is read. -/
theorem unary_as {k : Nat} {l : List Tok} (hg : Good l) : unary (k + 1) l =
    if sees 4 [45] l then bind (unary k l.tail) fun x l1 => .inl (.mk 13 0 0 [] [x] (place l), l1)
    else if sees 4 [33] l then bind (unary k l.tail) fun x l1 => .inl (.mk 14 0 0 [] [x] (place l), l1)
    else bind (primary (expr' k) l) fun x l1 => ats (expr' k) (l1.length + 1) x l1 := by
  simp only [unary]
  split
  · rfl
  split
  · rfl
  · show (bind (primary (expr k) l) fun x l1 => ats (expr k) (l1.length + 1) x l1) = _
    rw [primary_ge (expr'_ok k) (expr_ge k) hg]
    exact bind_congr fun x l1 h1 => ats_ge (expr'_ok k) (expr_ge k) _ _ _ ((primary_ok (expr'_ok k) l hg).ok x l1 h1).good
theorem unary0 (l : List Tok) : unary 0 l = fail 32 l := rfl
theorem expr'_zero (l : List Tok) : expr' 0 l = fail 32 l := rfl
theorem opt_ge {e e' : P Ex} (hge : GE e e') {l : List Tok} (hg : Good l) : opt e l = opt e' l := by
  unfold opt; split
  · rename_i h
    exact then_need hge (sees4 h hg).good (by decide) _
  · rfl
/-- An expr with a block behind it. -/
theorem then_block {β : Type} {k : Nat} {l : List Tok} (hg : Good l) (f : Ex → List St → List Tok → R β) :
    (bind (expr k l) fun x l1 => bind (block k l1) fun b l2 => f x b l2) = bind (expr' k l) fun x l1 => bind (block k l1) fun b l2 => f x b l2 := by
  rw [expr_ge k l hg]
  refine guard_bind (fun a l1 h1 hc => ?_) (fun _ _ _ _ => rfl)
  match k, h1 with
  | 0, h1 => rw [expr'_zero] at h1; simp [fail] at h1
  | k + 1, h1 => simp only [block]; rw [need_cmp (by decide) hc]; rfl
theorem stmt_as {k : Nat} {l : List Tok} (hg : Good l) : stmt (expr k) (block k) l = stmt (expr' k) (block k) l := by
  unfold stmt
  split
  · rename_i h
    have a := sees1 h hg
    exact bind_congr fun t l1 h1 => bind_congr fun u l2 h2 => then_need (expr_ge k) (((need_res ((name_res a.good).ok t l1 h1).good).ok u l2 h2).good) (by decide) _
  split
  · rename_i h
    have a := sees1 h hg
    refine bind_congr fun t l1 h1 => ?_
    have a1 := (name_res a.good).ok t l1 h1
    rw [opt_ge (expr_ge k) a1.good]
    refine bind_congr fun xs l2 h2 => bind_congr fun u l3 h3 => ?_
    have a2 := (opt_res (expr'_ok k) a1.good).ok xs l2 h2
    exact then_need (expr_ge k) (((need_res a2.good).ok u l3 h3).good) (by decide) _
  split
  · rename_i h
    have a := sees1 h hg
    exact bind_congr fun t l1 h1 => bind_congr fun u l2 h2 => then_need (expr_ge k) (((need_res ((name_res a.good).ok t l1 h1).good).ok u l2 h2).good) (by decide) _
  split
  · rename_i h
    have a := sees1 h hg
    exact then_block a.good _
  split
  · rename_i h
    have a := sees1 h hg
    exact bind_congr fun t l1 h1 => bind_congr fun u l2 h2 => then_block (((needK_res ((name_res a.good).ok t l1 h1).good (by decide)).ok u l2 h2).good) _
  split
  · rename_i h
    have a := sees1 h hg
    exact then_need (expr_ge k) a.good (by decide) _
  · rfl
theorem stmts_congr {q q' : P St} (hq : Ok q) (h : ∀ l, Good l → q l = q' l) : ∀ (f : Nat) (acc : List St) (l : List Tok), Good l → stmts q f acc l = stmts q' f acc l
  | 0, _, _, _ => rfl
  | f + 1, acc, l, hg => by
    simp only [stmts]
    split
    · rfl
    · rw [← h l hg]
      exact bind_congr fun s l1 h1 => stmts_congr hq h f _ l1 ((hq l hg).ok s l1 h1).good
theorem block_as {k : Nat} {l : List Tok} (hg : Good l) : block (k + 1) l = bind (need [123] l) fun _ l1 => stmts (stmt (expr' k) (block k)) (l1.length + 1) [] l1 := by
  simp only [block]
  exact bind_congr fun u l1 h1 => stmts_congr (stmt_ok (expr_ok k) (block_ok k)) (fun l hg => stmt_as hg) _ _ _ ((need_res hg).ok u l1 h1).good
theorem stmt'_ok (k : Nat) : Ok (stmt (expr' k) (block k)) := stmt_ok (expr'_ok k) (block_ok k)
end Go.Proofs.YtifebbdjdllfpaaGreatDoor.Px
