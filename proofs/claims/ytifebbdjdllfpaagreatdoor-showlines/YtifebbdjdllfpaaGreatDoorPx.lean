/- Tokens as programs, in plain mathematics: what the document's grammar answers, by recursion over depth and over the tokens that are left. Nothing of the model is in this text. -/
import Derived.Test.YtifebbdjdllfpaaGreatDoorLex
namespace Go.Proofs.YtifebbdjdllfpaaGreatDoor.Px
open Go.Proofs.YtifebbdjdllfpaaGreatDoor.Lx (Tok B)
set_option linter.unusedVariables false

inductive Ex where
  | mk (kind op num : Nat) (text : B) (args : List Ex) (place : Nat)
structure Sl where
  name : B
  type : B
  place : Nat
inductive St where
  | mk (kind : Nat) (name : B) (es : List Ex) (body other : List St) (place : Nat)
structure Fn where
  name : B
  on : Bool
  params : List Sl
  result : B
  body : List St
  place : Nat
structure Pr where
  version : Nat
  states : List Sl
  fns : List Fn

/-- What is answered of a part: it, and the tokens behind it; or a fault's place, and which. -/
abbrev R (α : Type) := (α × List Tok) ⊕ (Nat × Nat)
abbrev P (α : Type) := List Tok → R α
def place : List Tok → Nat
  | t :: _ => t.place
  | [] => 0
def fail {α : Type} (e : Nat) (l : List Tok) : R α := .inr (place l, e)
def bind {α β : Type} (r : R α) (f : α → List Tok → R β) : R β :=
  match r with
  | .inl (x, l) => f x l
  | .inr e => .inr e
def sees (k : Nat) (x : B) : List Tok → Bool
  | t :: _ => t.kind == k && t.text == x
  | [] => false
def words : List B := [[118, 101, 114, 115, 105, 111, 110], [115, 116, 97, 116, 101], [102, 110], [111, 110], [108, 101, 116], [115, 101, 116], [100, 101, 108], [105, 102], [101, 108, 115, 101], [102, 111, 114], [116, 111], [114, 101, 116], [116, 114, 117, 101], [102, 97, 108, 115, 101], [105, 110, 116], [98, 111, 111, 108], [116, 101, 120, 116]]
def reserved (x : B) : Bool := words.contains x
def needK (k : Nat) (x : B) (l : List Tok) : R Unit := if sees k x l then .inl ((), l.tail) else fail 31 l
def need (x : B) (l : List Tok) : R Unit := needK 4 x l
def name (l : List Tok) : R Tok :=
  match l with
  | t :: r => if t.kind = 1 ∧ reserved t.text = false then .inl (t, r) else fail 31 l
  | [] => fail 31 l
def number (l : List Tok) : R Nat :=
  match l with
  | t :: r => if t.kind = 2 then .inl (t.num, r) else fail 31 l
  | [] => fail 31 l
def key (l : List Tok) : R B := if sees 1 [105, 110, 116] l then .inl ([105, 110, 116], l.tail) else if sees 1 [116, 101, 120, 116] l then .inl ([116, 101, 120, 116], l.tail) else fail 31 l
/-- A type; the first number: how many depths are left. -/
def typ : Nat → P B
  | 0, l => fail 32 l
  | k + 1, l =>
    if sees 1 [105, 110, 116] l then .inl ([105, 110, 116], l.tail)
    else if sees 1 [98, 111, 111, 108] l then .inl ([98, 111, 111, 108], l.tail)
    else if sees 1 [116, 101, 120, 116] l then .inl ([116, 101, 120, 116], l.tail)
    else if sees 4 [91] l then bind (typ k l.tail) fun t l1 => bind (need [93] l1) fun _ l2 => .inl ([91] ++ t ++ [93], l2)
    else if sees 4 [123] l then bind (key l.tail) fun a l1 => bind (need [58] l1) fun _ l2 => bind (typ k l2) fun t l3 => bind (need [125] l3) fun _ l4 => .inl ([123] ++ a ++ [58] ++ t ++ [125], l4)
    else fail 31 l
def slot (l : List Tok) : R Sl := bind (name l) fun t l1 => bind (need [58] l1) fun _ l2 => bind (typ 4 l2) fun y l3 => .inl (⟨t.text, y, t.place⟩, l3)
def sep (n : Nat) (l : List Tok) : R Unit := if n = 0 then .inl ((), l) else need [44] l
/-- Parts with commas between, up to a round bracket. -/
def items {α : Type} (q : P α) : Nat → Nat → List α → P (List α)
  | 0, _, _, _ => .inr (0, 0)
  | f + 1, n, acc, l => if sees 4 [41] l then .inl (acc, l.tail) else bind (sep n l) fun _ l1 => bind (q l1) fun x l2 => items q f (n + 1) (acc ++ [x]) l2

def levelOf (t : Tok) : Nat × Nat :=
  if t.kind = 4 then
    if t.text = [124, 124] then (1, 1) else if t.text = [38, 38] then (2, 2)
    else if t.text = [61, 61] then (3, 3) else if t.text = [33, 61] then (3, 4) else if t.text = [60] then (3, 5) else if t.text = [60, 61] then (3, 6) else if t.text = [62] then (3, 7) else if t.text = [62, 61] then (3, 8)
    else if t.text = [43] then (4, 9) else if t.text = [45] then (4, 10)
    else if t.text = [42] then (5, 11) else if t.text = [47] then (5, 12) else if t.text = [37] then (5, 13) else (0, 0)
  else (0, 0)
/-- Operators of a level, gathered from the left. -/
def chain (n : Nat) (q : P Ex) : Nat → Nat → Ex → P Ex
  | 0, _, _, _ => .inr (0, 0)
  | _ + 1, _, _, [] => .inr (0, 0)
  | f + 1, c, acc, t :: r =>
    if (levelOf t).1 = n then
      if n = 3 ∧ 0 < c then fail 31 (t :: r)
      else bind (q r) fun x l1 => chain n q f (c + 1) (.mk 15 (levelOf t).2 0 [] [acc, x] t.place) l1
    else .inl (acc, t :: r)
def level (n : Nat) (q : P Ex) (l : List Tok) : R Ex := bind (q l) fun x l1 => chain n q (l1.length + 1) 0 x l1
def lvl (q : P Ex) : P Ex := level 1 (level 2 (level 3 (level 4 (level 5 q))))
def ats (e : P Ex) : Nat → Ex → P Ex
  | 0, _, _ => .inr (0, 0)
  | f + 1, acc, l => if sees 4 [91] l then bind (e l.tail) fun x l1 => bind (need [93] l1) fun _ l2 => ats e f (.mk 12 0 0 [] [acc, x] (place l)) l2 else .inl (acc, l)
def primary (e : P Ex) (l : List Tok) : R Ex :=
  match l with
  | [] => fail 31 l
  | t :: r =>
    if t.kind = 2 then .inl (.mk 1 0 t.num [] [] t.place, r)
    else if t.kind = 3 then .inl (.mk 3 0 0 t.text [] t.place, r)
    else if sees 1 [116, 114, 117, 101] l then .inl (.mk 2 0 1 [] [] t.place, r)
    else if sees 1 [102, 97, 108, 115, 101] l then .inl (.mk 2 0 0 [] [] t.place, r)
    else if sees 4 [40] l then bind (e r) fun x l1 => bind (need [41] l1) fun _ l2 => .inl (x, l2)
    else bind (name l) fun t l1 => if sees 4 [40] l1 then bind (items e (l1.length + 1) 0 [] l1.tail) fun xs l2 => .inl (.mk 7 0 0 t.text xs t.place, l2) else .inl (.mk 6 0 0 t.text [] t.place, l1)
/-- A unary; the first number: how many depths are left, this one counted. -/
def unary : Nat → P Ex
  | 0, l => fail 32 l
  | k + 1, l =>
    if sees 4 [45] l then bind (unary k l.tail) fun x l1 => .inl (.mk 13 0 0 [] [x] (place l), l1)
    else if sees 4 [33] l then bind (unary k l.tail) fun x l1 => .inl (.mk 14 0 0 [] [x] (place l), l1)
    else bind (primary (lvl (unary k)) l) fun x l1 => ats (lvl (unary k)) (l1.length + 1) x l1
def expr (k : Nat) : P Ex := lvl (unary k)

def opt (e : P Ex) (l : List Tok) : R (List Ex) := if sees 4 [91] l then bind (e l.tail) fun x l1 => bind (need [93] l1) fun _ l2 => .inl ([x], l2) else .inl ([], l)
def other (blk : P (List St)) (l : List Tok) : R (List St) := if sees 1 [101, 108, 115, 101] l then blk l.tail else .inl ([], l)
def stmt (e : P Ex) (blk : P (List St)) (l : List Tok) : R St :=
  if sees 1 [108, 101, 116] l then bind (name l.tail) fun t l1 => bind (need [61] l1) fun _ l2 => bind (e l2) fun x l3 => bind (need [59] l3) fun _ l4 => .inl (.mk 1 t.text [x] [] [] (place l), l4)
  else if sees 1 [115, 101, 116] l then bind (name l.tail) fun t l1 => bind (opt e l1) fun xs l2 => bind (need [61] l2) fun _ l3 => bind (e l3) fun x l4 => bind (need [59] l4) fun _ l5 => .inl (.mk 2 t.text (xs ++ [x]) [] [] (place l), l5)
  else if sees 1 [100, 101, 108] l then bind (name l.tail) fun t l1 => bind (need [91] l1) fun _ l2 => bind (e l2) fun x l3 => bind (need [93] l3) fun _ l4 => bind (need [59] l4) fun _ l5 => .inl (.mk 3 t.text [x] [] [] (place l), l5)
  else if sees 1 [105, 102] l then bind (e l.tail) fun x l1 => bind (blk l1) fun b l2 => bind (other blk l2) fun c l3 => .inl (.mk 4 [] [x] b c (place l), l3)
  else if sees 1 [102, 111, 114] l then bind (name l.tail) fun t l1 => bind (needK 1 [116, 111] l1) fun _ l2 => bind (e l2) fun x l3 => bind (blk l3) fun b l4 => .inl (.mk 5 t.text [x] b [] (place l), l4)
  else if sees 1 [114, 101, 116] l then bind (e l.tail) fun x l1 => bind (need [59] l1) fun _ l2 => .inl (.mk 6 [] [x] [] [] (place l), l2)
  else fail 31 l
def stmts (q : P St) : Nat → List St → P (List St)
  | 0, _, _ => .inr (0, 0)
  | f + 1, acc, l => if sees 4 [125] l then .inl (acc, l.tail) else bind (q l) fun s l1 => stmts q f (acc ++ [s]) l1
/-- A block; the first number: how many depths are left, this one counted. -/
def block : Nat → P (List St)
  | 0, l => fail 32 l
  | k + 1, l => bind (need [123] l) fun _ l1 => stmts (stmt (expr k) (block k)) (l1.length + 1) [] l1
def function (on : Bool) (l : List Tok) : R Fn := bind (name l) fun t l1 => bind (need [40] l1) fun _ l2 => bind (items slot (l2.length + 1) 0 [] l2) fun ps l3 => bind (need [58] l3) fun _ l4 =>
  bind (typ 4 l4) fun y l5 => bind (block 24 l5) fun b l6 => .inl (⟨t.text, on, ps, y, b, t.place⟩, l6)
def parts : Nat → Pr → P Pr
  | 0, _, _ => .inr (0, 0)
  | _ + 1, _, [] => .inr (0, 0)
  | f + 1, p, t :: r =>
    if t.kind = 5 then .inl (p, t :: r)
    else if sees 1 [115, 116, 97, 116, 101] (t :: r) then bind (slot r) fun s l1 => bind (need [59] l1) fun _ l2 => parts f { p with states := p.states ++ [s] } l2
    else if sees 1 [102, 110] (t :: r) then bind (function false r) fun g l1 => parts f { p with fns := p.fns ++ [g] } l1
    else if sees 1 [111, 110] (t :: r) then bind (function true r) fun g l1 => parts f { p with fns := p.fns ++ [g] } l1
    else fail 31 (t :: r)
def program (l : List Tok) : R Pr := bind (needK 1 [118, 101, 114, 115, 105, 111, 110] l) fun _ l1 => bind (number l1) fun v l2 => bind (need [59] l2) fun _ l3 => parts (l3.length + 1) ⟨v, [], []⟩ l3
/-- What the document answers of a text: its program; or a fault's place, and which. -/
def parse (b : B) : Pr ⊕ (Nat × Nat) :=
  match Lx.lex true b with
  | .inr x => .inr x
  | .inl ts =>
    match program ts with
    | .inl (p, _) => .inl p
    | .inr x => .inr x

/- How a reading goes on. -/
/-- Tokens that end with the end's, and no other of them is that. -/
def Good : List Tok → Prop
  | [] => False
  | [t] => t.kind = 5
  | t :: u :: r => t.kind ≠ 5 ∧ Good (u :: r)
theorem Good.tail {t : Tok} {r : List Tok} (h : Good (t :: r)) (hk : t.kind ≠ 5) : Good r := by
  match r, h with
  | [], h => exact absurd h hk
  | u :: r, h => exact h.2
theorem sees_head {k : Nat} {x : B} {l : List Tok} (h : sees k x l = true) : ∃ t r, l = t :: r ∧ t.kind = k ∧ t.text = x := by
  match l, h with
  | t :: r, h => simp [sees] at h; exact ⟨t, r, rfl, h.1, h.2⟩
/-- From l the reading has come to l', over n tokens at least. -/
structure Adv (n : Nat) (l l' : List Tok) : Prop where
  good : Good l'
  suf : l' <:+ l
  less : l'.length + n ≤ l.length
theorem Adv.refl {l : List Tok} (h : Good l) : Adv 0 l l := ⟨h, List.suffix_refl _, by omega⟩
theorem Adv.trans {m n : Nat} {l l1 l2 : List Tok} (a : Adv m l l1) (b : Adv n l1 l2) : Adv (m + n) l l2 := ⟨b.good, b.suf.trans a.suf, by have := a.less; have := b.less; omega⟩
theorem Adv.mono {m n : Nat} {l l1 : List Tok} (a : Adv m l l1) (h : n ≤ m) : Adv n l l1 := ⟨a.good, a.suf, by have := a.less; omega⟩
/-- What an answer r, asked at l, may be: it goes on over n tokens at least; or the fault is at a token's place, and is one of two. -/
structure Res {α : Type} (n : Nat) (l : List Tok) (r : R α) : Prop where
  ok : ∀ x l', r = .inl (x, l') → Adv n l l'
  bad : ∀ a e, r = .inr (a, e) → (∃ t ∈ l, t.place = a) ∧ (e = 31 ∨ e = 32)
theorem Res.pure {α : Type} {n : Nat} {l l' : List Tok} {x : α} (h : Adv n l l') : Res n l (.inl (x, l')) := ⟨fun y l2 e => by simp at e; rw [← e.2]; exact h, fun a e h => by simp at h⟩
theorem Res.fail {α : Type} {n e : Nat} {l : List Tok} (h : Good l) (he : e = 31 ∨ e = 32) : Res (α := α) n l (fail e l) := by
  refine ⟨fun x l' h => by simp [Px.fail] at h, fun a e' h' => ?_⟩
  match l, h with
  | t :: r, _ =>
    simp [Px.fail, place] at h'
    exact ⟨⟨t, by simp, h'.1⟩, by rw [← h'.2]; exact he⟩
theorem Res.bind {α β : Type} {m n : Nat} {l : List Tok} {r : R α} {f : α → List Tok → R β} (h : Res m l r) (hf : ∀ x l', r = .inl (x, l') → Adv m l l' → Res n l' (f x l')) : Res (m + n) l (bind r f) := by
  match r, h, hf with
  | .inl (x, l'), h, hf =>
    have ha := h.ok x l' rfl
    have hr := hf x l' rfl ha
    refine ⟨fun y l2 e => ha.trans (hr.ok y l2 e), fun a e h' => ?_⟩
    obtain ⟨⟨t, ht, hp⟩, he⟩ := hr.bad a e h'
    exact ⟨⟨t, ha.suf.subset ht, hp⟩, he⟩
  | .inr (a, e), h, _ => exact ⟨fun x l' h => by simp [Px.bind] at h, fun a' e' h' => h.bad a' e' (by simpa [Px.bind] using h')⟩
theorem Res.mono {α : Type} {m n : Nat} {l : List Tok} {r : R α} (h : Res m l r) (hn : n ≤ m) : Res n l r := ⟨fun x l' e => (h.ok x l' e).mono hn, h.bad⟩
theorem Res.weak {α : Type} {m : Nat} {l : List Tok} {r : R α} (h : Res m l r) : Res 0 l r := h.mono (Nat.zero_le _)
theorem Res.bind1 {α β : Type} {l : List Tok} {r : R α} {f : α → List Tok → R β} (h : Res 1 l r) (hf : ∀ x l', r = .inl (x, l') → Adv 1 l l' → Res 0 l' (f x l')) : Res 1 l (Px.bind r f) := h.bind hf
theorem Res.bind0 {α β : Type} {l : List Tok} {r : R α} {f : α → List Tok → R β} (h : Res 0 l r) (hf : ∀ x l', r = .inl (x, l') → Adv 0 l l' → Res 0 l' (f x l')) : Res 0 l (Px.bind r f) := h.bind hf
theorem Res.after {α : Type} {l l1 : List Tok} {r : R α} (a : Adv 1 l l1) (h : Res 0 l1 r) : Res 1 l r := by
  refine ⟨fun x l' e => a.trans (h.ok x l' e), fun b e h' => ?_⟩
  obtain ⟨⟨t, ht, hp⟩, he⟩ := h.bad b e h'
  exact ⟨⟨t, a.suf.subset ht, hp⟩, he⟩
theorem Res.here {α : Type} {l : List Tok} {x : α} (h : Good l) : Res 0 l (.inl (x, l)) := Res.pure (Adv.refl h)
theorem sees_adv {k : Nat} {x : B} {l : List Tok} (h : sees k x l = true) (hg : Good l) (hk : k ≠ 5) : Adv 1 l l.tail := by
  obtain ⟨t, r, rfl, h1, _⟩ := sees_head h
  exact ⟨hg.tail (by omega), List.suffix_cons _ _, by simp⟩
theorem sees1 {x : B} {l : List Tok} (h : sees 1 x l = true) (hg : Good l) : Adv 1 l l.tail := sees_adv h hg (by decide)
theorem sees4 {x : B} {l : List Tok} (h : sees 4 x l = true) (hg : Good l) : Adv 1 l l.tail := sees_adv h hg (by decide)
theorem needK_res {k : Nat} {x : B} {l : List Tok} (hg : Good l) (hk : k ≠ 5) : Res 1 l (needK k x l) := by
  unfold needK; split
  · rename_i h; exact Res.pure (sees_adv h hg hk)
  · exact Res.fail hg (Or.inl rfl)
theorem need_res {x : B} {l : List Tok} (hg : Good l) : Res 1 l (need x l) := needK_res hg (by decide)
theorem name_res {l : List Tok} (hg : Good l) : Res 1 l (name l) := by
  match l, hg with
  | t :: r, hg =>
    simp only [name]; split
    · rename_i h
      exact Res.pure ⟨hg.tail (by omega), List.suffix_cons _ _, by simp⟩
    · exact Res.fail hg (Or.inl rfl)
theorem number_res {l : List Tok} (hg : Good l) : Res 1 l (number l) := by
  match l, hg with
  | t :: r, hg =>
    simp only [number]; split
    · rename_i h
      exact Res.pure ⟨hg.tail (by omega), List.suffix_cons _ _, by simp⟩
    · exact Res.fail hg (Or.inl rfl)
theorem key_res {l : List Tok} (hg : Good l) : Res 1 l (key l) := by
  unfold key; split
  · rename_i h; exact Res.pure (sees1 h hg)
  · split
    · rename_i h; exact Res.pure (sees1 h hg)
    · exact Res.fail hg (Or.inl rfl)
/-- A part goes on over one token at least. -/
def Ok {α : Type} (q : P α) : Prop := ∀ l, Good l → Res 1 l (q l)
theorem typ_ok : ∀ k, Ok (typ k)
  | 0, l, hg => Res.fail hg (Or.inr rfl)
  | k + 1, l, hg => by
    simp only [typ]
    split
    · rename_i h; exact Res.pure (sees1 h hg)
    split
    · rename_i h; exact Res.pure (sees1 h hg)
    split
    · rename_i h; exact Res.pure (sees1 h hg)
    split
    · rename_i h
      have a := sees4 h hg
      exact Res.after a ((typ_ok k _ a.good).weak.bind0 fun t l1 _ a1 => (need_res a1.good).weak.bind0 fun _ l2 _ a2 => Res.here a2.good)
    split
    · rename_i h
      have a := sees4 h hg
      exact Res.after a ((key_res a.good).weak.bind0 fun t l1 _ a1 => (need_res a1.good).weak.bind0 fun _ l2 _ a2 => (typ_ok k _ a2.good).weak.bind0 fun _ l3 _ a3 => (need_res a3.good).weak.bind0 fun _ l4 _ a4 => Res.here a4.good)
    · exact Res.fail hg (Or.inl rfl)
theorem slot_ok : Ok slot := fun l hg => (name_res hg).bind1 fun t l1 _ a1 => (need_res a1.good).weak.bind0 fun _ l2 _ a2 => (typ_ok 4 _ a2.good).weak.bind0 fun _ l3 _ a3 => Res.here a3.good
theorem sep_res {n : Nat} {l : List Tok} (hg : Good l) : Res 0 l (sep n l) := by
  unfold sep; split
  · exact Res.here hg
  · exact (need_res hg).weak
theorem items_res {α : Type} {q : P α} (hq : Ok q) : ∀ (f n : Nat) (acc : List α) (l : List Tok), Good l → l.length < f → Res 0 l (items q f n acc l)
  | 0, _, _, _, _, h => by omega
  | f + 1, n, acc, l, hg, h => by
    simp only [items]
    split
    · rename_i hs; exact (Res.pure (sees4 hs hg)).weak
    · exact (sep_res hg).bind0 fun _ l1 _ a1 => (hq l1 a1.good).bind1 (fun x l2 _ a2 => items_res hq f (n + 1) _ l2 a2.good (by have := a1.less; have := a2.less; omega)) |>.weak
theorem chain_res {n : Nat} {q : P Ex} (hq : Ok q) (hn : 0 < n) : ∀ (f c : Nat) (acc : Ex) (l : List Tok), Good l → l.length < f → Res 0 l (chain n q f c acc l)
  | 0, _, _, _, _, h => by omega
  | f + 1, c, acc, [], hg, h => by exact absurd hg (by simp [Good])
  | f + 1, c, acc, t :: r, hg, h => by
    simp only [chain]
    split
    · rename_i hl
      split
      · exact Res.fail hg (Or.inl rfl)
      · have hk : t.kind ≠ 5 := by
          intro h5
          have : levelOf t = (0, 0) := by unfold levelOf; rw [if_neg (by omega)]
          rw [this] at hl; simp at hl; omega
        have hgr := hg.tail hk
        have a0 : Adv 1 (t :: r) r := ⟨hgr, List.suffix_cons _ _, by simp⟩
        exact (Res.after a0 ((hq r hgr).weak.bind0 fun x l1 _ a1 => chain_res hq hn f (c + 1) _ l1 a1.good (by have := a1.less; simp at h; omega))).weak
    · exact Res.here hg
theorem level_ok {n : Nat} {q : P Ex} (hq : Ok q) (hn : 0 < n) : Ok (level n q) := fun l hg => (hq l hg).bind1 fun x l1 _ a1 => chain_res hq hn _ _ _ _ a1.good (Nat.lt_succ_self _)
theorem lvl_ok {q : P Ex} (hq : Ok q) : Ok (lvl q) := level_ok (level_ok (level_ok (level_ok (level_ok hq (by decide)) (by decide)) (by decide)) (by decide)) (by decide)
theorem ats_res {e : P Ex} (he : Ok e) : ∀ (f : Nat) (acc : Ex) (l : List Tok), Good l → l.length < f → Res 0 l (ats e f acc l)
  | 0, _, _, _, h => by omega
  | f + 1, acc, l, hg, h => by
    simp only [ats]
    split
    · rename_i hs
      have a := sees4 hs hg
      exact (Res.after a ((he _ a.good).weak.bind0 fun x l1 _ a1 => (need_res a1.good).weak.bind0 fun _ l2 _ a2 => ats_res he f _ l2 a2.good (by have := a.less; have := a1.less; have := a2.less; omega))).weak
    · exact Res.here hg
theorem primary_ok {e : P Ex} (he : Ok e) : Ok (primary e) := by
  intro l hg
  match l, hg with
  | t :: r, hg =>
    simp only [primary]
    have adv : t.kind ≠ 5 → Adv 1 (t :: r) r := fun hk => ⟨hg.tail hk, List.suffix_cons _ _, by simp⟩
    split
    · exact Res.pure (adv (by omega))
    split
    · exact Res.pure (adv (by omega))
    split
    · rename_i h; exact Res.pure (sees1 h hg)
    split
    · rename_i h; exact Res.pure (sees1 h hg)
    split
    · rename_i h
      have a := sees4 h hg
      exact Res.after a ((he _ a.good).weak.bind0 fun x l1 _ a1 => (need_res a1.good).weak.bind0 fun _ l2 _ a2 => Res.here a2.good)
    · refine (name_res hg).bind1 fun t1 l1 _ a1 => ?_
      split
      · rename_i h
        have a := sees4 h a1.good
        exact (Res.after a ((items_res he _ _ _ _ a.good (by have := a.less; omega)).bind0 fun xs l2 _ a2 => Res.here a2.good)).weak
      · exact Res.here a1.good
theorem unary_ok : ∀ k, Ok (unary k)
  | 0, l, hg => Res.fail hg (Or.inr rfl)
  | k + 1, l, hg => by
    simp only [unary]
    split
    · rename_i h
      have a := sees4 h hg
      exact Res.after a ((unary_ok k _ a.good).weak.bind0 fun x l1 _ a1 => Res.here a1.good)
    split
    · rename_i h
      have a := sees4 h hg
      exact Res.after a ((unary_ok k _ a.good).weak.bind0 fun x l1 _ a1 => Res.here a1.good)
    · exact (primary_ok (lvl_ok (unary_ok k)) l hg).bind1 fun x l1 _ a1 => ats_res (lvl_ok (unary_ok k)) _ _ _ a1.good (Nat.lt_succ_self _)
theorem expr_ok (k : Nat) : Ok (expr k) := lvl_ok (unary_ok k)
theorem opt_res {e : P Ex} (he : Ok e) {l : List Tok} (hg : Good l) : Res 0 l (opt e l) := by
  unfold opt; split
  · rename_i h
    have a := sees4 h hg
    exact (Res.after a ((he _ a.good).weak.bind0 fun x l1 _ a1 => (need_res a1.good).weak.bind0 fun _ l2 _ a2 => Res.here a2.good)).weak
  · exact Res.here hg
theorem other_res {b : P (List St)} (hb : Ok b) {l : List Tok} (hg : Good l) : Res 0 l (other b l) := by
  unfold other; split
  · rename_i h
    have a := sees1 h hg
    exact (Res.after a (hb _ a.good).weak).weak
  · exact Res.here hg
theorem stmt_ok {e : P Ex} {b : P (List St)} (he : Ok e) (hb : Ok b) : Ok (stmt e b) := by
  intro l hg
  unfold stmt
  split
  · rename_i h
    have a := sees1 h hg
    exact Res.after a ((name_res a.good).weak.bind0 fun t l1 _ a1 => (need_res a1.good).weak.bind0 fun _ l2 _ a2 => (he _ a2.good).weak.bind0 fun x l3 _ a3 => (need_res a3.good).weak.bind0 fun _ l4 _ a4 => Res.here a4.good)
  split
  · rename_i h
    have a := sees1 h hg
    exact Res.after a ((name_res a.good).weak.bind0 fun t l1 _ a1 => (opt_res he a1.good).bind0 fun xs l2 _ a2 => (need_res a2.good).weak.bind0 fun _ l3 _ a3 => (he _ a3.good).weak.bind0 fun x l4 _ a4 => (need_res a4.good).weak.bind0 fun _ l5 _ a5 => Res.here a5.good)
  split
  · rename_i h
    have a := sees1 h hg
    exact Res.after a ((name_res a.good).weak.bind0 fun t l1 _ a1 => (need_res a1.good).weak.bind0 fun _ l2 _ a2 => (he _ a2.good).weak.bind0 fun x l3 _ a3 => (need_res a3.good).weak.bind0 fun _ l4 _ a4 => (need_res a4.good).weak.bind0 fun _ l5 _ a5 => Res.here a5.good)
  split
  · rename_i h
    have a := sees1 h hg
    exact Res.after a ((he _ a.good).weak.bind0 fun x l1 _ a1 => (hb _ a1.good).weak.bind0 fun _ l2 _ a2 => (other_res hb a2.good).bind0 fun _ l3 _ a3 => Res.here a3.good)
  split
  · rename_i h
    have a := sees1 h hg
    exact Res.after a ((name_res a.good).weak.bind0 fun t l1 _ a1 => (needK_res a1.good (by decide)).weak.bind0 fun _ l2 _ a2 => (he _ a2.good).weak.bind0 fun x l3 _ a3 => (hb _ a3.good).weak.bind0 fun _ l4 _ a4 => Res.here a4.good)
  split
  · rename_i h
    have a := sees1 h hg
    exact Res.after a ((he _ a.good).weak.bind0 fun x l1 _ a1 => (need_res a1.good).weak.bind0 fun _ l2 _ a2 => Res.here a2.good)
  · exact Res.fail hg (Or.inl rfl)
theorem stmts_res {q : P St} (hq : Ok q) : ∀ (f : Nat) (acc : List St) (l : List Tok), Good l → l.length < f → Res 0 l (stmts q f acc l)
  | 0, _, _, _, h => by omega
  | f + 1, acc, l, hg, h => by
    simp only [stmts]
    split
    · rename_i hs; exact (Res.pure (sees4 hs hg)).weak
    · exact ((hq l hg).bind1 fun x l1 _ a1 => stmts_res hq f _ l1 a1.good (by have := a1.less; omega)).weak
theorem block_ok : ∀ k, Ok (block k)
  | 0, l, hg => Res.fail hg (Or.inr rfl)
  | k + 1, l, hg => (need_res hg).bind1 fun _ l1 _ a1 => stmts_res (stmt_ok (expr_ok k) (block_ok k)) _ _ _ a1.good (Nat.lt_succ_self _)
theorem function_ok (on : Bool) : Ok (function on) := fun l hg => (name_res hg).bind1 fun t l1 _ a1 => (need_res a1.good).weak.bind0 fun _ l2 _ a2 => (items_res slot_ok _ _ _ _ a2.good (Nat.lt_succ_self _)).bind0 fun ps l3 _ a3 => (need_res a3.good).weak.bind0 fun _ l4 _ a4 =>
  (typ_ok 4 _ a4.good).weak.bind0 fun y l5 _ a5 => (block_ok 24 _ a5.good).weak.bind0 fun b l6 _ a6 => Res.here a6.good
theorem parts_res : ∀ (f : Nat) (p : Pr) (l : List Tok), Good l → l.length < f → Res 0 l (parts f p l)
  | 0, _, _, _, h => by omega
  | f + 1, p, [], hg, h => by exact absurd hg (by simp [Good])
  | f + 1, p, t :: r, hg, h => by
    simp only [parts]
    split
    · exact Res.here hg
    split
    · rename_i hs
      have a := sees1 hs hg
      exact (Res.after a ((slot_ok _ a.good).weak.bind0 fun s l1 _ a1 => (need_res a1.good).weak.bind0 fun _ l2 _ a2 => parts_res f _ l2 a2.good (by have := a.less; have := a1.less; have := a2.less; omega))).weak
    split
    · rename_i hs
      have a := sees1 hs hg
      exact (Res.after a ((function_ok _ _ a.good).weak.bind0 fun s l1 _ a1 => parts_res f _ l1 a1.good (by have := a.less; have := a1.less; omega))).weak
    split
    · rename_i hs
      have a := sees1 hs hg
      exact (Res.after a ((function_ok _ _ a.good).weak.bind0 fun s l1 _ a1 => parts_res f _ l1 a1.good (by have := a.less; have := a1.less; omega))).weak
    · exact Res.fail hg (Or.inl rfl)
theorem program_ok : Ok program := fun l hg => (needK_res hg (by decide)).bind1 fun _ l1 _ a1 => (number_res a1.good).weak.bind0 fun v l2 _ a2 => (need_res a2.good).weak.bind0 fun _ l3 _ a3 => parts_res _ _ _ a3.good (Nat.lt_succ_self _)
end Go.Proofs.YtifebbdjdllfpaaGreatDoor.Px
