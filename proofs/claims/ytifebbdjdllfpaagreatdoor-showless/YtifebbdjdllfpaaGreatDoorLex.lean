/- Source texts as tokens, in plain mathematics: what the program's lexer answers, by recursion over the bytes. Nothing of the model is in this text. -/
namespace Go.Proofs.YtifebbdjdllfpaaGreatDoor.Lx

abbrev B := List UInt8

def isLetter (c : UInt8) : Bool := (97 ≤ c && c ≤ 122) || c == 95
def isDigit (c : UInt8) : Bool := 48 ≤ c && c ≤ 57
def isPart (c : UInt8) : Bool := isLetter c || isDigit c
def isBlank (c : UInt8) : Bool := c == 32 || c == 10 || c == 9
def isInNote (c : UInt8) : Bool := c != 10
def isPlain (c : UInt8) : Bool := 32 ≤ c && c ≤ 126
def isEsc (c : UInt8) : Bool := c == 34 || c == 92

/-- What is answered of one token: its kind, text, number and how many bytes it takes; or a fault, how far behind the token's first byte, and which. -/
abbrev R := (Nat × B × Nat × Nat) ⊕ (Nat × Nat)
@[reducible] def R.ok (k : Nat) (t : B) (num : Nat) (n : Nat) : R := .inl (k, t, num, n)
@[reducible] def R.bad (off : Nat) (e : Nat) : R := .inr (off, e)

def value (t : B) : Nat := t.foldl (fun n c => n * 10 + (c.toNat - 48)) 0

def nameR (l : B) : R := if (l.takeWhile isPart).length ≤ 16 then R.ok 1 (l.takeWhile isPart) 0 (l.takeWhile isPart).length else R.bad 0 3
def numberR (l : B) : R :=
  if (l.takeWhile isDigit).head? = some 48 ∧ 1 < (l.takeWhile isDigit).length then R.bad 0 30
  else if value (l.takeWhile isDigit) ≤ 9223372036854775807 then R.ok 2 (l.takeWhile isDigit) (value (l.takeWhile isDigit)) (l.takeWhile isDigit).length
  else R.bad 0 3
/-- Behind the first quote: what is left, how far from the quote it begins, the text so far. -/
def quoteR : B → Nat → B → R
  | [], _, _ => R.bad 0 30
  | [c], o, acc => if c = 34 then (if acc.length ≤ 256 then R.ok 3 acc 0 (o + 1) else R.bad 0 3) else if c = 92 then R.bad o 30 else if isPlain c then R.bad 0 30 else R.bad o 30
  | c :: d :: r, o, acc =>
    if c = 34 then (if acc.length ≤ 256 then R.ok 3 acc 0 (o + 1) else R.bad 0 3)
    else if c = 92 then (if isEsc d then quoteR r (o + 2) (acc ++ [d]) else R.bad o 30)
    else if isPlain c then quoteR (d :: r) (o + 1) (acc ++ [c]) else R.bad o 30
def two (l : B) : Bool :=
  match l with
  | a :: b :: _ => (b == 61 && (a == 61 || a == 33 || a == 60 || a == 62)) || (a == 38 && b == 38) || (a == 124 && b == 124)
  | _ => false
def ones (dot : Bool) : B := [40, 41, 123, 125, 91, 93, 58, 59, 44, 61, 60, 62, 43, 45, 42, 47, 37, 33] ++ if dot then [46] else []
def one (dot : Bool) (c : UInt8) : Bool := (ones dot).contains c
def markN (dot : Bool) (l : B) : Nat :=
  if two l then 2 else match l with
  | c :: _ => if one dot c then 1 else 0
  | [] => 0
def markR (dot : Bool) (l : B) : R := if markN dot l = 0 then R.bad 0 30 else R.ok 4 (l.take (markN dot l)) 0 (markN dot l)
def tokR (dot : Bool) (l : B) : R :=
  match l with
  | [] => R.ok 5 [] 0 0
  | c :: r => if isLetter c then nameR (c :: r) else if isDigit c then numberR (c :: r) else if c = 34 then quoteR r 1 [] else markR dot (c :: r)

/-- How many bytes of blanks and notes a text begins with (within a note already: true). -/
def skipF : Bool → B → Nat
  | _, [] => 0
  | true, c :: r => if c = 10 then 1 + skipF false r else 1 + skipF true r
  | false, c :: r => if isBlank c then 1 + skipF false r else if c = 35 then 1 + skipF true r else 0

structure Tok where
  kind : Nat
  text : B
  num : Nat
  place : Nat
abbrev Out := List Tok ⊕ (Nat × Nat)
def Out.pre (p : List Tok) : Out → Out
  | .inl ts => .inl (p ++ ts)
  | .inr x => .inr x

/-- The tokens of what is left of a text: it begins at place i, c tokens lie ahead; the first number only bounds the steps. -/
def lexF (dot : Bool) : Nat → B → Nat → Nat → Out
  | 0, _, _, _ => .inr (0, 0)
  | f + 1, l, i, c =>
    match l.drop (skipF false l) with
    | [] => if c < 4096 then .inl [⟨5, [], 0, i + skipF false l⟩] else .inr (i + skipF false l, 36)
    | x :: r =>
      match tokR dot (x :: r) with
      | .inr (o, e) => .inr (i + skipF false l + o, e)
      | .inl (k, t, m, n) => if c < 4096 then Out.pre [⟨k, t, m, i + skipF false l⟩] (lexF dot f (r.drop (n - 1)) (i + skipF false l + n) (c + 1)) else .inr (i + skipF false l, 36)
def lexGo (dot : Bool) (l : B) (i c : Nat) : Out := lexF dot (l.length + 1) l i c
def lex (dot : Bool) (l : B) : Out := if 16384 < l.length then .inr (16384, 3) else lexGo dot l 0 0

theorem lexF_any (dot : Bool) : ∀ (f g : Nat) (l : B) (i c : Nat), l.length < f → l.length < g → lexF dot f l i c = lexF dot g l i c
  | 0, _, _, _, _, h, _ => by omega
  | _, 0, _, _, _, _, h => by omega
  | f + 1, g + 1, l, i, c, hf, hg => by
    simp only [lexF]
    rcases hd : l.drop (skipF false l) with _ | ⟨x, r⟩
    · rfl
    · have hl := congrArg List.length hd
      simp at hl
      rcases ht : tokR dot (x :: r) with ⟨k, t, m, n⟩ | ⟨o, e⟩
      · simp only [ht]
        rw [lexF_any dot f g (r.drop (n - 1)) _ _ (by simp; omega) (by simp; omega)]
      · simp only [ht]
theorem lexGo_end {dot : Bool} {l : B} {i c : Nat} (h : l.drop (skipF false l) = []) : lexGo dot l i c = if c < 4096 then .inl [⟨5, [], 0, i + skipF false l⟩] else .inr (i + skipF false l, 36) := by
  simp only [lexGo, lexF, h]
theorem lexGo_bad {dot : Bool} {l : B} {i c : Nat} {x : UInt8} {r : B} {o e : Nat} (h : l.drop (skipF false l) = x :: r) (ht : tokR dot (x :: r) = R.bad o e) : lexGo dot l i c = .inr (i + skipF false l + o, e) := by
  simp only [lexGo, lexF, h, ht]
theorem lexGo_ok {dot : Bool} {l : B} {i c : Nat} {x : UInt8} {r : B} {k : Nat} {t : B} {m n : Nat} (h : l.drop (skipF false l) = x :: r) (ht : tokR dot (x :: r) = R.ok k t m n) (hn : 1 ≤ n) :
    lexGo dot l i c = if c < 4096 then Out.pre [⟨k, t, m, i + skipF false l⟩] (lexGo dot (l.drop (skipF false l + n)) (i + skipF false l + n) (c + 1)) else .inr (i + skipF false l, 36) := by
  have hl := congrArg List.length h
  simp at hl
  have e : r.drop (n - 1) = l.drop (skipF false l + n) := by
    rw [← List.drop_drop, h]
    obtain ⟨n', rfl⟩ : ∃ n', n = n' + 1 := ⟨n - 1, by omega⟩
    rfl
  have hlen := congrArg List.length e
  simp at hlen
  simp only [lexGo]
  conv => lhs; simp only [lexF, h, ht]
  rw [e, lexF_any dot l.length ((l.drop (skipF false l + n)).length + 1) _ _ _ (by simp; omega) (by simp)]

theorem pre_pre (p q : List Tok) (o : Out) : Out.pre p (Out.pre q o) = Out.pre (p ++ q) o := by rcases o with o | o <;> simp [Out.pre]
theorem pre_nil (o : Out) : Out.pre [] o = o := by rcases o with o | o <;> rfl

/- How far a loop has come over the bytes of a kind. -/
theorem tw_step {p : UInt8 → Bool} : ∀ {l : B} {k : Nat} (_ : k ≤ (l.takeWhile p).length) (hk : k < l.length), p l[k] = true → k + 1 ≤ (l.takeWhile p).length
  | [], k, _, hk, _ => by simp at hk
  | c :: r, 0, _, _, hp => by simp at hp; simp [hp]
  | c :: r, k + 1, h, hk, hp => by
    by_cases hc : p c
    · simp [hc] at h ⊢
      exact tw_step (l := r) h (by simpa using hk) (by simpa using hp)
    · simp [hc] at h
theorem tw_stop {p : UInt8 → Bool} : ∀ {l : B} {k : Nat} (_ : k ≤ (l.takeWhile p).length) (hk : k < l.length), p l[k] = false → (l.takeWhile p).length = k
  | [], k, _, hk, _ => by simp at hk
  | c :: r, 0, _, _, hp => by simp at hp; simp [hp]
  | c :: r, k + 1, h, hk, hp => by
    by_cases hc : p c
    · simp [hc] at h ⊢
      exact tw_stop (l := r) h (by simpa using hk) (by simpa using hp)
    · simp [hc] at h
theorem tw_end {p : UInt8 → Bool} {l : B} {k : Nat} (h : k ≤ (l.takeWhile p).length) (hk : ¬ k < l.length) : (l.takeWhile p).length = k := by
  have : (l.takeWhile p).length ≤ l.length := (List.takeWhile_prefix p).length_le
  omega
theorem tw_le {p : UInt8 → Bool} (l : B) : (l.takeWhile p).length ≤ l.length := (List.takeWhile_prefix p).length_le
theorem tw_take {p : UInt8 → Bool} (l : B) : l.take (l.takeWhile p).length = l.takeWhile p := (List.prefix_iff_eq_take.1 (List.takeWhile_prefix p)).symm
theorem tw_drop {p : UInt8 → Bool} (l : B) : l.drop (l.takeWhile p).length = l.dropWhile p := by
  have h : l.takeWhile p ++ l.dropWhile p = l := List.takeWhile_append_dropWhile
  have h2 := List.take_append_drop (l.takeWhile p).length l
  rw [tw_take] at h2
  exact List.append_cancel_left (h2.trans h.symm)
theorem tw_mem {p : UInt8 → Bool} : ∀ {l : B}, ∀ c ∈ l.takeWhile p, p c = true
  | [], c, h => by simp at h
  | a :: r, c, h => by
    by_cases ha : p a
    · simp only [List.takeWhile_cons, ha, if_true, List.mem_cons] at h
      rcases h with rfl | h
      · exact ha
      · exact tw_mem c h
    · simp [ha] at h
theorem tw_len {p : UInt8 → Bool} : ∀ {l : B}, (∀ c ∈ l, p c = true) → (l.takeWhile p).length = l.length
  | [], _ => rfl
  | a :: r, h => by
    simp [h a (by simp)]
    exact tw_len fun c hc => h c (by simp [hc])
theorem tw_all {p : UInt8 → Bool} {l : B} : (l.takeWhile p).length = l.length ↔ l.all p = true := by
  constructor
  · intro h
    have e : l.takeWhile p = l := by rw [← tw_take l, h, List.take_length]
    rw [List.all_eq_true]; intro c hc; exact tw_mem c (by rw [e]; exact hc)
  · intro h
    rw [List.all_eq_true] at h
    exact tw_len h

/- Blanks and notes. -/
theorem skip_blanks : ∀ l : B, skipF false l = (l.takeWhile isBlank).length + skipF false (l.drop (l.takeWhile isBlank).length)
  | [] => by simp [skipF]
  | c :: r => by
    by_cases h : isBlank c
    · simp [h]
      rw [skipF, if_pos h, skip_blanks r]; omega
    · simp [h]
theorem skip_note : ∀ r : B, skipF true r = (r.takeWhile isInNote).length + skipF false (r.drop (r.takeWhile isInNote).length)
  | [] => by simp [skipF]
  | c :: r => by
    by_cases h : c = 10
    · subst h; simp [isInNote, skipF, isBlank]
    · have e : isInNote c = true := by simp [isInNote, h]
      simp [e]
      rw [skipF, if_neg h, skip_note r]; omega
theorem skip_hash (r : B) : skipF false (35 :: r) = ((35 :: r).takeWhile isInNote).length + skipF false ((35 :: r).drop ((35 :: r).takeWhile isInNote).length) := by
  have e : isInNote 35 = true := rfl
  simp [e]
  rw [skipF, if_neg (by decide), if_pos rfl, skip_note r]; omega
theorem skip_none : ∀ {l : B}, (∀ c, l.head? = some c → isBlank c = false ∧ c ≠ 35) → skipF false l = 0
  | [], _ => rfl
  | c :: r, h => by
    obtain ⟨h1, h2⟩ := h c rfl
    simp [skipF, h1, h2]
theorem skip_le : ∀ (b : Bool) (l : B), skipF b l ≤ l.length
  | true, [] => by simp [skipF]
  | false, [] => by simp [skipF]
  | true, c :: r => by
    have h1 := skip_le true r; have h2 := skip_le false r
    simp only [skipF, List.length_cons]; split <;> omega
  | false, c :: r => by
    have h1 := skip_le true r; have h2 := skip_le false r
    simp only [skipF, List.length_cons]; split
    · omega
    · split <;> omega
theorem skip_head : ∀ (b : Bool) (l : B), ∀ c, (l.drop (skipF b l)).head? = some c → isBlank c = false ∧ c ≠ 35
  | true, [] => by simp
  | false, [] => by simp
  | true, c :: r => by
    have h1 := skip_head true r; have h2 := skip_head false r
    intro x; simp only [skipF]; split
    · rw [Nat.add_comm, List.drop_succ_cons]; exact h2 x
    · rw [Nat.add_comm, List.drop_succ_cons]; exact h1 x
  | false, c :: r => by
    have h1 := skip_head true r; have h2 := skip_head false r
    intro x; simp only [skipF]; split
    · rw [Nat.add_comm, List.drop_succ_cons]; exact h2 x
    · split
      · rw [Nat.add_comm, List.drop_succ_cons]; exact h1 x
      · intro h; simp at h; subst h; exact ⟨by simp_all, by assumption⟩

end Go.Proofs.YtifebbdjdllfpaaGreatDoor.Lx
