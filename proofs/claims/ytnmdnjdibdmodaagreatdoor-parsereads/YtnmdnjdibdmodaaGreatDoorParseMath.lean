/- What the document answers of texts with other blanks, and with brackets around numbers. Plain mathematics. -/
import Derived.Test.YtnmdnjdibdmodaaGreatDoorOff
import Derived.Test.YtnmdnjdibdmodaaGreatDoorRound
namespace Go.Proofs.YtnmdnjdibdmodaaGreatDoor
open Px (TS TSim Ins)
set_option linter.unusedSimpArgs false
set_option linter.unusedVariables false

theorem parse_bad_cases {l : List UInt8} {a er : Nat} (h : Px.parse l = .inr (a, er)) : (Lx.lex true l = .inr (a, er) ∧ er ≠ 0 ∧ a ≤ l.length) ∨ ∃ ts, Lx.lex true l = .inl ts ∧ (∃ t ∈ ts, t.place = a) ∧ (er = 31 ∨ er = 32) ∧ a ≤ l.length := by
  unfold Px.parse at h
  rcases hl : Lx.lex true l with ts | ⟨a', er'⟩
  · rw [hl] at h
    simp only at h
    rcases hp : Px.program ts with ⟨p, r⟩ | ⟨a', er'⟩
    · rw [hp] at h; simp at h
    · rw [hp] at h
      simp only [Sum.inr.injEq, Prod.mk.injEq] at h
      obtain ⟨rfl, rfl⟩ := h
      obtain ⟨⟨t, ht, hpl⟩, he⟩ := parse_place hl hp
      refine Or.inr ⟨ts, rfl, ⟨t, ht, hpl⟩, he, ?_⟩
      have hle := (lex_nonempty hl).2
      unfold Lx.lex at hl
      rw [if_neg (by omega)] at hl
      have := place_le true l (l.length + 1) 0 0 ts (by omega) (by omega) (by simpa using hl) t ht
      omega
  · rw [hl] at h
    simp only [Sum.inr.injEq, Prod.mk.injEq] at h
    obtain ⟨rfl, rfl⟩ := h
    exact Or.inl ⟨rfl, lex_err hl, lex_off hl⟩
theorem parse_ok_cases {l : List UInt8} {p : Px.Pr} (h : Px.parse l = .inl p) : 0 < l.length ∧ ∃ ts r, Lx.lex true l = .inl ts ∧ Px.program ts = .inl (p, r) := by
  refine ⟨?_, ?_⟩
  · rcases l with _ | ⟨c, r⟩
    · have : Px.parse [] = .inr (0, 31) := rfl
      rw [this] at h; simp at h
    · simp
  · unfold Px.parse at h
    rcases hl : Lx.lex true l with ts | x
    · rw [hl] at h
      simp only at h
      rcases hp : Px.program ts with ⟨p', r⟩ | x
      · rw [hp] at h
        simp at h; subst h
        exact ⟨ts, r, rfl, hp⟩
      · rw [hp] at h; simp at h
    · rw [hl] at h; simp at h
theorem parse_of {l : List UInt8} {ts : List Lx.Tok} (h : Lx.lex true l = .inl ts) : Px.parse l = match Px.program ts with | .inl (p, _) => .inl p | .inr x => .inr x := by
  unfold Px.parse; rw [h]; rfl
theorem ins_two {a : Nat → Lx.Tok → Bool} {ts us : List Lx.Tok} (h : InsJ a 0 ts us) (ha : ∀ j t, a j t = true → t.kind = 2 ∧ 2 ≤ j) (hg : Px.Good ts) {p : Px.Pr} {r : List Lx.Tok} (hp : Px.program ts = .inl (p, r)) :
    (∃ x, Px.program us = .inr (x, 32)) ∨ ∃ p2 r2, Px.program us = .inl (p2, r2) ∧ p.er = p2.er := by
  have h2 : ∀ j t, a j t = true → t.kind = 2 := fun j t h => (ha j t h).1
  have h01 : ∀ j t, j < 2 → a j t = false := fun j t hj => by
    rcases hh : a j t with _ | _
    · rfl
    · have := (ha j t hh).2; omega
  cases h with
  | nil => exact absurd hg (by simp [Px.Good])
  | wrap h1 => rw [h01 _ _ (by omega)] at h1; simp at h1
  | cons _ t0 h =>
    cases h with
    | nil =>
      rename_i t u hz
      have hk : t.kind = 5 := hg
      have hf : Px.program [t] = .inr (t.place, 31) := by simp [Px.program, Px.needK, Px.sees, Px.bind, Px.fail, Px.place, hk]
      rw [hf] at hp; simp at hp
    | wrap h1 => rw [h01 _ _ (by omega)] at h1; simp at h1
    | cons _ t1 h =>
      rcases Px.program_ins t0 t1 (h.ins h2) hg p r hp with ⟨x, hx⟩ | ⟨p2, r2, h3, h4, _⟩
      · exact Or.inl ⟨x, hx⟩
      · exact Or.inr ⟨p2, r2, h3, h4⟩
/-- Brackets around one number. -/
theorem parse_round {l : List UInt8} {p : Px.Pr} {ts : List Lx.Tok} {q : Nat} {t : Lx.Tok} (hp : Px.parse l = .inl p) (hl : Lx.lex true l = .inl ts) (hq : ts[q]? = some t) (h2 : 2 ≤ q) (hk : t.kind = 2) :
    (∃ a er, Px.parse (putAround l t.place t.text 0) = .inr (a, er) ∧ (er = 32 ∨ er = 36 ∨ er = 3)) ∨ ∃ p2, Px.parse (putAround l t.place t.text 0) = .inl p2 ∧ p.er = p2.er := by
  obtain ⟨_, ts', r, hl', hpr⟩ := parse_ok_cases hp
  rw [hl] at hl'
  simp at hl'; subst hl'
  have hg := lex_good hl
  have hle := (lex_nonempty hl).2
  by_cases hlong : 16384 < (putAround l t.place t.text 0).length
  · refine Or.inl ⟨16384, 3, ?_, Or.inr (Or.inr rfl)⟩
    unfold Px.parse Lx.lex
    rw [if_pos hlong]
  · have hlg : Lx.lexGo true (l.drop 0) 0 0 = .inl ts := by
      unfold Lx.lex at hl
      rw [if_neg (by omega)] at hl
      simpa using hl
    rcases lex_round true l 0 (l.length + 1) 0 0 ts q t 0 0 (by omega) (by omega) hlg hq hk with ⟨x, hx⟩ | ⟨us, hu, hi⟩
    · refine Or.inl ⟨x, 36, ?_, Or.inr (Or.inl rfl)⟩
      unfold Px.parse Lx.lex
      rw [if_neg hlong, hx]
    · have hlu : Lx.lex true (putAround l t.place t.text 0) = .inl us := by
        unfold Lx.lex
        rw [if_neg hlong]; exact hu
      rw [parse_of hlu]
      rcases ins_two hi (fun j t h => by simp [around] at h; exact ⟨h.2, by omega⟩) hg hpr with ⟨x, hx⟩ | ⟨p2, r2, h3, h4⟩
      · rw [hx]; exact Or.inl ⟨x, 32, rfl, Or.inl rfl⟩
      · rw [h3]; exact Or.inr ⟨p2, rfl, h4⟩

theorem quote_bytes : ∀ (N : Nat) (l : List UInt8) (o : Nat) (acc : List UInt8) (k : Nat) (t : List UInt8) (m n : Nat), l.length ≤ N → Lx.quoteR l o acc = Lx.R.ok k t m n → n = o + (escT (t.drop acc.length)).length + 1 ∧ acc.length ≤ t.length ∧ t.take acc.length = acc
  | N, [], o, acc, k, t, m, n, _, h => by simp [Lx.quoteR, Lx.R.bad, Lx.R.ok] at h
  | 0, c :: r, o, acc, k, t, m, n, hN, h => by simp at hN
  | N + 1, c :: r, o, acc, k, t, m, n, hN, h => by
    rw [quoteR_cons] at h
    simp only [List.length_cons] at hN
    split at h
    · split at h
      · simp [Lx.R.ok] at h
        obtain ⟨_, rfl, _, rfl⟩ := h
        simp [escT]
      · simp [Lx.R.ok, Lx.R.bad] at h
    · rename_i h34
      have step : ∀ (d : UInt8) (r' : List UInt8) (o' : Nat), r'.length ≤ N → Lx.quoteR r' o' (acc ++ [d]) = Lx.R.ok k t m n → (if Lx.isEsc d then o' = o + 2 else o' = o + 1) → n = o + (escT (t.drop acc.length)).length + 1 ∧ acc.length ≤ t.length ∧ t.take acc.length = acc := by
        intro d r' o' hr' hq ho
        obtain ⟨h1, h2, h3⟩ := quote_bytes N r' o' (acc ++ [d]) k t m n hr' hq
        simp only [List.length_append, List.length_cons, List.length_nil] at h1 h2 h3
        have hlt : acc.length < t.length := by omega
        have hd : t.drop acc.length = t[acc.length] :: t.drop (acc.length + 1) := List.drop_eq_getElem_cons hlt
        have hta : t.take acc.length = acc ∧ t[acc.length] = d := by
          rw [List.take_succ_eq_append_getElem hlt] at h3
          have := List.append_inj h3 (by simp; omega)
          exact ⟨this.1, by simpa using this.2⟩
        refine ⟨?_, by omega, hta.1⟩
        rw [hd, hta.2]
        have e : escT (d :: t.drop (acc.length + 1)) = (if Lx.isEsc d then [92, d] else [d]) ++ escT (t.drop (acc.length + 1)) := by simp [escT]
        rw [e, h1]
        split at ho
        · rename_i hh; rw [if_pos hh]; simp; omega
        · rename_i hh; rw [if_neg hh]; simp; omega
      split at h
      · split at h
        · simp [Lx.R.ok, Lx.R.bad] at h
        · split at h
          · rename_i d r' hd
            exact step d r' (o + 2) (by simp at hN; omega) h (by rw [if_pos hd])
          · simp [Lx.R.ok, Lx.R.bad] at h
      · rename_i h92
        split at h
        · have hne : Lx.isEsc c = false := by simp [Lx.isEsc, h34, h92]
          exact step c r (o + 1) (by omega) h (by rw [hne]; simp)
        · simp [Lx.R.ok, Lx.R.bad] at h
theorem word_bytes {dot : Bool} {x : UInt8} {r : List UInt8} {k : Nat} {t : List UInt8} {m n : Nat} (h : Lx.tokR dot (x :: r) = Lx.R.ok k t m n) : (word k t).length = n := by
  have hkn := tok_kinds h
  rcases tok_text h with ⟨rfl, rfl, hp⟩ | ⟨hk, ht⟩
  · simp only [Lx.tokR] at h
    split at h
    · unfold Lx.nameR at h; split at h <;> simp [Lx.R.ok, Lx.R.bad] at h
    · split at h
      · unfold Lx.numberR at h
        split at h
        · simp [Lx.R.ok, Lx.R.bad] at h
        · split at h <;> simp [Lx.R.ok, Lx.R.bad] at h
      · split at h
        · have := (quote_bytes r.length r 1 [] 3 t 0 n (Nat.le_refl _) h).1
          simp at this
          simp [word, quoteT]; omega
        · unfold Lx.markR at h; split at h <;> simp [Lx.R.ok, Lx.R.bad] at h
  · unfold word; rw [if_neg hk, ht]; simp; omega
theorem sp_len (dot : Bool) (l : List UInt8) (p : Nat → List UInt8) (a : Nat → Lx.Tok → Bool) (hp : ∀ j, (p j).length ≤ 4) : ∀ (N i c : Nat) (ts : List Lx.Tok) (j : Nat), l.length - i < N → i ≤ l.length → Lx.lexGo dot (l.drop i) i c = .inl ts → (sp p a j ts).length ≤ 6 * ts.length + (l.length - i) ∧ ts.length ≤ l.length - i + 1 := by
  intro N
  induction N with
  | zero => intro i c ts j hN; omega
  | succ N ih =>
    intro i c ts j hN hi h
    obtain ⟨u, rest, rfl, hpl, hc, hcase⟩ := first_tok h
    have hkl := Lx.skip_le false (l.drop i)
    simp only [List.length_drop] at hkl
    have hpj := hp j
    rcases hcase with ⟨hd, rfl, rfl⟩ | ⟨x, r, k, t, m, n, hd, ht, rfl, hrest⟩
    · refine ⟨?_, by simp⟩
      simp only [sp, List.length_append, List.length_nil, List.length_cons]
      split
      · simp [word]; omega
      · simp [word]; omega
    · have hkn := tok_kinds ht
      have hwb := word_bytes ht
      have hlen := congrArg List.length hd
      simp at hlen
      rw [List.drop_drop, ← Nat.add_assoc] at hrest
      obtain ⟨h1, h2⟩ := ih (i + Lx.skipF false (l.drop i) + n) (c + 1) rest (j + 1) (by omega) (by omega) hrest
      refine ⟨?_, by simp; omega⟩
      simp only [sp, List.length_append, List.length_cons]
      split
      · simp only [List.length_append, List.length_cons, List.length_nil, hwb]; omega
      · rw [hwb]; omega
/-- The text anew, without brackets: the same program, or the same fault. -/
theorem parse_spaced {l : List UInt8} {ts : List Lx.Tok} {p : Nat → List UInt8} (hl : Lx.lex true l = .inl ts) (hs : l.length ≤ 2048) (hp : ∀ j, Pad (p j) ∧ p j ≠ []) (hp4 : ∀ j, (p j).length ≤ 4) (a : Nat → Lx.Tok → Bool) (ha : ∀ j t, a j t = false) :
    (∃ x y, Px.parse l = .inl x ∧ Px.parse (sp p a 0 ts) = .inl y ∧ x.er = y.er) ∨ ∃ b c er, Px.parse l = .inr (b, er) ∧ Px.parse (sp p a 0 ts) = .inr (c, er) ∧ er ≠ 0 := by
  have hlg : Lx.lexGo true (l.drop 0) 0 0 = .inl ts := by
    have h := hl
    unfold Lx.lex at h
    rw [if_neg (by omega)] at h
    simpa using h
  have hlen := sp_len true l p a hp4 (l.length + 1) 0 0 ts 0 (by omega) (by omega) hlg
  have hg := lex_good hl
  have hfew := lex_few hl
  have hw := wf_all true l (l.length + 1) 0 0 ts (by omega) (by omega) hlg
  rcases lex_sp true p a hp (fun j t h => by rw [ha] at h; simp at h) ts 0 0 0 hg hw with ⟨x, hx, hxx⟩ | ⟨us, hu, hi⟩
  · have := hxx ha; omega
  · have hlu : Lx.lex true (sp p a 0 ts) = .inl us := by
      unfold Lx.lex
      rw [if_neg (by omega)]; exact hu
    have hsim := Px.program_sim ts us (hi.sim ha)
    rw [parse_of hl, parse_of hlu]
    rcases h1 : Px.program ts with ⟨x, r⟩ | ⟨b, er⟩
    · rcases h2 : Px.program us with ⟨y, r2⟩ | ⟨c, er2⟩
      · rw [h1, h2] at hsim
        exact Or.inl ⟨x, y, rfl, rfl, hsim.1⟩
      · rw [h1, h2] at hsim; exact hsim.elim
    · rcases h2 : Px.program us with ⟨y, r2⟩ | ⟨c, er2⟩
      · rw [h1, h2] at hsim; exact hsim.elim
      · rw [h1, h2] at hsim
        have he : er = er2 := hsim
        subst he
        refine Or.inr ⟨b, c, er, rfl, rfl, ?_⟩
        rcases (parse_place hl h1).2 with h | h <;> omega
/-- The text anew, with brackets around some numbers. -/
theorem parse_spaced_round {l : List UInt8} {ts : List Lx.Tok} {p : Nat → List UInt8} {x : Px.Pr} (hl : Lx.lex true l = .inl ts) (hx : Px.parse l = .inl x) (hs : l.length ≤ 2048) (hp : ∀ j, Pad (p j) ∧ p j ≠ []) (hp4 : ∀ j, (p j).length ≤ 4) (a : Nat → Lx.Tok → Bool) (ha : ∀ j t, a j t = true → t.kind = 2 ∧ 2 ≤ j) :
    (∃ b er, Px.parse (sp p a 0 ts) = .inr (b, er) ∧ (er = 32 ∨ er = 36)) ∨ ∃ y, Px.parse (sp p a 0 ts) = .inl y ∧ x.er = y.er := by
  have hlg : Lx.lexGo true (l.drop 0) 0 0 = .inl ts := by
    have h := hl
    unfold Lx.lex at h
    rw [if_neg (by omega)] at h
    simpa using h
  have hlen := sp_len true l p a hp4 (l.length + 1) 0 0 ts 0 (by omega) (by omega) hlg
  have hg := lex_good hl
  have hw := wf_all true l (l.length + 1) 0 0 ts (by omega) (by omega) hlg
  obtain ⟨_, ts', r, hl', hpr⟩ := parse_ok_cases hx
  rw [hl] at hl'
  simp at hl'; subst hl'
  rcases lex_sp true p a hp (fun j t h => (ha j t h).1) ts 0 0 0 hg hw with ⟨z, hz, _⟩ | ⟨us, hu, hi⟩
  · refine Or.inl ⟨z, 36, ?_, Or.inr rfl⟩
    unfold Px.parse Lx.lex
    rw [if_neg (by omega), hz]
  · have hlu : Lx.lex true (sp p a 0 ts) = .inl us := by
      unfold Lx.lex
      rw [if_neg (by omega)]; exact hu
    rw [parse_of hlu]
    rcases ins_two hi ha hg hpr with ⟨z, hz⟩ | ⟨p2, r2, h3, h4⟩
    · rw [hz]; exact Or.inl ⟨z, 32, rfl, Or.inl rfl⟩
    · rw [h3]; exact Or.inr ⟨p2, rfl, h4⟩
end Go.Proofs.YtnmdnjdibdmodaaGreatDoor
