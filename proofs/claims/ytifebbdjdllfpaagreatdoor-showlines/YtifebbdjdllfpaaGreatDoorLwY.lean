import Derived.Test.YtifebbdjdllfpaaGreatDoorSxB
import Derived.Test.YtifebbdjdllfpaaGreatDoorLwX
/- The lines of a program's text: bytes, blanks at lines' ends, tabs and braces. Plain mathematics. -/
namespace Go.Proofs.YtifebbdjdllfpaaGreatDoor
open Px (Ex St Sl Pr exT WfE WfS WfSs WfSl WfF WfP NmOk Ty lowE lv opL opX dg)
open Lx (B Tok)
set_option linter.unusedSimpArgs false
set_option linter.unusedVariables false

/-- How far a look at a text's lines has come. -/
structure Sc where
  tabs : Int
  start : Bool
  quoted : Bool
  types : Int
  opened : Int
/-- One byte; prev: the one ahead, next: the one behind. None: something is wrong. The second: the next byte is passed over. -/
def stepS (prev next : Option UInt8) (c : UInt8) (s : Sc) : Option (Sc × Bool) :=
  if c = 10 then (if (prev = some 32 ∨ prev = some 9) ∨ s.quoted = true then none else some ({ s with start := true, tabs := 0 }, false))
  else if c = 9 then (if s.start = true then some ({ s with tabs := s.tabs + 1 }, false) else none)
  else if c < 32 ∨ 126 < c then none
  else if s.start = true ∧ s.tabs ≠ (if c = 125 then s.opened - 1 else s.opened) then none
  else if s.quoted = true ∧ c = 92 then some ({ s with start := false }, true)
  else if c = 34 then some ({ s with start := false, quoted := !s.quoted }, false)
  else if s.quoted = true then some ({ s with start := false }, false)
  else if c = 123 ∧ (next = some 105 ∨ next = some 116) then some ({ s with start := false, types := s.types + 1 }, false)
  else if c = 125 ∧ 0 < s.types then some ({ s with start := false, types := s.types - 1 }, false)
  else if c = 123 then some ({ s with start := false, opened := s.opened + 1 }, false)
  else if c = 125 then some ({ s with start := false, opened := s.opened - 1 }, false)
  else some ({ s with start := false }, false)
def scan : Option UInt8 → Sc → B → Option (Sc × Option UInt8)
  | prev, s, [] => some (s, prev)
  | prev, s, c :: r =>
    match stepS prev r.head? c s with
    | none => none
    | some (s', false) => scan (some c) s' r
    | some (s', true) =>
      match r with
      | [] => some (s', none)
      | d :: r' => scan (some d) s' r'
/-- Within a line. -/
def mid (t n o : Int) : Sc := ⟨t, false, false, n, o⟩
/-- At a line's beginning, behind its tabs. -/
def atS (t n o : Int) : Sc := ⟨t, true, false, n, o⟩
def calm (c : UInt8) : Bool := 32 ≤ c && c ≤ 126 && c != 34 && c != 123 && c != 125
theorem calm_iff {c : UInt8} (h : calm c = true) : c ≠ 10 ∧ c ≠ 9 ∧ ¬ (c < 32 ∨ 126 < c) ∧ c ≠ 34 ∧ c ≠ 123 ∧ c ≠ 125 := by
  simp only [calm, Bool.and_eq_true, decide_eq_true_eq, bne_iff_ne, ne_eq] at h
  obtain ⟨⟨⟨⟨h1, h2⟩, h3⟩, h4⟩, h5⟩ := h
  refine ⟨fun e => ?_, fun e => ?_, fun e => ?_, h3, h4, h5⟩
  · rw [e] at h1; revert h1; decide
  · rw [e] at h1; revert h1; decide
  · simp only [UInt8.lt_iff_toNat_lt, UInt8.le_iff_toNat_le] at e h1 h2
    omega
theorem step_calm {prev next : Option UInt8} {c : UInt8} {t n o : Int} (h : calm c = true) : stepS prev next c (mid t n o) = some (mid t n o, false) := by
  obtain ⟨h1, h2, h3, h4, h5, h6⟩ := calm_iff h
  unfold stepS
  rw [if_neg h1, if_neg h2, if_neg h3, if_neg (by simp [mid]), if_neg (by simp [mid]), if_neg h4, if_neg (by simp [mid]), if_neg (fun hh => h5 hh.1), if_neg (fun hh => h6 hh.1), if_neg h5, if_neg h6]
  rfl
theorem step_first {prev next : Option UInt8} {c : UInt8} {n o : Int} (h : calm c = true) : stepS prev next c (atS o n o) = some (mid o n o, false) := by
  obtain ⟨h1, h2, h3, h4, h5, h6⟩ := calm_iff h
  unfold stepS
  rw [if_neg h1, if_neg h2, if_neg h3, if_neg (by simp [atS, h6]), if_neg (by simp [atS]), if_neg h4, if_neg (by simp [atS]), if_neg (fun hh => h5 hh.1), if_neg (fun hh => h6 hh.1), if_neg h5, if_neg h6]
  rfl
def lastOf (prev : Option UInt8) (s : B) : Option UInt8 := match s.getLast? with | some c => some c | none => prev
theorem lastOf_nil (p : Option UInt8) : lastOf p [] = p := rfl
theorem lastOf_app (p : Option UInt8) (a b : B) : lastOf (lastOf p a) b = lastOf p (a ++ b) := by
  unfold lastOf
  rw [List.getLast?_append]
  rcases b.getLast? with _ | c
  · simp
  · simp
theorem lastOf_cons (p : Option UInt8) (c : UInt8) (r : B) : lastOf p (c :: r) = lastOf (some c) r := by
  rw [show c :: r = [c] ++ r from rfl, ← lastOf_app]; rfl
/-- A text that leaves all as it was, within a line. -/
def Flat (s : B) : Prop := ∀ z prev t n o, 0 ≤ n → scan prev (mid t n o) (s ++ z) = scan (lastOf prev s) (mid t n o) z
theorem Flat.nil : Flat [] := fun z prev t n o _ => rfl
theorem Flat.app {a b : B} (h1 : Flat a) (h2 : Flat b) : Flat (a ++ b) := fun z prev t n o hn => by rw [List.append_assoc, h1 _ _ _ _ _ hn, h2 _ _ _ _ _ hn, lastOf_app]
theorem flat_one {c : UInt8} (h : calm c = true) : Flat [c] := fun z prev t n o _ => by
  show scan prev (mid t n o) (c :: z) = _
  rw [scan, step_calm h]
  rfl
theorem flat_calm : ∀ {s : B}, s.all calm = true → Flat s
  | [], _ => Flat.nil
  | c :: r, h => by
    simp only [List.all_cons, Bool.and_eq_true] at h
    exact (flat_one h.1).app (flat_calm h.2)
theorem flat_m {c : UInt8} {s : B} (h : calm c = true) (hs : Flat s) : Flat (c :: s) := (flat_one h).app hs
/- Within quotes. -/
def quo (t n o : Int) : Sc := ⟨t, false, true, n, o⟩
theorem plain_iff {c : UInt8} (h : Lx.isPlain c = true) : c ≠ 10 ∧ c ≠ 9 ∧ ¬ (c < 32 ∨ 126 < c) := by
  simp only [Lx.isPlain, Bool.and_eq_true, decide_eq_true_eq] at h
  refine ⟨fun e => ?_, fun e => ?_, fun e => ?_⟩
  · rw [e] at h; revert h; decide
  · rw [e] at h; revert h; decide
  · simp only [UInt8.lt_iff_toNat_lt, UInt8.le_iff_toNat_le] at e h
    omega
theorem scan_esc : ∀ {l : B}, l.all Lx.isPlain = true → ∀ z prev t n o, scan prev (quo t n o) (escT l ++ z) = scan (lastOf prev (escT l)) (quo t n o) z
  | [], _, z, prev, t, n, o => rfl
  | c :: r, h, z, prev, t, n, o => by
    simp only [List.all_cons, Bool.and_eq_true] at h
    obtain ⟨h1, h2, h3⟩ := plain_iff h.1
    have ih := scan_esc h.2
    have e : escT (c :: r) = (if Lx.isEsc c then [92, c] else [c]) ++ escT r := by simp [escT]
    rw [e, ← lastOf_app, List.append_assoc]
    by_cases he : Lx.isEsc c = true
    · rw [if_pos he]
      show scan prev (quo t n o) (92 :: c :: (escT r ++ z)) = _
      rw [scan]
      have hs : stepS prev (c :: (escT r ++ z)).head? 92 (quo t n o) = some (quo t n o, true) := by
        unfold stepS
        rw [if_neg (by decide), if_neg (by decide), if_neg (by decide), if_neg (by simp [quo]), if_pos (by simp [quo])]
        rfl
      rw [hs]
      simp only
      rw [ih]
      rfl
    · rw [if_neg he]
      have hne : c ≠ 34 ∧ c ≠ 92 := by
        simp only [Lx.isEsc, Bool.or_eq_true, beq_iff_eq] at he
        exact ⟨fun e => he (Or.inl e), fun e => he (Or.inr e)⟩
      show scan prev (quo t n o) (c :: (escT r ++ z)) = _
      rw [scan]
      have hs : stepS prev (escT r ++ z).head? c (quo t n o) = some (quo t n o, false) := by
        unfold stepS
        rw [if_neg h1, if_neg h2, if_neg h3, if_neg (by simp [quo]), if_neg (fun hh => hne.2 hh.2), if_neg hne.1, if_pos (by simp [quo])]
        rfl
      rw [hs]
      simp only
      rw [ih]
      rfl
theorem flat_quote {l : B} (h : l.all Lx.isPlain = true) : Flat (quoteT l) := by
  intro z prev t n o _
  have e : quoteT l ++ z = 34 :: (escT l ++ 34 :: z) := by simp [quoteT]
  rw [e, scan]
  have h1 : stepS prev (escT l ++ 34 :: z).head? 34 (mid t n o) = some (quo t n o, false) := by
    unfold stepS
    rw [if_neg (by decide), if_neg (by decide), if_neg (by decide), if_neg (by simp [mid]), if_neg (by simp [mid]), if_pos rfl]
    rfl
  rw [h1]
  simp only
  rw [scan_esc h, scan]
  have h2 : stepS (lastOf (some 34) (escT l)) z.head? 34 (quo t n o) = some (mid t n o, false) := by
    unfold stepS
    rw [if_neg (by decide), if_neg (by decide), if_neg (by decide), if_neg (by simp [quo]), if_neg (by simp [quo]), if_pos rfl]
    rfl
  rw [h2]
  have h3 : lastOf prev (quoteT l) = some 34 := by
    unfold lastOf quoteT
    rw [List.getLast?_append]
    rfl
  rw [h3]
/- Words. -/
theorem part_calm {c : UInt8} (h : Lx.isPart c = true) : calm c = true := by
  simp only [Lx.isPart, Lx.isLetter, Lx.isDigit, Bool.or_eq_true, Bool.and_eq_true, decide_eq_true_eq, beq_iff_eq, UInt8.le_iff_toNat_le] at h
  simp only [calm, Bool.and_eq_true, decide_eq_true_eq, bne_iff_ne, ne_eq, UInt8.le_iff_toNat_le]
  have e1 : (97 : UInt8).toNat = 97 := rfl
  have e2 : (122 : UInt8).toNat = 122 := rfl
  have e3 : (48 : UInt8).toNat = 48 := rfl
  have e4 : (57 : UInt8).toNat = 57 := rfl
  have e5 : (32 : UInt8).toNat = 32 := rfl
  have e6 : (126 : UInt8).toNat = 126 := rfl
  have hn : ∀ x : UInt8, c = x → c.toNat = x.toNat := fun x hx => by rw [hx]
  rcases h with (h | h) | h
  · exact ⟨⟨⟨⟨by omega, by omega⟩, fun e => by have := hn _ e; have h34 : (34 : UInt8).toNat = 34 := rfl; omega⟩, fun e => by have := hn _ e; have h34 : (123 : UInt8).toNat = 123 := rfl; omega⟩, fun e => by have := hn _ e; have h34 : (125 : UInt8).toNat = 125 := rfl; omega⟩
  · subst h; decide
  · exact ⟨⟨⟨⟨by omega, by omega⟩, fun e => by have := hn _ e; have h34 : (34 : UInt8).toNat = 34 := rfl; omega⟩, fun e => by have := hn _ e; have h34 : (123 : UInt8).toNat = 123 := rfl; omega⟩, fun e => by have := hn _ e; have h34 : (125 : UInt8).toNat = 125 := rfl; omega⟩
/-- A name's bytes. -/
theorem name_parts {t : B} {m : Nat} (h : VW 1 t m) : ∃ c r, t = c :: r ∧ Lx.isLetter c = true ∧ t.all Lx.isPart = true := by
  have h1 := h.reads [] (fun c hc => by simp at hc)
  obtain ⟨y, r, e, _, _⟩ := h.head
  have hw : word 1 t = t := rfl
  rw [hw] at e h1
  rw [List.append_nil] at h1
  rw [e] at h1 ⊢
  simp only [Lx.tokR] at h1
  split at h1
  · rename_i hl
    unfold Lx.nameR at h1
    split at h1
    · simp only [Lx.R.ok, Sum.inl.injEq, Prod.mk.injEq] at h1
      refine ⟨y, r, rfl, hl, ?_⟩
      rw [List.all_eq_true]
      intro c hc
      rw [← h1.2.1] at hc
      exact Lx.tw_mem c hc
    · simp [Lx.R.ok, Lx.R.bad] at h1
  split at h1
  · unfold Lx.numberR at h1
    split at h1
    · simp [Lx.R.ok, Lx.R.bad] at h1
    split at h1 <;> simp [Lx.R.ok, Lx.R.bad] at h1
  split at h1
  · have := quote_kinds r.length r 1 [] 1 _ m _ (Nat.le_refl _) h1
    omega
  · unfold Lx.markR at h1; split at h1 <;> simp [Lx.R.ok, Lx.R.bad] at h1
theorem flat_name {t : B} {m : Nat} (h : VW 1 t m) : Flat t := by
  obtain ⟨c, r, _, _, ha⟩ := name_parts h
  refine flat_calm ?_
  rw [List.all_eq_true] at ha ⊢
  exact fun c hc => part_calm (ha c hc)
theorem flat_dg (n : Nat) : Flat (dg n) := by
  obtain ⟨_, h2, _⟩ := dgF_spec (n + 1) n (by omega)
  refine flat_calm ?_
  rw [List.all_eq_true]
  exact fun c hc => part_calm (by simp [Lx.isPart, h2 c hc])
theorem vw_plain {t : B} {m : Nat} (h : VW 3 t m) : t.all Lx.isPlain = true := by
  have h1 := h.reads [] (fun c hc => by simp at hc)
  obtain ⟨y, r, e, _, _⟩ := h.head
  rw [List.append_nil, e] at h1
  rcases tok_text h1 with h2 | h2
  · have := h2.2.2
    simp only [plainB, Bool.and_eq_true] at this
    exact this.2
  · exact absurd rfl h2.1
/- Expressions. -/
theorem flat_within {b : Bool} {s : B} (h : Flat s) : Flat (withinS b s) := by
  cases b
  · exact h
  · exact flat_m (by decide) (h.app (flat_one (by decide)))
theorem flat_commas : ∀ {l : List B}, (∀ s ∈ l, Flat s) → Flat (commasS l)
  | [], _ => Flat.nil
  | [a], h => h a (by simp)
  | a :: b :: r, h => by
    rw [commasS]
    exact (h a (by simp)).app (flat_m (by decide) (flat_m (by decide) (flat_commas (l := b :: r) (fun s hs => h s (by simp at hs ⊢; exact Or.inr hs)))))
theorem flat_ex : ∀ (N : Nat) (e : Ex), SizeOf.sizeOf e ≤ N → WfE VW e → Flat (exS e)
  | 0, .mk k o n t args p, hN, _ => by simp at hN
  | N + 1, .mk k o n t args p, hN, hw => by
    rw [WfE] at hw
    obtain ⟨hf, hs⟩ := hw
    simp only [Ex.mk.sizeOf_spec] at hN
    rcases hf with h | h | h | h | h | h | h | h
    · obtain ⟨rfl, rfl, rfl, hlen, x, hx⟩ := h
      have e1 : exS (.mk 1 0 n [] args p) = dg n := by simp [exS, exKS]
      rw [e1]; exact flat_dg n
    · obtain ⟨rfl, rfl, rfl, hlen, hn⟩ := h
      rcases (show n = 0 ∨ n = 1 by omega) with rfl | rfl
      · have e1 : exS (.mk 2 0 0 [] args p) = [102, 97, 108, 115, 101] := by simp [exS, exKS]
        rw [e1]; exact flat_calm (by decide)
      · have e1 : exS (.mk 2 0 1 [] args p) = [116, 114, 117, 101] := by simp [exS, exKS]
        rw [e1]; exact flat_calm (by decide)
    · obtain ⟨rfl, rfl, rfl, hlen, hv⟩ := h
      have e1 : exS (.mk 3 0 0 t args p) = quoteT t := by simp [exS, exKS]
      rw [e1]; exact flat_quote (vw_plain hv)
    · obtain ⟨rfl, rfl, rfl, hlen, hr, hv⟩ := h
      have e1 : exS (.mk 6 0 0 t args p) = t := by simp [exS, exKS]
      rw [e1]; exact flat_name hv
    · obtain ⟨rfl, rfl, rfl, hr, hv⟩ := h
      rw [exS_call]
      refine (flat_name hv).app (flat_m (by decide) ((flat_commas (fun s hs2 => ?_)).app (flat_one (by decide))))
      simp only [List.mem_map] at hs2
      obtain ⟨x, hx, rfl⟩ := hs2
      exact flat_ex N x (by have := Px.size_mem hx; omega) (Px.WfEs_all.1 hs x hx)
    · obtain ⟨rfl, rfl, rfl, rfl, hlen⟩ := h
      match args, hlen, hs, hN with
      | [a, b], _, hs, hN =>
        simp only [Px.WfEs] at hs
        simp only [List.cons.sizeOf_spec] at hN
        rw [exS_at]
        exact (flat_within (flat_ex N a (by omega) hs.1)).app (flat_m (by decide) ((flat_ex N b (by omega) hs.2.1).app (flat_one (by decide))))
    · obtain ⟨hk, rfl, rfl, rfl, hlen⟩ := h
      match args, hlen, hs, hN with
      | [a], _, hs, hN =>
        simp only [Px.WfEs] at hs
        simp only [List.cons.sizeOf_spec] at hN
        rcases hk with rfl | rfl
        · rw [exS_neg]; exact flat_m (by decide) (flat_within (flat_ex N a (by omega) hs.1))
        · rw [exS_not]; exact flat_m (by decide) (flat_within (flat_ex N a (by omega) hs.1))
    · obtain ⟨rfl, h1, h2, rfl, rfl, hlen⟩ := h
      match args, hlen, hs, hN with
      | [a, b], _, hs, hN =>
        simp only [Px.WfEs] at hs
        simp only [List.cons.sizeOf_spec] at hN
        rw [exS_bin]
        have hop : Flat (opX o) := by
          rcases Px.op_cases h1 h2 with rfl | rfl | rfl | rfl | rfl | rfl | rfl | rfl | rfl | rfl | rfl | rfl | rfl <;> exact flat_calm (by decide)
        exact (flat_within (flat_ex N a (by omega) hs.1)).app (flat_m (by decide) (hop.app (flat_m (by decide) (flat_within (flat_ex N b (by omega) hs.2.1)))))
theorem flat_e {e : Ex} (h : WfE VW e) : Flat (exS e) := flat_ex _ e (Nat.le_refl _) h
/- Types. -/
theorem flat_brace {a : B} (ha : a = [105, 110, 116] ∨ a = [116, 101, 120, 116]) {y : B} (hy : Flat y) : Flat (123 :: (a ++ 58 :: (y ++ [125]))) := by
  intro z prev t n o hn
  have hA : Flat (a ++ 58 :: y) := by
    rcases ha with rfl | rfl
    · exact (flat_calm (s := [105, 110, 116]) (by decide)).app (flat_m (by decide) hy)
    · exact (flat_calm (s := [116, 101, 120, 116]) (by decide)).app (flat_m (by decide) hy)
  have e : 123 :: (a ++ 58 :: (y ++ [125])) ++ z = 123 :: ((a ++ 58 :: y) ++ 125 :: z) := by simp
  rw [e, scan]
  have h1 : stepS prev ((a ++ 58 :: y) ++ 125 :: z).head? 123 (mid t n o) = some (mid t (n + 1) o, false) := by
    have hn : ((a ++ 58 :: y) ++ 125 :: z).head? = some 105 ∨ ((a ++ 58 :: y) ++ 125 :: z).head? = some 116 := by rcases ha with rfl | rfl <;> simp
    unfold stepS
    rw [if_neg (by decide), if_neg (by decide), if_neg (by decide), if_neg (by simp [mid]), if_neg (by simp [mid]), if_neg (by decide), if_neg (by simp [mid]), if_pos ⟨rfl, hn⟩]
    rfl
  rw [h1]
  simp only
  rw [hA _ _ _ _ _ (by omega), scan]
  have h2 : stepS (lastOf (some 123) (a ++ 58 :: y)) z.head? 125 (mid t (n + 1) o) = some (mid t n o, false) := by
    unfold stepS
    rw [if_neg (by decide), if_neg (by decide), if_neg (by decide), if_neg (by simp [mid]), if_neg (by simp [mid]), if_neg (by decide), if_neg (by simp [mid]), if_neg (fun hh => absurd hh.1 (by decide)), if_pos ⟨rfl, by simp [mid]; omega⟩]
    simp [mid]
  rw [h2]
  have h3 : lastOf prev (123 :: (a ++ 58 :: (y ++ [125]))) = some 125 := by
    have : 123 :: (a ++ 58 :: (y ++ [125])) = (123 :: (a ++ 58 :: y)) ++ [125] := by simp
    rw [this]
    unfold lastOf
    rw [List.getLast?_append]
    rfl
  rw [h3]
theorem flat_ty {k : Nat} {y : B} {c : List Tok} (h : Ty k y c) : Flat y := by
  induction h with
  | int => exact flat_calm (by decide)
  | bool => exact flat_calm (by decide)
  | text => exact flat_calm (by decide)
  | @list k y c _ ih =>
    have := flat_m (c := 91) (by decide) (ih.app (flat_one (c := 93) (by decide)))
    simpa using this
  | @map k a y c ha _ ih =>
    have := flat_brace ha ih
    simpa using this
/- Statements and blocks. -/
/-- Within a line as many braces are open behind it as ahead of it. -/
def Run (o : Int) (s : B) : Prop := ∀ z prev t, ∃ t', scan prev (mid t 0 o) (s ++ z) = scan (lastOf prev s) (mid t' 0 o) z
theorem Flat.run {s : B} (h : Flat s) (o : Int) : Run o s := fun z prev t => ⟨t, h z prev t 0 o (by omega)⟩
theorem Run.app {o : Int} {a b : B} (h1 : Run o a) (h2 : Run o b) : Run o (a ++ b) := fun z prev t => by
  obtain ⟨t1, e1⟩ := h1 (b ++ z) prev t
  obtain ⟨t2, e2⟩ := h2 z (lastOf prev a) t1
  exact ⟨t2, by rw [List.append_assoc, e1, e2, lastOf_app]⟩
/-- Whole lines. -/
def Lns (o : Int) (s : B) : Prop := ∀ z prev, scan prev (atS 0 0 o) (s ++ z) = scan (lastOf prev s) (atS 0 0 o) z
theorem Lns.nil (o : Int) : Lns o [] := fun z prev => rfl
theorem Lns.app {o : Int} {a b : B} (h1 : Lns o a) (h2 : Lns o b) : Lns o (a ++ b) := fun z prev => by rw [List.append_assoc, h1, h2, lastOf_app]
def tabsN (k : Nat) : B := List.replicate k 9
theorem tabs_run : ∀ (k : Nat) (z : B) (prev : Option UInt8) (t n o : Int), scan prev (atS t n o) (tabsN k ++ z) = scan (lastOf prev (tabsN k)) (atS (t + k) n o) z
  | 0, z, prev, t, n, o => by simp [tabsN, lastOf]
  | k + 1, z, prev, t, n, o => by
    have e : tabsN (k + 1) = 9 :: tabsN k := by simp [tabsN, List.replicate_succ]
    rw [e, List.cons_append, scan]
    have h1 : stepS prev (tabsN k ++ z).head? 9 (atS t n o) = some (atS (t + 1) n o, false) := by
      unfold stepS
      rw [if_neg (by decide), if_pos rfl, if_pos (show (atS t n o).start = true from rfl)]
      rfl
    rw [h1]
    simp only
    rw [tabs_run k, lastOf_cons]
    congr 2
    omega
/-- A line's first byte. -/
theorem first_run {o : Int} {c : UInt8} {r : B} (hc : calm c = true) (h : Run o (c :: r)) (z : B) (prev : Option UInt8) : ∃ t', scan prev (atS o 0 o) (c :: r ++ z) = scan (lastOf prev (c :: r)) (mid t' 0 o) z := by
  obtain ⟨t', e⟩ := h z prev o
  refine ⟨t', ?_⟩
  rw [← e, List.cons_append, scan, scan, step_first hc, step_calm hc]
theorem line_end {prev : Option UInt8} {t o : Int} {z : B} (h1 : prev ≠ some 32) (h2 : prev ≠ some 9) : scan prev (mid t 0 o) (10 :: z) = scan (some 10) (atS 0 0 o) z := by
  rw [scan]
  have hs : stepS prev z.head? 10 (mid t 0 o) = some (atS 0 0 o, false) := by
    unfold stepS
    rw [if_pos rfl, if_neg (by simp [mid, h1, h2])]
    rfl
  rw [hs]
/-- The last byte is no blank. -/
def Fin (s : B) : Prop := s.getLast? = some 59 ∨ s.getLast? = some 125
theorem Fin.last {s : B} (h : Fin s) (prev : Option UInt8) : lastOf prev s ≠ some 32 ∧ lastOf prev s ≠ some 9 := by
  unfold lastOf
  rcases h with h | h <;> rw [h] <;> exact ⟨by simp, by simp⟩
theorem fin_app {a b : B} (h : Fin b) : Fin (a ++ b) := by
  unfold Fin at h ⊢
  rw [List.getLast?_append]
  rcases h with h | h <;> rw [h] <;> simp
theorem brace_open {prev next : Option UInt8} {t o : Int} (h : next ≠ some 105 ∧ next ≠ some 116) : stepS prev next 123 (mid t 0 o) = some (mid t 0 (o + 1), false) := by
  unfold stepS
  rw [if_neg (by decide), if_neg (by decide), if_neg (by decide), if_neg (by simp [mid]), if_neg (by simp [mid]), if_neg (by decide), if_neg (by simp [mid]), if_neg (fun hh => by rcases hh.2 with h2 | h2; exact h.1 h2; exact h.2 h2), if_neg (fun hh => absurd hh.1 (by decide)), if_pos rfl]
  rfl
theorem brace_shut {prev next : Option UInt8} {t o : Int} : stepS prev next 125 (mid t 0 (o + 1)) = some (mid t 0 o, false) := by
  unfold stepS
  rw [if_neg (by decide), if_neg (by decide), if_neg (by decide), if_neg (by simp [mid]), if_neg (by simp [mid]), if_neg (by decide), if_neg (by simp [mid]), if_neg (fun hh => absurd hh.1 (by decide)), if_neg (by simp [mid]), if_neg (by decide), if_pos rfl]
  simp [mid]
theorem brace_shut_at {prev next : Option UInt8} {o : Int} : stepS prev next 125 (atS o 0 (o + 1)) = some (mid o 0 o, false) := by
  unfold stepS
  rw [if_neg (by decide), if_neg (by decide), if_neg (by decide), if_neg (by simp [atS]), if_neg (by simp [atS]), if_neg (by decide), if_neg (by simp [atS]), if_neg (fun hh => absurd hh.1 (by decide)), if_neg (by simp [atS]), if_neg (by decide), if_pos rfl]
  simp [mid, atS]
theorem blk_run {s : B} {none : Bool} {k : Nat} (h : Lns (k + 1) s) : Run k (blkS s (tabsN k) none) ∧ Fin (blkS s (tabsN k) none) := by
  unfold blkS
  split
  · refine ⟨fun z prev t => ⟨t, ?_⟩, Or.inr rfl⟩
    show scan prev (mid t 0 k) (123 :: 125 :: z) = _
    rw [scan, brace_open ⟨by simp, by simp⟩]
    simp only
    rw [scan, brace_shut]
    rfl
  · refine ⟨fun z prev t => ⟨k, ?_⟩, ?_⟩
    · have e : 123 :: 10 :: (s ++ (tabsN k ++ [125])) ++ z = 123 :: 10 :: (s ++ (tabsN k ++ 125 :: z)) := by simp
      rw [e, scan, brace_open ⟨by simp, by simp⟩]
      simp only
      rw [line_end (by decide) (by decide), h, tabs_run, scan]
      rw [show (0 : Int) + (k : Int) = (k : Int) by omega, brace_shut_at]
      have h3 : lastOf prev (123 :: 10 :: (s ++ (tabsN k ++ [125]))) = some 125 := by
        have : 123 :: 10 :: (s ++ (tabsN k ++ [125])) = (123 :: 10 :: (s ++ tabsN k)) ++ [125] := by simp
        rw [this]
        unfold lastOf
        rw [List.getLast?_append]
        rfl
      rw [h3]
    · have : 123 :: 10 :: (s ++ (tabsN k ++ [125])) = (123 :: 10 :: (s ++ tabsN k)) ++ [125] := by simp
      rw [this]
      exact fin_app (Or.inr rfl)
theorem fin_semi : Fin [59] := Or.inl rfl
theorem stK_run {k : Nat} {n : B} {es : List Ex} {b c : List St} {bs cs : B} {o : Int} {kk : Nat} (hf : Px.FormS VW kk n es.length b c) (he : ∀ e ∈ es, WfE VW e) (hb : Run o bs ∧ Fin bs) (hc : Run o cs ∧ Fin cs) :
    Run o (stKS kk n (es.map exS) bs cs c.isEmpty) ∧ Fin (stKS kk n (es.map exS) bs cs c.isEmpty) ∧ ∃ x r, stKS kk n (es.map exS) bs cs c.isEmpty = x :: r ∧ calm x = true := by
  have fl : ∀ {s : B}, s.all calm = true → Run o s := fun h => (flat_calm h).run o
  have nm : ∀ {n : B}, NmOk VW n → Run o n := fun h => (flat_name h.2).run o
  rcases hf with h | h | h | h | h | h
  · obtain ⟨rfl, hn, hlen, rfl, rfl⟩ := h
    match es, hlen, he with
    | [x], _, he =>
      have hx := (flat_e (he x (by simp))).run o
      exact ⟨(fl (by decide)).app ((nm hn).app ((fl (by decide)).app (hx.app (fl (by decide))))), fin_app (fin_app (fin_app (fin_app fin_semi))), _, _, rfl, by decide⟩
  · obtain ⟨rfl, hn, hlen, rfl, rfl⟩ := h
    match es, hlen, he with
    | [x], _, he =>
      have hx := (flat_e (he x (by simp))).run o
      exact ⟨(fl (by decide)).app ((nm hn).app ((fl (by decide)).app (hx.app (fl (by decide))))), fin_app (fin_app (fin_app (fin_app fin_semi))), _, _, rfl, by decide⟩
    | [y, x], _, he =>
      have hy := (flat_e (he y (by simp))).run o
      have hx := (flat_e (he x (by simp))).run o
      exact ⟨(fl (by decide)).app ((nm hn).app ((fl (by decide)).app (hy.app ((fl (by decide)).app (hx.app (fl (by decide))))))), fin_app (fin_app (fin_app (fin_app (fin_app (fin_app fin_semi))))), _, _, rfl, by decide⟩
  · obtain ⟨rfl, hn, hlen, rfl, rfl⟩ := h
    match es, hlen, he with
    | [x], _, he =>
      have hx := (flat_e (he x (by simp))).run o
      exact ⟨(fl (by decide)).app ((nm hn).app ((fl (by decide)).app (hx.app (fl (by decide))))), fin_app (fin_app (fin_app (fin_app (Or.inl rfl)))), _, _, rfl, by decide⟩
  · obtain ⟨rfl, rfl, hlen⟩ := h
    match es, hlen, he with
    | [x], _, he =>
      have hx := (flat_e (he x (by simp))).run o
      rcases c with _ | ⟨c1, c2⟩
      · have hb2 : Run o (bs ++ []) ∧ Fin (bs ++ []) := by rw [List.append_nil]; exact hb
        exact ⟨(fl (by decide)).app (hx.app ((fl (by decide)).app hb2.1)), fin_app (fin_app (fin_app hb2.2)), _, _, rfl, by decide⟩
      · have h2 : Run o (bs ++ ([32, 101, 108, 115, 101, 32] ++ cs)) ∧ Fin (bs ++ ([32, 101, 108, 115, 101, 32] ++ cs)) := ⟨hb.1.app ((fl (by decide)).app hc.1), fin_app (fin_app hc.2)⟩
        exact ⟨(fl (by decide)).app (hx.app ((fl (by decide)).app h2.1)), fin_app (fin_app (fin_app h2.2)), _, _, rfl, by decide⟩
  · obtain ⟨rfl, hn, hlen, rfl⟩ := h
    match es, hlen, he with
    | [x], _, he =>
      have hx := (flat_e (he x (by simp))).run o
      exact ⟨(fl (by decide)).app ((nm hn).app ((fl (by decide)).app (hx.app ((fl (by decide)).app hb.1)))), fin_app (fin_app (fin_app (fin_app (fin_app hb.2)))), _, _, rfl, by decide⟩
  · obtain ⟨rfl, rfl, hlen, rfl, rfl⟩ := h
    match es, hlen, he with
    | [x], _, he =>
      have hx := (flat_e (he x (by simp))).run o
      exact ⟨(fl (by decide)).app (hx.app (fl (by decide))), fin_app (fin_app fin_semi), _, _, rfl, by decide⟩
theorem tabs_snoc (k : Nat) : tabsN k ++ [9] = tabsN (k + 1) := by
  simp only [tabsN]
  rw [List.replicate_succ']
mutual
theorem st_run : ∀ (s : St) (k : Nat), WfS VW s → Run k (stS s (tabsN k)) ∧ Fin (stS s (tabsN k)) ∧ ∃ x r, stS s (tabsN k) = x :: r ∧ calm x = true
  | .mk kk n es b c p, k, hw => by
    rw [WfS] at hw
    obtain ⟨hf, he, hb, hc⟩ := hw
    rw [stS]
    exact stK_run (k := k) hf he (blk_run (sts_run b k hb)) (blk_run (sts_run c k hc))
theorem sts_run : ∀ (l : List St) (k : Nat), WfSs VW l → Lns (k + 1) (stsS l (tabsN k))
  | [], k, _ => by rw [stsS]; exact Lns.nil _
  | s :: r, k, hw => by
    rw [WfSs] at hw
    obtain ⟨h1, h2, x, q, e, hx⟩ := st_run s (k + 1) hw.1
    have ih := sts_run r k hw.2
    intro z prev
    have e1 : stsS (s :: r) (tabsN k) ++ z = tabsN (k + 1) ++ (stS s (tabsN (k + 1)) ++ (10 :: (stsS r (tabsN k) ++ z))) := by
      rw [stsS, tabs_snoc, ← tabs_snoc]
      simp
    have e2 : lastOf prev (stsS (s :: r) (tabsN k)) = lastOf (some 10) (stsS r (tabsN k)) := by
      have : stsS (s :: r) (tabsN k) = (tabsN (k + 1) ++ (stS s (tabsN (k + 1)) ++ [10])) ++ stsS r (tabsN k) := by
        rw [stsS, tabs_snoc, ← tabs_snoc]
        simp
      rw [this, ← lastOf_app]
      congr 1
      unfold lastOf
      rw [List.getLast?_append, List.getLast?_append]
      rfl
    rw [e1, tabs_run, e2]
    rw [show (0 : Int) + ((k + 1 : Nat) : Int) = ((k + 1 : Nat) : Int) by omega]
    rw [show ((k : Int) + 1) = ((k + 1 : Nat) : Int) by omega]
    rw [e]
    obtain ⟨t', h3⟩ := first_run hx (by rw [← e]; exact h1) (10 :: (stsS r (tabsN k) ++ z)) (lastOf prev (tabsN (k + 1)))
    rw [h3]
    have hl := h2.last (lastOf prev (tabsN (k + 1)))
    rw [e] at hl
    rw [line_end hl.1 hl.2]
    have := ih z (some 10)
    rw [show ((k : Int) + 1) = ((k + 1 : Nat) : Int) by omega] at this
    exact this
end
/-- A line of its own. -/
theorem one_line {s : B} {x : UInt8} {r : B} (e : s = x :: r) (hx : calm x = true) (h : Run 0 s) (hf : Fin s) : Lns 0 (s ++ [10]) := by
  intro z prev
  rw [List.append_assoc]
  subst e
  obtain ⟨t', h3⟩ := first_run hx h ([10] ++ z) prev
  rw [h3]
  have hl := hf.last prev
  show scan (lastOf prev (x :: r)) (mid t' 0 0) (10 :: z) = _
  rw [line_end hl.1 hl.2]
  congr 1
  unfold lastOf
  rw [List.getLast?_append]
  rfl
theorem sl_flat {s : Sl} (h : WfSl VW s) : Flat (slS s) := by
  obtain ⟨hn, c, hc⟩ := h
  exact (flat_name hn.2).app ((flat_calm (s := [58, 32]) (by decide)).app (flat_ty hc))
theorem ss_run : ∀ {l : List Sl}, (∀ s ∈ l, WfSl VW s) → Lns 0 (ssS l)
  | [], _ => by rw [ssS]; exact Lns.nil _
  | s :: r, h => by
    have e : ssS (s :: r) = (([115, 116, 97, 116, 101, 32] ++ (slS s ++ [59])) ++ [10]) ++ ssS r := by rw [ssS]; simp
    rw [e]
    have ih := ss_run (l := r) (fun x hx => h x (by simp [hx]))
    refine (one_line (s := [115, 116, 97, 116, 101, 32] ++ (slS s ++ [59])) (x := 115) (r := [116, 97, 116, 101, 32] ++ (slS s ++ [59])) rfl (by decide) ?_ (fin_app (fin_app fin_semi))).app ih
    exact ((flat_calm (s := [115, 116, 97, 116, 101, 32]) (by decide)).app ((sl_flat (h s (by simp))).app (flat_calm (s := [59]) (by decide)))).run 0
theorem fs_run : ∀ {l : List Px.Fn}, (∀ f ∈ l, WfF VW f) → Lns 0 (fsS l)
  | [], _ => by rw [fsS]; exact Lns.nil _
  | f :: r, h => by
    obtain ⟨hn, hp, ⟨c, hc⟩, hb, hd⟩ := h f (by simp)
    have ih := fs_run (l := r) (fun x hx => h x (by simp [hx]))
    obtain ⟨b1, b2⟩ := blk_run (none := f.body.isEmpty) (sts_run f.body 0 hb)
    have e : fsS (f :: r) = (((if f.on then [111, 110, 32] else [102, 110, 32]) ++ (f.name ++ ([40] ++ (commasS (f.params.map slS) ++ ([41, 58, 32] ++ (f.result ++ ([32] ++ blkS (stsS f.body (tabsN 0)) (tabsN 0) f.body.isEmpty))))))) ++ [10]) ++ fsS r := by
      rw [fsS, fnS]; simp [tabsN]
    rw [e]
    have hps : Flat (commasS (f.params.map slS)) := flat_commas (fun s hs => by
      simp only [List.mem_map] at hs
      obtain ⟨x, hx, rfl⟩ := hs
      exact sl_flat (hp x hx))
    have hrest : Run 0 (f.name ++ ([40] ++ (commasS (f.params.map slS) ++ ([41, 58, 32] ++ (f.result ++ ([32] ++ blkS (stsS f.body (tabsN 0)) (tabsN 0) f.body.isEmpty)))))) :=
      ((flat_name hn.2).run 0).app (((flat_calm (s := [40]) (by decide)).run 0).app ((hps.run 0).app (((flat_calm (s := [41, 58, 32]) (by decide)).run 0).app (((flat_ty hc).run 0).app (((flat_calm (s := [32]) (by decide)).run 0).app b1)))))
    have hfin : Fin (f.name ++ ([40] ++ (commasS (f.params.map slS) ++ ([41, 58, 32] ++ (f.result ++ ([32] ++ blkS (stsS f.body (tabsN 0)) (tabsN 0) f.body.isEmpty)))))) := fin_app (fin_app (fin_app (fin_app (fin_app (fin_app b2)))))
    generalize (f.name ++ ([40] ++ (commasS (f.params.map slS) ++ ([41, 58, 32] ++ (f.result ++ ([32] ++ blkS (stsS f.body (tabsN 0)) (tabsN 0) f.body.isEmpty)))))) = tl at *
    rcases f.on with _ | _
    · exact (one_line (s := [102, 110, 32] ++ tl) (x := 102) (r := [110, 32] ++ tl) rfl (by decide) (((flat_calm (s := [102, 110, 32]) (by decide)).run 0).app hrest) (fin_app hfin)).app ih
    · exact (one_line (s := [111, 110, 32] ++ tl) (x := 111) (r := [110, 32] ++ tl) rfl (by decide) (((flat_calm (s := [111, 110, 32]) (by decide)).run 0).app hrest) (fin_app hfin)).app ih
/-- A program's text is in order, line by line. -/
theorem pr_lines {p : Pr} (h : WfP VW p) : scan none (atS 0 0 0) (prS p) = some (atS 0 0 0, some 10) := by
  obtain ⟨⟨x, hv⟩, hs, hf⟩ := h
  have e : prS p = ((([118, 101, 114, 115, 105, 111, 110, 32] ++ (dg p.version ++ [59])) ++ [10]) ++ ssS p.states) ++ fsS p.fns := by simp [prS]
  have h1 : Lns 0 (([118, 101, 114, 115, 105, 111, 110, 32] ++ (dg p.version ++ [59])) ++ [10]) := one_line (s := [118, 101, 114, 115, 105, 111, 110, 32] ++ (dg p.version ++ [59])) (x := 118) (r := [101, 114, 115, 105, 111, 110, 32] ++ (dg p.version ++ [59])) rfl (by decide) (((flat_calm (s := [118, 101, 114, 115, 105, 111, 110, 32]) (by decide)).app ((flat_dg _).app (flat_calm (s := [59]) (by decide)))).run 0) (fin_app (fin_app fin_semi))
  have hL : Lns 0 (prS p) := by rw [e]; exact (h1.app (ss_run hs)).app (fs_run hf)
  have := hL [] none
  rw [List.append_nil] at this
  rw [this]
  have hlast : lastOf none (prS p) = some 10 := by
    have ss : ∀ {l : List Sl}, lastOf (some 10) (ssS l) = some 10 := by
      intro l
      induction l with
      | nil => rfl
      | cons s r ih =>
        have e : ssS (s :: r) = ([115, 116, 97, 116, 101, 32] ++ (slS s ++ [59, 10])) ++ ssS r := by rw [ssS]; simp
        rw [e, ← lastOf_app]
        have : lastOf (some 10) ([115, 116, 97, 116, 101, 32] ++ (slS s ++ [59, 10])) = some 10 := by
          unfold lastOf; rw [List.getLast?_append, List.getLast?_append]; rfl
        rw [this]; exact ih
    have fs : ∀ {l : List Px.Fn}, lastOf (some 10) (fsS l) = some 10 := by
      intro l
      induction l with
      | nil => rfl
      | cons f r ih =>
        rw [fsS, ← List.append_assoc, ← lastOf_app]
        have : lastOf (some 10) ((if f.on = true then [111, 110, 32] else [102, 110, 32]) ++ fnS f) = some 10 := by
          have e2 : fnS f = (f.name ++ ([40] ++ (commasS (f.params.map slS) ++ ([41, 58, 32] ++ (f.result ++ ([32] ++ blkS (stsS f.body []) [] f.body.isEmpty)))))) ++ [10] := by simp [fnS]
          rw [e2]
          unfold lastOf; rw [List.getLast?_append, List.getLast?_append]; rfl
        rw [this]; exact ih
    rw [e, ← lastOf_app, ← lastOf_app, ← lastOf_app]
    have : lastOf (lastOf none ([118, 101, 114, 115, 105, 111, 110, 32] ++ (dg p.version ++ [59]))) [10] = some 10 := rfl
    rw [this, ss, fs]
  rw [hlast, scan]
end Go.Proofs.YtifebbdjdllfpaaGreatDoor
/- The lines of a program's text: the statement, walked. -/
namespace Go.Proofs.YtifebbdjdllfpaaGreatDoor
open Go.RowKit
open Px (WfP prT)
set_option linter.unusedSimpArgs false
set_option linter.unusedVariables false

/-- The byte ahead of a place. -/
def prevOf (l : List UInt8) (k : Nat) : Option UInt8 := if k = 0 then none else l[k - 1]?
/-- The look at a text, from a place on, comes to a good end. -/
def GoodAt (sb : ByteArray) (k : Nat) (st : Sc) : Prop := scan (prevOf sb.data.toList k) st (sb.data.toList.drop k) = some (atS 0 0 0, some 10)
theorem at_list (sb : ByteArray) (k : Nat) (h : k < sb.size) : sb.data.toList[k]? = some sb[k] := by
  rw [List.getElem?_eq_getElem (by simpa using h)]
  simp
  rfl
theorem prev_succ (sb : ByteArray) (k : Nat) (h : k < sb.size) : prevOf sb.data.toList (k + 1) = some sb[k] := by
  unfold prevOf
  rw [if_neg (by omega), Nat.add_sub_cancel, at_list sb k h]
theorem good_step {sb : ByteArray} {k : Nat} {st : Sc} (h : GoodAt sb k st) (hk : k < sb.size) : (∃ st', stepS (prevOf sb.data.toList k) (sb.data.toList[k + 1]?) sb[k] st = some (st', false) ∧ GoodAt sb (k + 1) st') ∨ (∃ st', stepS (prevOf sb.data.toList k) (sb.data.toList[k + 1]?) sb[k] st = some (st', true) ∧ k + 1 < sb.size ∧ GoodAt sb (k + 2) st') := by
  unfold GoodAt at h ⊢
  have hl : sb.data.toList.length = sb.size := by simp
  have hc : sb.data.toList.drop k = sb[k] :: sb.data.toList.drop (k + 1) := by
    rw [List.drop_eq_getElem_cons (by omega)]
    congr 1
  rw [hc, scan] at h
  have hh : (sb.data.toList.drop (k + 1)).head? = sb.data.toList[k + 1]? := by rw [List.head?_drop]
  rw [hh] at h
  rcases hst : stepS (prevOf sb.data.toList k) (sb.data.toList[k + 1]?) sb[k] st with _ | ⟨st', f⟩
  · rw [hst] at h; cases h
  · rw [hst] at h
    cases f
    · refine Or.inl ⟨st', rfl, ?_⟩
      rw [prev_succ sb k hk]
      exact h
    · refine Or.inr ⟨st', rfl, ?_⟩
      rcases hd : sb.data.toList.drop (k + 1) with _ | ⟨d, r⟩
      · simp only [hd] at h
        simp at h
      · simp only [hd] at h
        have hlt : k + 1 < sb.size := by
          have := congrArg List.length hd
          simp at this
          omega
        have hd2 : sb.data.toList.drop (k + 1) = sb[k + 1] :: sb.data.toList.drop (k + 2) := by
          rw [List.drop_eq_getElem_cons (by omega)]
          congr 1
        rw [hd2] at hd
        simp only [List.cons.injEq] at hd
        refine ⟨hlt, ?_⟩
        rw [prev_succ sb (k + 1) hlt, hd.1, hd.2]
        exact h
theorem good_end {sb : ByteArray} {st : Sc} (h : GoodAt sb sb.size st) : st = atS 0 0 0 ∧ ∃ n, sb.size = n + 1 ∧ sb.data.toList[n]? = some 10 := by
  unfold GoodAt at h
  rw [List.drop_eq_nil_of_le (by simp), scan] at h
  simp only [Option.some.injEq, Prod.mk.injEq] at h
  refine ⟨h.1, ?_⟩
  have h2 := h.2
  unfold prevOf at h2
  split at h2
  · cases h2
  · exact ⟨sb.size - 1, by omega, h2⟩
theorem u8_eq {c : UInt8} {x : Nat} (hx : x < 256) : c = UInt8.ofNat x ↔ (c.toNat : Int) = (x : Int) := by
  constructor
  · rintro rfl
    simp; omega
  · intro h
    apply UInt8.toNat_inj.1
    simp
    omega
theorem good_next {sb : ByteArray} {k : Nat} {st st' : Sc} (h : GoodAt sb k st) (hk : k < sb.size) (hs : stepS (prevOf sb.data.toList k) (sb.data.toList[k + 1]?) sb[k] st = some (st', false)) : GoodAt sb (k + 1) st' := by
  rcases good_step h hk with ⟨x, h1, h2⟩ | ⟨x, h1, _⟩
  · rw [hs] at h1
    simp only [Option.some.injEq, Prod.mk.injEq, and_true] at h1
    rw [h1]; exact h2
  · rw [hs] at h1
    simp at h1
theorem good_skip {sb : ByteArray} {k : Nat} {st st' : Sc} (h : GoodAt sb k st) (hk : k < sb.size) (hs : stepS (prevOf sb.data.toList k) (sb.data.toList[k + 1]?) sb[k] st = some (st', true)) : k + 1 < sb.size ∧ GoodAt sb (k + 2) st' := by
  rcases good_step h hk with ⟨x, h1, h2⟩ | ⟨x, h1, h2, h3⟩
  · rw [hs] at h1
    simp at h1
  · rw [hs] at h1
    simp only [Option.some.injEq, Prod.mk.injEq, and_true] at h1
    rw [h1]; exact ⟨h2, h3⟩
theorem good_none {sb : ByteArray} {k : Nat} {st : Sc} (h : GoodAt sb k st) (hk : k < sb.size) (hs : stepS (prevOf sb.data.toList k) (sb.data.toList[k + 1]?) sb[k] st = none) : False := by
  rcases good_step h hk with ⟨x, h1, h2⟩ | ⟨x, h1, h2, h3⟩ <;> (rw [hs] at h1; cases h1)
theorem u8n {c : UInt8} (x : Nat) (hx : x < 256) (h : ¬ c = UInt8.ofNat x) : ¬ (c.toNat : Int) = (x : Int) := fun e => h ((u8_eq hx).2 e)
theorem u8y {c : UInt8} (x : Nat) (hx : x < 256) (h : c = UInt8.ofNat x) : (c.toNat : Int) = (x : Int) := (u8_eq hx).1 h
theorem prev_zero (l : List UInt8) : prevOf l 0 = none := rfl
set_option maxRecDepth 100000 in
set_option maxHeartbeats 16000000 in
theorem showlines_walk (s : ByteArray) (w : World) (he : Env8 w) (hm : s.size ≤ maxLen) : Calls Tryz.prog 8 #[.string s] w fun e w' => e = .returned (.bool true) ∧ Below w.heap.size w w' := by
  have hw0 := wakes8_any w he
  go_enter Tryz.func8, Tryz.ntmps8
  go_wp2_with fail
  refine hw0.mono ?_
  rintro e w1 ⟨rfl, hb1⟩
  have he1 := he.below hb1
  clear hw0
  have hL := parse_done s w1 he1.env hm
  rcases hpr : Px.parse s.data.toList with p | ⟨a, er⟩
  rotate_left
  · rw [hpr] at hL
    replace hL : Calls Tryz.prog 10 #[.string s] w1 fun e w' => e = .returned (.tuple #[zeroPr, .int .i64 a, .int .i64 er]) ∧ Below w1.heap.size w1 w' := hL
    have her : er ≠ 0 := parse_er hpr
    have hne : ((er : Int) != 0) = true := by simp; omega
    go_wp2_with fail
    refine hL.mono ?_
    rintro e w2 ⟨rfl, hb2⟩
    have hB2 := hb1.trans (hb2.mono hb1.size)
    go_wp2
    go_ret
    exact ⟨rfl, hB2.alloc hB2.size _⟩
  rw [hpr] at hL
  replace hL : Calls Tryz.prog 10 #[.string s] w1 fun e w' => (∃ v, e = .returned (.tuple #[v, .int .i64 0, .int .i64 0]) ∧ IsPr (From w1.heap.size) w' p v) ∧ Below w1.heap.size w1 w' := hL
  obtain ⟨hw, hc⟩ := read_wf hpr
  go_wp2_with fail
  refine hL.mono ?_
  rintro e w2 ⟨⟨v, rfl, hx0⟩, hb2⟩
  obtain ⟨sa, sn, sc, fa, fn, fc, hv⟩ := hx0.cells
  subst hv
  have hB2 : Below w.heap.size w w2 := hb1.trans (hb2.mono hb1.size)
  have hbx2 : Below w2.heap.size w2 (w2.alloc (.cells #[.int .i64 p.version, .slice sa sn sc, .slice fa fn fc] 31)) := (Below.refl _ _).alloc (Nat.le_refl _) _
  have hB3 := hB2.trans (hbx2.mono hB2.size)
  have hx := (hx0.since (Since.of_below hbx2)).base (B' := fun _ => True) (fun _ _ => trivial)
  have d := heap_new w2 (.cells #[.int .i64 p.version, .slice sa sn sc, .slice fa fn fc] 31)
  have lt : w2.heap.size < (w2.alloc (.cells #[.int .i64 p.version, .slice sa sn sc, .slice fa fn fc] 31)).heap.size := by simp
  have hC := show_read hw hc (he.below hB3) hx
  obtain ⟨q0, q1, q2, _⟩ := cells_of3 d
  have hlines := pr_lines hw
  clear hL hx0 hbx2 hb1 hb2 he1 hpr
  go_wp2_with fail
  generalize w2.alloc (.cells #[.int .i64 p.version, .slice sa sn sc, .slice fa fn fc] 31) = w3 at *
  generalize w2.heap.size = g at *
  refine hC.mono ?_
  rintro e w4 ⟨rfl, hb4⟩
  have hB4 := hB3.trans (hb4.mono hB3.size)
  by_cases hl : 16384 < (prS p).length
  · rw [show shT p = ([], 3) by unfold shT; rw [if_pos hl]]
    go_wp2
    go_ret
    exact ⟨rfl, hB4⟩
  rw [show shT p = (prS p, 0) by unfold shT; rw [if_neg hl]]
  obtain ⟨sb, hsb⟩ : ∃ sb : ByteArray, sb = ⟨(prS p).toArray⟩ := ⟨_, rfl⟩
  have hgood : Aside (GoodAt sb 0 (atS 0 0 0)) := by
    show scan _ _ _ = _
    rw [hsb]
    simpa [prevOf] using hlines
  have hsz : sb.size ≤ 16384 := by
    rw [hsb]
    show (prS p).toArray.size ≤ _
    simp; omega
  rw [← hsb]
  clear hlines hsb hl hC hx q0 q1 q2 d lt hb4 hw hc hm he
  go_wp2_with fail
  go_loopg [8, 9, 10, 11, 12, 13] sb.size (fun g v8 v9 v10 v11 v12 v13 wr => ∃ (k : Nat) (tb ty op : Int) (sr qd : Bool), k ≤ sb.size ∧ g = sb.size - k ∧ v8 = .int .i64 tb ∧ v9 = .bool sr ∧ v10 = .bool qd ∧ v11 = .int .i64 ty ∧ v12 = .int .i64 op ∧ v13 = .int .i64 k ∧ wr = w4 ∧ -(k : Int) ≤ tb ∧ tb ≤ k ∧ -(k : Int) ≤ ty ∧ ty ≤ k ∧ -(k : Int) ≤ op ∧ op ≤ k ∧ Aside (GoodAt sb k ⟨tb, sr, qd, ty, op⟩))
  case atStart => exact ⟨0, 0, 0, 0, true, false, by omega, rfl, rfl, rfl, rfl, rfl, rfl, rfl, rfl, by omega, by omega, by omega, by omega, by omega, by omega, hgood⟩
  case round =>
    clear hgood
    obtain ⟨k, tb, ty, op, sr, qd, hk, rfl, rfl, rfl, rfl, rfl, rfl, rfl, rfl, b1, b2, b3, b4, b5, b6, hgood⟩ := hrel
    by_cases hlt : k < sb.size
    · have hltI : (k : Int) < (sb.size : Int) := by omega
      have hcl : True := trivial
      by_cases c10 : sb[k] = 10
      · have x10 := u8y 10 (by decide) c10
        by_cases hbad : (prevOf sb.data.toList k = some 32 ∨ prevOf sb.data.toList k = some 9) ∨ qd = true
        · exact (good_none hgood.out hlt (by unfold stepS; rw [if_pos c10, if_pos hbad])).elim
        have hg' := good_next hgood.out hlt (st' := ⟨0, true, qd, ty, op⟩) (by unfold stepS; rw [if_pos c10, if_neg hbad])
        replace hg' : Aside _ := (show Aside _ from hg')
        obtain rfl : qd = false := by cases qd; rfl; exact absurd (Or.inr rfl) hbad
        clear hgood
        rcases k with _ | k
        · clear hbad hcl
          go_wp2_with fail
          go_roundg (sb.size - (0 + 1))
          case measure => omega
          case rel => exact ⟨0 + 1, 0, ty, op, true, false, by omega, rfl, (by simp; try omega), rfl, rfl, (by simp; try omega), (by simp; try omega), (by simp; try omega), rfl, by omega, by omega, by omega, by omega, by omega, by omega, hg'⟩
        · have hkl : k < sb.size := by omega
          rw [prev_succ sb k hkl] at hbad
          have p32 : ((sb[k].toNat : Int) == 32) = false := by have := u8n (c := sb[k]) 32 (by decide) (fun e => hbad (Or.inl (Or.inl (by rw [e]; rfl)))); simpa using this
          have p9 : ((sb[k].toNat : Int) == 9) = false := by have := u8n (c := sb[k]) 9 (by decide) (fun e => hbad (Or.inl (Or.inr (by rw [e]; rfl)))); simpa using this
          have hk0 : (0 : Int) < (k : Int) + 1 := by omega
          clear hbad hcl
          simp only [Int.natCast_add, Int.cast_ofNat_Int] at *
          go_wp2_with fail
          go_roundg (sb.size - (k + 1 + 1))
          case measure => omega
          case rel => exact ⟨k + 1 + 1, 0, ty, op, true, false, by omega, rfl, (by simp; try omega), rfl, rfl, (by simp; try omega), (by simp; try omega), (by simp; try omega), rfl, by omega, by omega, by omega, by omega, by omega, by omega, hg'⟩
      have n10 := u8n 10 (by decide) c10
      by_cases c9 : sb[k] = 9
      · have x9 := u8y 9 (by decide) c9
        cases sr with
        | false => exact (good_none hgood.out hlt (by unfold stepS; simp [c9])).elim
        | true =>
          have hg' := good_next hgood.out hlt (st' := ⟨(tb + 1), true, qd, ty, op⟩) (by unfold stepS; simp [c9])
          replace hg' : Aside _ := (show Aside _ from hg')
          clear hgood hcl
          go_wp2_with fail
          go_roundg (sb.size - (k + 1))
          case measure => omega
          case rel => exact ⟨k + 1, (tb + 1), ty, op, true, qd, by omega, rfl, (by simp; try omega), rfl, rfl, (by simp; try omega), (by simp; try omega), (by simp; try omega), rfl, by omega, by omega, by omega, by omega, by omega, by omega, hg'⟩
      have n9 := u8n 9 (by decide) c9
      by_cases cr : sb[k] < 32 ∨ 126 < sb[k]
      · exact (good_none hgood.out hlt (by unfold stepS; rw [if_neg c10, if_neg c9, if_pos cr])).elim
      have hlo : ¬ (sb[k].toNat : Int) < 32 := fun h => cr (Or.inl (by rw [UInt8.lt_iff_toNat_lt]; show sb[k].toNat < 32; omega))
      have hhi : ¬ (126 : Int) < (sb[k].toNat : Int) := fun h => cr (Or.inr (by rw [UInt8.lt_iff_toNat_lt]; show 126 < sb[k].toNat; omega))
      cases sr with
      | false =>
        cases qd with
        | true =>
          by_cases c92 : sb[k] = 92
          · obtain ⟨hlt2, hg'⟩ := good_skip hgood.out hlt (st' := ⟨tb, false, true, ty, op⟩) (by unfold stepS; simp [c10, c9, cr, c92])
            have hlt2I : (k : Int) + 1 < (sb.size : Int) := by omega
            replace hg' : Aside _ := (show Aside _ from hg')
            have x92 := u8y 92 (by decide) c92
            clear hgood hcl
            go_wp2_with fail
            go_roundg (sb.size - (k + 2))
            case measure => omega
            case rel => exact ⟨k + 2, tb, ty, op, false, true, by omega, rfl, (by simp; try omega), rfl, rfl, (by simp; try omega), (by simp; try omega), (by simp; try omega), rfl, by omega, by omega, by omega, by omega, by omega, by omega, hg'⟩
          by_cases c34 : sb[k] = 34
          · have hg' := good_next hgood.out hlt (st' := ⟨tb, false, false, ty, op⟩) (by unfold stepS; simp [c10, c9, cr, c34])
            replace hg' : Aside _ := (show Aside _ from hg')
            have x34 := u8y 34 (by decide) c34
            clear hgood hcl
            go_wp2_with fail
            go_roundg (sb.size - (k + 1))
            case measure => omega
            case rel => exact ⟨k + 1, tb, ty, op, false, false, by omega, rfl, (by simp; try omega), rfl, rfl, (by simp; try omega), (by simp; try omega), (by simp; try omega), rfl, by omega, by omega, by omega, by omega, by omega, by omega, hg'⟩
          have hg' := good_next hgood.out hlt (st' := ⟨tb, false, true, ty, op⟩) (by unfold stepS; simp [c10, c9, cr, c92, c34])
          replace hg' : Aside _ := (show Aside _ from hg')
          have n92 := u8n 92 (by decide) c92
          have n34 := u8n 34 (by decide) c34
          clear hgood hcl
          go_wp2_with fail
          go_roundg (sb.size - (k + 1))
          case measure => omega
          case rel => exact ⟨k + 1, tb, ty, op, false, true, by omega, rfl, (by simp; try omega), rfl, rfl, (by simp; try omega), (by simp; try omega), (by simp; try omega), rfl, by omega, by omega, by omega, by omega, by omega, by omega, hg'⟩
        | false =>
          by_cases c34 : sb[k] = 34
          · have hg' := good_next hgood.out hlt (st' := ⟨tb, false, true, ty, op⟩) (by unfold stepS; simp [c10, c9, cr, c34])
            replace hg' : Aside _ := (show Aside _ from hg')
            have x34 := u8y 34 (by decide) c34
            clear hgood hcl
            go_wp2_with fail
            go_roundg (sb.size - (k + 1))
            case measure => omega
            case rel => exact ⟨k + 1, tb, ty, op, false, true, by omega, rfl, (by simp; try omega), rfl, rfl, (by simp; try omega), (by simp; try omega), (by simp; try omega), rfl, by omega, by omega, by omega, by omega, by omega, by omega, hg'⟩
          by_cases c123 : sb[k] = 123
          · have x123 := u8y 123 (by decide) c123
            by_cases hnx : k + 1 < sb.size
            · have hnxI : (k : Int) + 1 < (sb.size : Int) := by omega
              have hat := at_list sb (k + 1) hnx
              by_cases d105 : sb[k + 1] = 105
              · rw [d105] at hat
                have y105 := u8y 105 (by decide) d105
                have hg' := good_next hgood.out hlt (st' := ⟨tb, false, false, (ty + 1), op⟩) (by unfold stepS; simp [c10, c9, cr, c123, hat])
                replace hg' : Aside _ := (show Aside _ from hg')
                clear hgood hcl
                go_wp2_with fail
                go_roundg (sb.size - (k + 1))
                case measure => omega
                case rel => exact ⟨k + 1, tb, (ty + 1), op, false, false, by omega, rfl, (by simp; try omega), rfl, rfl, (by simp; try omega), (by simp; try omega), (by simp; try omega), rfl, by omega, by omega, by omega, by omega, by omega, by omega, hg'⟩
              have z105 : ((sb[k + 1].toNat : Int) == 105) = false := by have := u8n 105 (by decide) d105; simpa using this
              by_cases d116 : sb[k + 1] = 116
              · rw [d116] at hat
                have y116 := u8y 116 (by decide) d116
                have hg' := good_next hgood.out hlt (st' := ⟨tb, false, false, (ty + 1), op⟩) (by unfold stepS; simp [c10, c9, cr, c123, hat])
                replace hg' : Aside _ := (show Aside _ from hg')
                clear hgood hcl
                go_wp2_with fail
                go_roundg (sb.size - (k + 1))
                case measure => omega
                case rel => exact ⟨k + 1, tb, (ty + 1), op, false, false, by omega, rfl, (by simp; try omega), rfl, rfl, (by simp; try omega), (by simp; try omega), (by simp; try omega), rfl, by omega, by omega, by omega, by omega, by omega, by omega, hg'⟩
              have z116 : ((sb[k + 1].toNat : Int) == 116) = false := by have := u8n 116 (by decide) d116; simpa using this
              have hg' := good_next hgood.out hlt (st' := ⟨tb, false, false, ty, (op + 1)⟩) (by unfold stepS; simp [c10, c9, cr, c123, hat, d105, d116])
              replace hg' : Aside _ := (show Aside _ from hg')
              clear hgood hcl
              go_wp2_with fail
              go_roundg (sb.size - (k + 1))
              case measure => omega
              case rel => exact ⟨k + 1, tb, ty, (op + 1), false, false, by omega, rfl, (by simp; try omega), rfl, rfl, (by simp; try omega), (by simp; try omega), (by simp; try omega), rfl, by omega, by omega, by omega, by omega, by omega, by omega, hg'⟩
            · have hnxI : ¬ (k : Int) + 1 < (sb.size : Int) := by omega
              have hat : sb.data.toList[k + 1]? = none := List.getElem?_eq_none (by simp; omega)
              have hg' := good_next hgood.out hlt (st' := ⟨tb, false, false, ty, (op + 1)⟩) (by unfold stepS; simp [c10, c9, cr, c123, hat])
              replace hg' : Aside _ := (show Aside _ from hg')
              clear hgood hcl
              go_wp2_with fail
              go_roundg (sb.size - (k + 1))
              case measure => omega
              case rel => exact ⟨k + 1, tb, ty, (op + 1), false, false, by omega, rfl, (by simp; try omega), rfl, rfl, (by simp; try omega), (by simp; try omega), (by simp; try omega), rfl, by omega, by omega, by omega, by omega, by omega, by omega, hg'⟩
          by_cases c125 : sb[k] = 125
          · have x125 := u8y 125 (by decide) c125
            by_cases ht : 0 < ty
            · have hg' := good_next hgood.out hlt (st' := ⟨tb, false, false, (ty - 1), op⟩) (by unfold stepS; simp [c10, c9, cr, c125, ht])
              replace hg' : Aside _ := (show Aside _ from hg')
              have htI : (0 : Int) < ty := ht
              clear hgood hcl
              go_wp2_with fail
              go_roundg (sb.size - (k + 1))
              case measure => omega
              case rel => exact ⟨k + 1, tb, (ty - 1), op, false, false, by omega, rfl, (by simp; try omega), rfl, rfl, (by simp; try omega), (by simp; try omega), (by simp; try omega), rfl, by omega, by omega, by omega, by omega, by omega, by omega, hg'⟩
            have hg' := good_next hgood.out hlt (st' := ⟨tb, false, false, ty, (op - 1)⟩) (by unfold stepS; simp [c10, c9, cr, c125, ht])
            replace hg' : Aside _ := (show Aside _ from hg')
            have htI : ¬ (0 : Int) < ty := ht
            clear hgood hcl
            go_wp2_with fail
            go_roundg (sb.size - (k + 1))
            case measure => omega
            case rel => exact ⟨k + 1, tb, ty, (op - 1), false, false, by omega, rfl, (by simp; try omega), rfl, rfl, (by simp; try omega), (by simp; try omega), (by simp; try omega), rfl, by omega, by omega, by omega, by omega, by omega, by omega, hg'⟩
          have hg' := good_next hgood.out hlt (st' := ⟨tb, false, false, ty, op⟩) (by unfold stepS; simp [c10, c9, cr, c34, c123, c125])
          replace hg' : Aside _ := (show Aside _ from hg')
          have n34 := u8n 34 (by decide) c34
          have n123 := u8n 123 (by decide) c123
          have n125 := u8n 125 (by decide) c125
          clear hgood hcl
          go_wp2_with fail
          go_roundg (sb.size - (k + 1))
          case measure => omega
          case rel => exact ⟨k + 1, tb, ty, op, false, false, by omega, rfl, (by simp; try omega), rfl, rfl, (by simp; try omega), (by simp; try omega), (by simp; try omega), rfl, by omega, by omega, by omega, by omega, by omega, by omega, hg'⟩
      | true =>
        by_cases c125 : sb[k] = 125
        · have x125 := u8y 125 (by decide) c125
          rcases Classical.em (¬ tb = op - 1) with hw | hw
          · exact (good_none hgood.out hlt (by unfold stepS; simp [c10, c9, cr, c125, hw])).elim
          replace hw : tb = op - 1 := Classical.not_not.1 hw
          subst hw
          cases qd with
          | true =>
            have hg' := good_next hgood.out hlt (st' := ⟨(op - 1), false, true, ty, op⟩) (by unfold stepS; simp [c10, c9, cr, c125])
            replace hg' : Aside _ := (show Aside _ from hg')
            clear hgood hcl
            go_wp2_with fail
            go_roundg (sb.size - (k + 1))
            case measure => omega
            case rel => exact ⟨k + 1, (op - 1), ty, op, false, true, by omega, rfl, (by simp; try omega), rfl, rfl, (by simp; try omega), (by simp; try omega), (by simp; try omega), rfl, by omega, by omega, by omega, by omega, by omega, by omega, hg'⟩
          | false =>
            by_cases ht : 0 < ty
            · have hg' := good_next hgood.out hlt (st' := ⟨(op - 1), false, false, (ty - 1), op⟩) (by unfold stepS; simp [c10, c9, cr, c125, ht])
              replace hg' : Aside _ := (show Aside _ from hg')
              have htI : (0 : Int) < ty := ht
              clear hgood hcl
              go_wp2_with fail
              go_roundg (sb.size - (k + 1))
              case measure => omega
              case rel => exact ⟨k + 1, (op - 1), (ty - 1), op, false, false, by omega, rfl, (by simp; try omega), rfl, rfl, (by simp; try omega), (by simp; try omega), (by simp; try omega), rfl, by omega, by omega, by omega, by omega, by omega, by omega, hg'⟩
            have hg' := good_next hgood.out hlt (st' := ⟨(op - 1), false, false, ty, (op - 1)⟩) (by unfold stepS; simp [c10, c9, cr, c125, ht])
            replace hg' : Aside _ := (show Aside _ from hg')
            have htI : ¬ (0 : Int) < ty := ht
            clear hgood hcl
            go_wp2_with fail
            go_roundg (sb.size - (k + 1))
            case measure => omega
            case rel => exact ⟨k + 1, (op - 1), ty, (op - 1), false, false, by omega, rfl, (by simp; try omega), rfl, rfl, (by simp; try omega), (by simp; try omega), (by simp; try omega), rfl, by omega, by omega, by omega, by omega, by omega, by omega, hg'⟩
        · have n125 := u8n 125 (by decide) c125
          rcases Classical.em (¬ tb = op) with hw | hw
          · exact (good_none hgood.out hlt (by unfold stepS; simp [c10, c9, cr, c125, hw])).elim
          replace hw : op = tb := (Classical.not_not.1 hw).symm
          subst hw
          cases qd with
          | true =>
            by_cases c92 : sb[k] = 92
            · obtain ⟨hlt2, hg'⟩ := good_skip hgood.out hlt (st' := ⟨op, false, true, ty, op⟩) (by unfold stepS; simp [c10, c9, cr, c92])
              have hlt2I : (k : Int) + 1 < (sb.size : Int) := by omega
              replace hg' : Aside _ := (show Aside _ from hg')
              have x92 := u8y 92 (by decide) c92
              clear hgood hcl
              go_wp2_with fail
              go_roundg (sb.size - (k + 2))
              case measure => omega
              case rel => exact ⟨k + 2, op, ty, op, false, true, by omega, rfl, (by simp; try omega), rfl, rfl, (by simp; try omega), (by simp; try omega), (by simp; try omega), rfl, by omega, by omega, by omega, by omega, by omega, by omega, hg'⟩
            by_cases c34 : sb[k] = 34
            · have hg' := good_next hgood.out hlt (st' := ⟨op, false, false, ty, op⟩) (by unfold stepS; simp [c10, c9, cr, c34])
              replace hg' : Aside _ := (show Aside _ from hg')
              have x34 := u8y 34 (by decide) c34
              clear hgood hcl
              go_wp2_with fail
              go_roundg (sb.size - (k + 1))
              case measure => omega
              case rel => exact ⟨k + 1, op, ty, op, false, false, by omega, rfl, (by simp; try omega), rfl, rfl, (by simp; try omega), (by simp; try omega), (by simp; try omega), rfl, by omega, by omega, by omega, by omega, by omega, by omega, hg'⟩
            have hg' := good_next hgood.out hlt (st' := ⟨op, false, true, ty, op⟩) (by unfold stepS; simp [c10, c9, cr, c92, c34, c125])
            replace hg' : Aside _ := (show Aside _ from hg')
            have n92 := u8n 92 (by decide) c92
            have n34 := u8n 34 (by decide) c34
            clear hgood hcl
            go_wp2_with fail
            go_roundg (sb.size - (k + 1))
            case measure => omega
            case rel => exact ⟨k + 1, op, ty, op, false, true, by omega, rfl, (by simp; try omega), rfl, rfl, (by simp; try omega), (by simp; try omega), (by simp; try omega), rfl, by omega, by omega, by omega, by omega, by omega, by omega, hg'⟩
          | false =>
            by_cases c34 : sb[k] = 34
            · have hg' := good_next hgood.out hlt (st' := ⟨op, false, true, ty, op⟩) (by unfold stepS; simp [c10, c9, cr, c34])
              replace hg' : Aside _ := (show Aside _ from hg')
              have x34 := u8y 34 (by decide) c34
              clear hgood hcl
              go_wp2_with fail
              go_roundg (sb.size - (k + 1))
              case measure => omega
              case rel => exact ⟨k + 1, op, ty, op, false, true, by omega, rfl, (by simp; try omega), rfl, rfl, (by simp; try omega), (by simp; try omega), (by simp; try omega), rfl, by omega, by omega, by omega, by omega, by omega, by omega, hg'⟩
            by_cases c123 : sb[k] = 123
            · have x123 := u8y 123 (by decide) c123
              by_cases hnx : k + 1 < sb.size
              · have hnxI : (k : Int) + 1 < (sb.size : Int) := by omega
                have hat := at_list sb (k + 1) hnx
                by_cases d105 : sb[k + 1] = 105
                · rw [d105] at hat
                  have y105 := u8y 105 (by decide) d105
                  have hg' := good_next hgood.out hlt (st' := ⟨op, false, false, (ty + 1), op⟩) (by unfold stepS; simp [c10, c9, cr, c123, hat])
                  replace hg' : Aside _ := (show Aside _ from hg')
                  clear hgood hcl
                  go_wp2_with fail
                  go_roundg (sb.size - (k + 1))
                  case measure => omega
                  case rel => exact ⟨k + 1, op, (ty + 1), op, false, false, by omega, rfl, (by simp; try omega), rfl, rfl, (by simp; try omega), (by simp; try omega), (by simp; try omega), rfl, by omega, by omega, by omega, by omega, by omega, by omega, hg'⟩
                have z105 : ((sb[k + 1].toNat : Int) == 105) = false := by have := u8n 105 (by decide) d105; simpa using this
                by_cases d116 : sb[k + 1] = 116
                · rw [d116] at hat
                  have y116 := u8y 116 (by decide) d116
                  have hg' := good_next hgood.out hlt (st' := ⟨op, false, false, (ty + 1), op⟩) (by unfold stepS; simp [c10, c9, cr, c123, hat])
                  replace hg' : Aside _ := (show Aside _ from hg')
                  clear hgood hcl
                  go_wp2_with fail
                  go_roundg (sb.size - (k + 1))
                  case measure => omega
                  case rel => exact ⟨k + 1, op, (ty + 1), op, false, false, by omega, rfl, (by simp; try omega), rfl, rfl, (by simp; try omega), (by simp; try omega), (by simp; try omega), rfl, by omega, by omega, by omega, by omega, by omega, by omega, hg'⟩
                have z116 : ((sb[k + 1].toNat : Int) == 116) = false := by have := u8n 116 (by decide) d116; simpa using this
                have hg' := good_next hgood.out hlt (st' := ⟨op, false, false, ty, (op + 1)⟩) (by unfold stepS; simp [c10, c9, cr, c123, hat, d105, d116])
                replace hg' : Aside _ := (show Aside _ from hg')
                clear hgood hcl
                go_wp2_with fail
                go_roundg (sb.size - (k + 1))
                case measure => omega
                case rel => exact ⟨k + 1, op, ty, (op + 1), false, false, by omega, rfl, (by simp; try omega), rfl, rfl, (by simp; try omega), (by simp; try omega), (by simp; try omega), rfl, by omega, by omega, by omega, by omega, by omega, by omega, hg'⟩
              · have hnxI : ¬ (k : Int) + 1 < (sb.size : Int) := by omega
                have hat : sb.data.toList[k + 1]? = none := List.getElem?_eq_none (by simp; omega)
                have hg' := good_next hgood.out hlt (st' := ⟨op, false, false, ty, (op + 1)⟩) (by unfold stepS; simp [c10, c9, cr, c123, hat])
                replace hg' : Aside _ := (show Aside _ from hg')
                clear hgood hcl
                go_wp2_with fail
                go_roundg (sb.size - (k + 1))
                case measure => omega
                case rel => exact ⟨k + 1, op, ty, (op + 1), false, false, by omega, rfl, (by simp; try omega), rfl, rfl, (by simp; try omega), (by simp; try omega), (by simp; try omega), rfl, by omega, by omega, by omega, by omega, by omega, by omega, hg'⟩
            have hg' := good_next hgood.out hlt (st' := ⟨op, false, false, ty, op⟩) (by unfold stepS; simp [c10, c9, cr, c34, c123, c125])
            replace hg' : Aside _ := (show Aside _ from hg')
            have n34 := u8n 34 (by decide) c34
            have n123 := u8n 123 (by decide) c123
            have n125 := u8n 125 (by decide) c125
            clear hgood hcl
            go_wp2_with fail
            go_roundg (sb.size - (k + 1))
            case measure => omega
            case rel => exact ⟨k + 1, op, ty, op, false, false, by omega, rfl, (by simp; try omega), rfl, rfl, (by simp; try omega), (by simp; try omega), (by simp; try omega), rfl, by omega, by omega, by omega, by omega, by omega, by omega, hg'⟩
    · have hltI : ¬ (k : Int) < (sb.size : Int) := by omega
      have hke : k = sb.size := by omega
      subst hke
      obtain ⟨hst, n, hn, hlast⟩ := good_end hgood.out
      simp only [atS, Sc.mk.injEq] at hst
      obtain ⟨rfl, rfl, rfl, rfl, rfl⟩ := hst
      have hnl : n < sb.size := by omega
      rw [at_list sb n hnl] at hlast
      have hl10 : (sb[n].toNat : Int) = 10 := by
        simp only [Option.some.injEq] at hlast
        rw [hlast]; rfl
      have hnI : (sb.size : Int) = (n : Int) + 1 := by omega
      clear hgood hlast hk hltI hn b1 b2 b3 b4 b5 b6
      go_wp2
      go_ret
      exact ⟨rfl, hB4⟩
end Go.Proofs.YtifebbdjdllfpaaGreatDoor
