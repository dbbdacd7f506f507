/- Maps: where a key stands, what is put there, what is left without it. Plain mathematics. -/
import Derived.Test.YtkbplffckkjbfaaVx
namespace Go.Proofs.Ytkbplffckkjbfaa
set_option linter.unusedVariables false
set_option linter.unusedSimpArgs false

/-- The keys rise. -/
def Rise (l : List V) : Prop := ∀ (i : Nat) (a b : V), l[2 * i]? = some a → l[2 * i + 2]? = some b → cmpV a b < 0
/-- If it is a map, its keys rise. -/
def Tidy (v : V) : Prop := v.k = 5 → v.l.length % 2 = 0 ∧ Rise v.l
theorem Rise.lt {l : List V} (h : Rise l) : ∀ {i j : Nat} {a b : V}, i < j → l[2 * i]? = some a → l[2 * j]? = some b → cmpV a b < 0 := by
  intro i j
  induction j with
  | zero => intro a b hij; omega
  | succ j ih =>
    intro a b hij ha hb
    by_cases hj : i = j
    · subst hj; exact h i a b ha (by rw [show 2 * i + 2 = 2 * (i + 1) by omega]; exact hb)
    · have hlt : 2 * j < l.length := by have := (List.getElem?_eq_some_iff.1 hb).1; omega
      have hc : l[2 * j]? = some l[2 * j] := List.getElem?_eq_getElem hlt
      exact cmpV_lt_trans (ih (by omega) ha hc) (h j _ b hc (by rw [show 2 * j + 2 = 2 * (j + 1) by omega]; exact hb))
/-- How many keys are below. -/
def kat (k : V) : List V → Nat
  | a :: _ :: r => if cmpV a k < 0 then kat k r + 1 else 0
  | _ => 0
theorem kat_le (k : V) : ∀ l : List V, 2 * kat k l ≤ l.length
  | a :: b :: r => by
    rw [kat]; have := kat_le k r
    split <;> simp <;> omega
  | [] => by simp [kat]
  | [a] => by simp [kat]
theorem kat_lo (k : V) : ∀ (l : List V) (j : Nat) (a : V), j < kat k l → l[2 * j]? = some a → cmpV a k < 0
  | a :: b :: r, j, c, h, hc => by
    rw [kat] at h
    split at h
    · rename_i hak
      cases j with
      | zero => simp at hc; subst hc; exact hak
      | succ j => exact kat_lo k r j c (by omega) (by simpa [show 2 * (j + 1) = 2 * j + 1 + 1 by omega] using hc)
    · omega
  | [], j, c, h, hc => by simp at hc
  | [a], j, c, h, hc => by simp [kat] at h
theorem kat_hi (k : V) : ∀ (l : List V) (a : V), 2 * kat k l + 1 < l.length → l[2 * kat k l]? = some a → ¬ cmpV a k < 0
  | a :: b :: r, c, h, hc => by
    rw [kat] at h hc
    by_cases hak : cmpV a k < 0
    · rw [if_pos hak] at h hc
      exact kat_hi k r c (by simp at h; omega) (by simpa [show 2 * (kat k r + 1) = 2 * kat k r + 1 + 1 by omega] using hc)
    · rw [if_neg hak] at hc
      simp at hc; subst hc; exact hak
  | [], c, h, hc => by simp at hc
  | [a], c, h, hc => by simp at h
theorem kat_uniq {k : V} {l : List V} (hr : Rise l) {i : Nat} (hi : 2 * i ≤ l.length) (h1 : ∀ a, 0 < i → l[2 * (i - 1)]? = some a → cmpV a k < 0) (h2 : ∀ a, 2 * i + 1 < l.length → l[2 * i]? = some a → ¬ cmpV a k < 0) (he : l.length % 2 = 0) : kat k l = i := by
  have hle := kat_le k l
  rcases Nat.lt_trichotomy (kat k l) i with h | h | h
  · exfalso
    have hb : 2 * (i - 1) < l.length := by omega
    have hb0 : 2 * kat k l < l.length := by omega
    have e1 := h1 _ (by omega) (List.getElem?_eq_getElem hb)
    have e2 := kat_hi k l _ (by omega) (List.getElem?_eq_getElem hb0)
    by_cases he : kat k l = i - 1
    · apply e2
      have : l[2 * kat k l] = l[2 * (i - 1)] := by congr 1; omega
      rw [this]; exact e1
    · exact e2 (cmpV_lt_trans (hr.lt (i := kat k l) (j := i - 1) (by omega) (List.getElem?_eq_getElem hb0) (List.getElem?_eq_getElem hb)) e1)
  · exact h
  · exfalso
    have hb : 2 * i < l.length := by omega
    exact h2 _ (by omega) (List.getElem?_eq_getElem hb) (kat_lo k l i _ h (List.getElem?_eq_getElem hb))
/-- Is the key there? -/
def hit (k : V) (l : List V) : Bool := match l[2 * kat k l]? with | some a => decide (cmpV k a = 0) | none => false
theorem hit_some {k : V} {l : List V} (h : hit k l = true) : l[2 * kat k l]? = some k := by
  unfold hit at h
  rcases e : l[2 * kat k l]? with _ | a
  · rw [e] at h; cases h
  · rw [e] at h
    simp at h
    rw [(cmpV_zero k a).1 h]
theorem hit_at {k : V} {l : List V} (hr : Rise l) (he : l.length % 2 = 0) {i : Nat} (h : l[2 * i]? = some k) : kat k l = i ∧ hit k l = true := by
  have hlt := (List.getElem?_eq_some_iff.1 h).1
  have hk : kat k l = i := by
    refine kat_uniq hr (by omega) (fun a h0 ha => hr.lt (i := i - 1) (j := i) (by omega) ha h) (fun a _ ha => ?_) he
    rw [h] at ha
    simp only [Option.some.injEq] at ha
    subst ha
    rw [cmpV_self]; omega
  refine ⟨hk, ?_⟩
  unfold hit
  rw [hk, h]
  simp [cmpV_self]
theorem no_hit {k : V} {l : List V} (h : ∀ i, l[2 * i]? ≠ some k) : hit k l = false := by
  rcases e : hit k l with _ | _
  · rfl
  · exact absurd (hit_some e) (h _)
theorem kat_above {k : V} {l : List V} (he : l.length % 2 = 0) (hn : hit k l = false) {a : V} (ha : l[2 * kat k l]? = some a) : cmpV k a < 0 := by
  have hlt := (List.getElem?_eq_some_iff.1 ha).1
  have h1 := kat_hi k l a (by omega) ha
  have h2 := cmpV_neg k a
  have h3 : ¬ cmpV k a = 0 := by
    intro h
    unfold hit at hn
    rw [ha] at hn
    simp [h] at hn
  omega
/-- The list with others in the place of some. -/
def spl (l : List V) (f t : Nat) (xs : List V) : List V := l.take f ++ xs ++ l.drop t
theorem wts_drop_le (l : List V) (i : Nat) : wts (l.drop i) ≤ wts l := by
  have := wts_append (l.take i) (l.drop i)
  rw [List.take_append_drop] at this; omega
theorem wts_spl (l : List V) (f t : Nat) (xs : List V) : wts (spl l f t xs) ≤ wts l + wts xs + wts l := by
  unfold spl
  rw [wts_append, wts_append]
  have := wts_take_le l f; have := wts_drop_le l t; omega
def wgV (v : V) : V × Int := if wt v ≤ 16384 then (v, 0) else (V.zero, 53)
/-- Where an element or a key's value stands. -/
def plV (v k : V) : Nat × Int :=
  if v.k = 4 ∧ k.k = 1 then (if 0 ≤ k.n ∧ k.n < v.l.length then (k.n.toNat, 0) else (0, 52))
  else if v.k = 5 then (if hit k v.l = true then (2 * kat k v.l + 1, 0) else (0, 52))
  else (0, 40)
theorem plV_lt {v k : V} (ht : Tidy v) (h : (plV v k).2 = 0) : (plV v k).1 < v.l.length := by
  unfold plV at h ⊢
  split
  · split
    · simp only; omega
    · rename_i h1 h2; rw [if_pos h1, if_neg h2] at h; simp at h
  · rename_i h1
    rw [if_neg h1] at h
    split
    · rename_i h2
      rw [if_pos h2] at h
      split
      · rename_i h3
        have := (List.getElem?_eq_some_iff.1 (hit_some h3)).1
        have := (ht h2).1
        simp only; omega
      · rename_i h3; rw [if_neg h3] at h; simp at h
    · rename_i h2; rw [if_neg h2] at h; simp at h
def atV (v k : V) : V × Int := if (plV v k).2 = 0 then (v.l.getD (plV v k).1 V.zero, 0) else (V.zero, (plV v k).2)
def putV (v k x : V) : V × Int :=
  if (plV v k).2 = 0 then wgV (.mk v.k v.n v.t (spl v.l (plV v k).1 ((plV v k).1 + 1) [x]))
  else if v.k ≠ 5 then (V.zero, (plV v k).2)
  else if 64 ≤ v.l.length / 2 then (V.zero, 53)
  else wgV (.mk v.k v.n v.t (spl v.l (2 * kat k v.l) (2 * kat k v.l) [k, x]))
def delV (v k : V) : V × Int :=
  if v.k ≠ 5 then (V.zero, 40)
  else if hit k v.l = true then (.mk v.k v.n v.t (spl v.l (2 * kat k v.l) (2 * kat k v.l + 2) []), 0)
  else (v, 0)
def lenV (v : V) : Nat × Int := if v.k = 3 then (v.t.length, 0) else if v.k = 4 then (v.l.length, 0) else if v.k = 5 then (v.l.length / 2, 0) else (0, 40)
def pushV (v x : V) : V × Int := if v.k ≠ 4 then (V.zero, 40) else if 64 ≤ v.l.length then (V.zero, 53) else wgV (.mk v.k v.n v.t (v.l ++ [x]))
end Go.Proofs.Ytkbplffckkjbfaa
namespace Go.Proofs.Ytkbplffckkjbfaa
set_option linter.unusedVariables false
set_option linter.unusedSimpArgs false

/-- All pairs but those of a key. -/
def delL (k : V) : List V → List V
  | a :: b :: r => if cmpV a k = 0 then delL k r else a :: b :: delL k r
  | _ => []
theorem delL_append (k a b : V) : ∀ l : List V, l.length % 2 = 0 → delL k (l ++ [a, b]) = delL k l ++ (if cmpV a k = 0 then [] else [a, b])
  | [], _ => by simp [delL]
  | [x], h => by simp at h
  | x :: y :: r, h => by
    have ih := delL_append k a b r (by simp at h; omega)
    rw [List.cons_append, List.cons_append, delL, delL, ih]
    split <;> simp
theorem delL_len (k : V) : ∀ l : List V, (delL k l).length ≤ l.length
  | [] => by simp [delL]
  | [x] => by simp [delL]
  | x :: y :: r => by
    have := delL_len k r
    rw [delL]
    split <;> simp <;> omega
theorem delL_wts (k : V) : ∀ l : List V, wts (delL k l) ≤ wts l
  | [] => by simp [delL, wts]
  | [x] => by simp [delL, wts]
  | x :: y :: r => by
    have := delL_wts k r
    rw [delL]
    split <;> simp only [wts] <;> omega
theorem delL_none (k : V) : ∀ l : List V, l.length % 2 = 0 → (∀ i, l[2 * i]? ≠ some k) → delL k l = l
  | [], _, _ => by simp [delL]
  | [x], h, _ => by simp at h
  | x :: y :: r, h, hn => by
    have ih := delL_none k r (by simp at h; omega) (fun i => by have := hn (i + 1); simpa [show 2 * (i + 1) = 2 * i + 1 + 1 by omega] using this)
    have hx : ¬ cmpV x k = 0 := fun e => hn 0 (by rw [(cmpV_zero x k).1 e]; rfl)
    rw [delL, if_neg hx, ih]
theorem Rise.tail {a b : V} {r : List V} (h : Rise (a :: b :: r)) : Rise r := fun i x y hx hy => h (i + 1) x y (by simpa [show 2 * (i + 1) = 2 * i + 1 + 1 by omega] using hx) (by simpa [show 2 * (i + 1) + 2 = 2 * i + 2 + 1 + 1 by omega] using hy)
theorem Rise.head {a b : V} {r : List V} (h : Rise (a :: b :: r)) {i : Nat} {x : V} (hx : r[2 * i]? = some x) : cmpV a x < 0 := h.lt (i := 0) (j := i + 1) (by omega) rfl (by simpa [show 2 * (i + 1) = 2 * i + 1 + 1 by omega] using hx)
theorem hit_cons {k a b : V} {r : List V} (h : cmpV a k < 0) : kat k (a :: b :: r) = kat k r + 1 ∧ hit k (a :: b :: r) = hit k r := by
  have h1 : kat k (a :: b :: r) = kat k r + 1 := by rw [kat, if_pos h]
  refine ⟨h1, ?_⟩
  unfold hit
  rw [h1]
  simp [show 2 * (kat k r + 1) = 2 * kat k r + 1 + 1 by omega]
theorem hit_not {k a b : V} {r : List V} (h : ¬ cmpV a k < 0) : kat k (a :: b :: r) = 0 ∧ hit k (a :: b :: r) = decide (cmpV k a = 0) := by
  have h1 : kat k (a :: b :: r) = 0 := by rw [kat, if_neg h]
  refine ⟨h1, ?_⟩
  unfold hit
  rw [h1]
  simp
theorem delL_eq (k : V) : ∀ l : List V, l.length % 2 = 0 → Rise l → delL k l = if hit k l = true then spl l (2 * kat k l) (2 * kat k l + 2) [] else l
  | [], _, _ => by simp [delL, hit, kat, spl]
  | [x], h, _ => by simp at h
  | a :: b :: r, h, hr => by
    have hev : r.length % 2 = 0 := by simp at h; omega
    rcases Int.lt_trichotomy (cmpV a k) 0 with hc | hc | hc
    · obtain ⟨h1, h2⟩ := hit_cons (b := b) (r := r) hc
      have ih := delL_eq k r hev hr.tail
      rw [delL, if_neg (by omega), ih, h1, h2]
      split
      · simp [spl, show 2 * (kat k r + 1) = 2 * kat k r + 1 + 1 by omega, show 2 * (kat k r + 1) + 2 = 2 * kat k r + 2 + 1 + 1 by omega]
      · rfl
    · obtain ⟨h1, h2⟩ := hit_not (b := b) (r := r) (show ¬ cmpV a k < 0 by omega)
      have hka := (cmpV_zero a k).1 hc
      subst hka
      rw [delL, if_pos hc, h1, h2, delL_none a r hev (fun i e => by have := hr.head e; rw [cmpV_self] at this; omega)]
      simp [cmpV_self, spl]
    · obtain ⟨h1, h2⟩ := hit_not (b := b) (r := r) (show ¬ cmpV a k < 0 by omega)
      have h3 := cmpV_neg k a
      rw [delL, if_neg (by omega), h2, delL_none k r hev (fun i e => by have := hr.head e; omega)]
      rw [if_neg (by simp; omega)]
theorem delV_eq {v k : V} (h5 : v.k = 5) (he : v.l.length % 2 = 0) (hr : Rise v.l) : delV v k = (.mk v.k v.n v.t (delL k v.l), 0) := by
  unfold delV
  rw [if_neg (by simp [h5]), delL_eq k v.l he hr]
  split
  · rfl
  · cases v; rfl
/-- So many pairs, with a new one where it belongs. -/
def insL (k x : V) (l : List V) (q : Nat) : List V := if kat k l < q then l.take (2 * kat k l) ++ [k, x] ++ (l.take (2 * q)).drop (2 * kat k l) else l.take (2 * q)
theorem take_two {l : List V} {q : Nat} {a b : V} (ha : l[2 * q]? = some a) (hb : l[2 * q + 1]? = some b) : l.take (2 * (q + 1)) = l.take (2 * q) ++ [a, b] := by
  rw [show 2 * (q + 1) = 2 * q + 1 + 1 by omega, List.take_add_one, List.take_add_one, ha, hb]; simp
theorem insL_zero (k x : V) (l : List V) : insL k x l 0 = [] := by simp [insL]
theorem insL_before {k x : V} {l : List V} {q : Nat} {a b : V} (ha : l[2 * q]? = some a) (hb : l[2 * q + 1]? = some b) (h : q < kat k l) : insL k x l (q + 1) = insL k x l q ++ [a, b] := by
  unfold insL
  rw [if_neg (by omega), if_neg (by omega), take_two ha hb]
theorem insL_at {k x : V} {l : List V} {q : Nat} {a b : V} (ha : l[2 * q]? = some a) (hb : l[2 * q + 1]? = some b) (h : q = kat k l) : insL k x l (q + 1) = insL k x l q ++ [k, x] ++ [a, b] := by
  have hlt := (List.getElem?_eq_some_iff.1 hb).1
  unfold insL
  rw [if_pos (by omega), if_neg (by omega), take_two ha hb, h, List.drop_left' (by simp; omega)]
theorem insL_behind {k x : V} {l : List V} {q : Nat} {a b : V} (ha : l[2 * q]? = some a) (hb : l[2 * q + 1]? = some b) (h : kat k l < q) : insL k x l (q + 1) = insL k x l q ++ [a, b] := by
  have hlt := (List.getElem?_eq_some_iff.1 hb).1
  unfold insL
  rw [if_pos (by omega), if_pos h, take_two ha hb, List.drop_append_of_le_length (by simp; omega)]
  simp
theorem insL_end {k x : V} {l : List V} {q : Nat} (hq : 2 * q = l.length) : spl l (2 * kat k l) (2 * kat k l) [k, x] = if kat k l < q then insL k x l q else insL k x l q ++ [k, x] := by
  have hle := kat_le k l
  unfold insL
  by_cases h : kat k l < q
  · rw [if_pos h, if_pos h, hq, List.take_length]; rfl
  · rw [if_neg h, if_neg h]
    have hk : 2 * kat k l = l.length := by omega
    rw [hk, hq]
    simp [spl]
theorem insL_len {k x : V} {l : List V} {q : Nat} (hq : 2 * q ≤ l.length) : (insL k x l q).length = if kat k l < q then 2 * q + 2 else 2 * q := by
  unfold insL
  split <;> simp <;> omega
end Go.Proofs.Ytkbplffckkjbfaa
