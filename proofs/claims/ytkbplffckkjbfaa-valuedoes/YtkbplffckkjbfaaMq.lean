/- A map without a key, and with one more: as the document makes them. Plain mathematics. -/
import Derived.Test.YtkbplffckkjbfaaMp
namespace Go.Proofs.Ytkbplffckkjbfaa
set_option linter.unusedVariables false
set_option linter.unusedSimpArgs false

/-- All pairs but those of a key. -/
def delL (k : V) : List V → List V
  | a :: b :: r => if cmpV a k = 0 then delL k r else a :: b :: delL k r
  | _ => []
theorem delL_append (k a b : V) : ∀ l : List V, l.length % 2 = 0 → delL k (l ++ [a, b]) = delL k l ++ (if cmpV a k = 0 then [] else [a, b])
  | [], _ => by simp [delL]
  | [x], h => by simp at h
  | x :: y :: r, h => by
    have ih := delL_append k a b r (by simp at h; omega)
    rw [List.cons_append, List.cons_append, delL, delL, ih]
    split <;> simp
theorem delL_len (k : V) : ∀ l : List V, (delL k l).length ≤ l.length
  | [] => by simp [delL]
  | [x] => by simp [delL]
  | x :: y :: r => by
    have := delL_len k r
    rw [delL]
    split <;> simp <;> omega
theorem delL_wts (k : V) : ∀ l : List V, wts (delL k l) ≤ wts l
  | [] => by simp [delL, wts]
  | [x] => by simp [delL, wts]
  | x :: y :: r => by
    have := delL_wts k r
    rw [delL]
    split <;> simp only [wts] <;> omega
theorem delL_none (k : V) : ∀ l : List V, l.length % 2 = 0 → (∀ i, l[2 * i]? ≠ some k) → delL k l = l
  | [], _, _ => by simp [delL]
  | [x], h, _ => by simp at h
  | x :: y :: r, h, hn => by
    have ih := delL_none k r (by simp at h; omega) (fun i => by have := hn (i + 1); simpa [show 2 * (i + 1) = 2 * i + 1 + 1 by omega] using this)
    have hx : ¬ cmpV x k = 0 := fun e => hn 0 (by rw [(cmpV_zero x k).1 e]; rfl)
    rw [delL, if_neg hx, ih]
theorem Rise.tail {a b : V} {r : List V} (h : Rise (a :: b :: r)) : Rise r := fun i x y hx hy => h (i + 1) x y (by simpa [show 2 * (i + 1) = 2 * i + 1 + 1 by omega] using hx) (by simpa [show 2 * (i + 1) + 2 = 2 * i + 2 + 1 + 1 by omega] using hy)
theorem Rise.head {a b : V} {r : List V} (h : Rise (a :: b :: r)) {i : Nat} {x : V} (hx : r[2 * i]? = some x) : cmpV a x < 0 := h.lt (i := 0) (j := i + 1) (by omega) rfl (by simpa [show 2 * (i + 1) = 2 * i + 1 + 1 by omega] using hx)
theorem hit_cons {k a b : V} {r : List V} (h : cmpV a k < 0) : kat k (a :: b :: r) = kat k r + 1 ∧ hit k (a :: b :: r) = hit k r := by
  have h1 : kat k (a :: b :: r) = kat k r + 1 := by rw [kat, if_pos h]
  refine ⟨h1, ?_⟩
  unfold hit
  rw [h1]
  simp [show 2 * (kat k r + 1) = 2 * kat k r + 1 + 1 by omega]
theorem hit_not {k a b : V} {r : List V} (h : ¬ cmpV a k < 0) : kat k (a :: b :: r) = 0 ∧ hit k (a :: b :: r) = decide (cmpV k a = 0) := by
  have h1 : kat k (a :: b :: r) = 0 := by rw [kat, if_neg h]
  refine ⟨h1, ?_⟩
  unfold hit
  rw [h1]
  simp
theorem delL_eq (k : V) : ∀ l : List V, l.length % 2 = 0 → Rise l → delL k l = if hit k l = true then spl l (2 * kat k l) (2 * kat k l + 2) [] else l
  | [], _, _ => by simp [delL, hit, kat, spl]
  | [x], h, _ => by simp at h
  | a :: b :: r, h, hr => by
    have hev : r.length % 2 = 0 := by simp at h; omega
    rcases Int.lt_trichotomy (cmpV a k) 0 with hc | hc | hc
    · obtain ⟨h1, h2⟩ := hit_cons (b := b) (r := r) hc
      have ih := delL_eq k r hev hr.tail
      rw [delL, if_neg (by omega), ih, h1, h2]
      split
      · simp [spl, show 2 * (kat k r + 1) = 2 * kat k r + 1 + 1 by omega, show 2 * (kat k r + 1) + 2 = 2 * kat k r + 2 + 1 + 1 by omega]
      · rfl
    · obtain ⟨h1, h2⟩ := hit_not (b := b) (r := r) (show ¬ cmpV a k < 0 by omega)
      have hka := (cmpV_zero a k).1 hc
      subst hka
      rw [delL, if_pos hc, h1, h2, delL_none a r hev (fun i e => by have := hr.head e; rw [cmpV_self] at this; omega)]
      simp [cmpV_self, spl]
    · obtain ⟨h1, h2⟩ := hit_not (b := b) (r := r) (show ¬ cmpV a k < 0 by omega)
      have h3 := cmpV_neg k a
      rw [delL, if_neg (by omega), h2, delL_none k r hev (fun i e => by have := hr.head e; omega)]
      rw [if_neg (by simp; omega)]
theorem delV_eq {v k : V} (h5 : v.k = 5) (he : v.l.length % 2 = 0) (hr : Rise v.l) : delV v k = (.mk v.k v.n v.t (delL k v.l), 0) := by
  unfold delV
  rw [if_neg (by simp [h5]), delL_eq k v.l he hr]
  split
  · rfl
  · cases v; rfl
/-- So many pairs, with a new one where it belongs. -/
def insL (k x : V) (l : List V) (q : Nat) : List V := if kat k l < q then l.take (2 * kat k l) ++ [k, x] ++ (l.take (2 * q)).drop (2 * kat k l) else l.take (2 * q)
theorem take_two {l : List V} {q : Nat} {a b : V} (ha : l[2 * q]? = some a) (hb : l[2 * q + 1]? = some b) : l.take (2 * (q + 1)) = l.take (2 * q) ++ [a, b] := by
  rw [show 2 * (q + 1) = 2 * q + 1 + 1 by omega, List.take_add_one, List.take_add_one, ha, hb]; simp
theorem insL_zero (k x : V) (l : List V) : insL k x l 0 = [] := by simp [insL]
theorem insL_before {k x : V} {l : List V} {q : Nat} {a b : V} (ha : l[2 * q]? = some a) (hb : l[2 * q + 1]? = some b) (h : q < kat k l) : insL k x l (q + 1) = insL k x l q ++ [a, b] := by
  unfold insL
  rw [if_neg (by omega), if_neg (by omega), take_two ha hb]
theorem insL_at {k x : V} {l : List V} {q : Nat} {a b : V} (ha : l[2 * q]? = some a) (hb : l[2 * q + 1]? = some b) (h : q = kat k l) : insL k x l (q + 1) = insL k x l q ++ [k, x] ++ [a, b] := by
  have hlt := (List.getElem?_eq_some_iff.1 hb).1
  unfold insL
  rw [if_pos (by omega), if_neg (by omega), take_two ha hb, h, List.drop_left' (by simp; omega)]
theorem insL_behind {k x : V} {l : List V} {q : Nat} {a b : V} (ha : l[2 * q]? = some a) (hb : l[2 * q + 1]? = some b) (h : kat k l < q) : insL k x l (q + 1) = insL k x l q ++ [a, b] := by
  have hlt := (List.getElem?_eq_some_iff.1 hb).1
  unfold insL
  rw [if_pos (by omega), if_pos h, take_two ha hb, List.drop_append_of_le_length (by simp; omega)]
  simp
theorem insL_end {k x : V} {l : List V} {q : Nat} (hq : 2 * q = l.length) : spl l (2 * kat k l) (2 * kat k l) [k, x] = if kat k l < q then insL k x l q else insL k x l q ++ [k, x] := by
  have hle := kat_le k l
  unfold insL
  by_cases h : kat k l < q
  · rw [if_pos h, if_pos h, hq, List.take_length]; rfl
  · rw [if_neg h, if_neg h]
    have hk : 2 * kat k l = l.length := by omega
    rw [hk, hq]
    simp [spl]
theorem insL_len {k x : V} {l : List V} {q : Nat} (hq : 2 * q ≤ l.length) : (insL k x l q).length = if kat k l < q then 2 * q + 2 else 2 * q := by
  unfold insL
  split <;> simp <;> omega
end Go.Proofs.Ytkbplffckkjbfaa
