/- Texts of ours, joined: Mp, Vsp, Vu, Dvd. -/
import Derived.Test.YtndahpcjkcihlaaG00
import Derived.Test.YtndahpcjkcihlaaG20
import Derived.Test.YtndahpcjkcihlaaG04
import Derived.Deep.RegionWith
import Derived.Deep.RegionHeld3
import Derived.Deep.DrawnRows
import Derived.Test.YtndahpcjkcihlaaG21
import Derived.Test.YtndahpcjkcihlaaG10
import Derived.Test.YtndahpcjkcihlaaG33
import Derived.Test.YtndahpcjkcihlaaG11
/- Maps: where a key stands, what is put there, what is left without it. Plain mathematics. -/
namespace Go.Proofs.Ytndahpcjkcihlaa
set_option linter.unusedVariables false
set_option linter.unusedSimpArgs false

/-- The keys rise. -/
def Rise (l : List V) : Prop := ∀ (i : Nat) (a b : V), l[2 * i]? = some a → l[2 * i + 2]? = some b → cmpV a b < 0
/-- If it is a map, its keys rise. -/
def Tidy (v : V) : Prop := v.k = 5 → v.l.length % 2 = 0 ∧ Rise v.l
theorem Rise.lt {l : List V} (h : Rise l) : ∀ {i j : Nat} {a b : V}, i < j → l[2 * i]? = some a → l[2 * j]? = some b → cmpV a b < 0 := by
  intro i j
  induction j with
  | zero => intro a b hij; omega
  | succ j ih =>
    intro a b hij ha hb
    by_cases hj : i = j
    · subst hj; exact h i a b ha (by rw [show 2 * i + 2 = 2 * (i + 1) by omega]; exact hb)
    · have hlt : 2 * j < l.length := by have := (List.getElem?_eq_some_iff.1 hb).1; omega
      have hc : l[2 * j]? = some l[2 * j] := List.getElem?_eq_getElem hlt
      exact cmpV_lt_trans (ih (by omega) ha hc) (h j _ b hc (by rw [show 2 * j + 2 = 2 * (j + 1) by omega]; exact hb))
/-- How many keys are below. -/
def kat (k : V) : List V → Nat
  | a :: _ :: r => if cmpV a k < 0 then kat k r + 1 else 0
  | _ => 0
theorem kat_le (k : V) : ∀ l : List V, 2 * kat k l ≤ l.length
  | a :: b :: r => by
    rw [kat]; have := kat_le k r
    split <;> simp <;> omega
  | [] => by simp [kat]
  | [a] => by simp [kat]
theorem kat_lo (k : V) : ∀ (l : List V) (j : Nat) (a : V), j < kat k l → l[2 * j]? = some a → cmpV a k < 0
  | a :: b :: r, j, c, h, hc => by
    rw [kat] at h
    split at h
    · rename_i hak
      cases j with
      | zero => simp at hc; subst hc; exact hak
      | succ j => exact kat_lo k r j c (by omega) (by simpa [show 2 * (j + 1) = 2 * j + 1 + 1 by omega] using hc)
    · omega
  | [], j, c, h, hc => by simp at hc
  | [a], j, c, h, hc => by simp [kat] at h
theorem kat_hi (k : V) : ∀ (l : List V) (a : V), 2 * kat k l + 1 < l.length → l[2 * kat k l]? = some a → ¬ cmpV a k < 0
  | a :: b :: r, c, h, hc => by
    rw [kat] at h hc
    by_cases hak : cmpV a k < 0
    · rw [if_pos hak] at h hc
      exact kat_hi k r c (by simp at h; omega) (by simpa [show 2 * (kat k r + 1) = 2 * kat k r + 1 + 1 by omega] using hc)
    · rw [if_neg hak] at hc
      simp at hc; subst hc; exact hak
  | [], c, h, hc => by simp at hc
  | [a], c, h, hc => by simp at h
theorem kat_uniq {k : V} {l : List V} (hr : Rise l) {i : Nat} (hi : 2 * i ≤ l.length) (h1 : ∀ a, 0 < i → l[2 * (i - 1)]? = some a → cmpV a k < 0) (h2 : ∀ a, 2 * i + 1 < l.length → l[2 * i]? = some a → ¬ cmpV a k < 0) (he : l.length % 2 = 0) : kat k l = i := by
  have hle := kat_le k l
  rcases Nat.lt_trichotomy (kat k l) i with h | h | h
  · exfalso
    have hb : 2 * (i - 1) < l.length := by omega
    have hb0 : 2 * kat k l < l.length := by omega
    have e1 := h1 _ (by omega) (List.getElem?_eq_getElem hb)
    have e2 := kat_hi k l _ (by omega) (List.getElem?_eq_getElem hb0)
    by_cases he : kat k l = i - 1
    · apply e2
      have : l[2 * kat k l] = l[2 * (i - 1)] := by congr 1; omega
      rw [this]; exact e1
    · exact e2 (cmpV_lt_trans (hr.lt (i := kat k l) (j := i - 1) (by omega) (List.getElem?_eq_getElem hb0) (List.getElem?_eq_getElem hb)) e1)
  · exact h
  · exfalso
    have hb : 2 * i < l.length := by omega
    exact h2 _ (by omega) (List.getElem?_eq_getElem hb) (kat_lo k l i _ h (List.getElem?_eq_getElem hb))
/-- Is the key there? -/
def hit (k : V) (l : List V) : Bool := match l[2 * kat k l]? with | some a => decide (cmpV k a = 0) | none => false
theorem hit_some {k : V} {l : List V} (h : hit k l = true) : l[2 * kat k l]? = some k := by
  unfold hit at h
  rcases e : l[2 * kat k l]? with _ | a
  · rw [e] at h; cases h
  · rw [e] at h
    simp at h
    rw [(cmpV_zero k a).1 h]
theorem hit_at {k : V} {l : List V} (hr : Rise l) (he : l.length % 2 = 0) {i : Nat} (h : l[2 * i]? = some k) : kat k l = i ∧ hit k l = true := by
  have hlt := (List.getElem?_eq_some_iff.1 h).1
  have hk : kat k l = i := by
    refine kat_uniq hr (by omega) (fun a h0 ha => hr.lt (i := i - 1) (j := i) (by omega) ha h) (fun a _ ha => ?_) he
    rw [h] at ha
    simp only [Option.some.injEq] at ha
    subst ha
    rw [cmpV_self]; omega
  refine ⟨hk, ?_⟩
  unfold hit
  rw [hk, h]
  simp [cmpV_self]
theorem no_hit {k : V} {l : List V} (h : ∀ i, l[2 * i]? ≠ some k) : hit k l = false := by
  rcases e : hit k l with _ | _
  · rfl
  · exact absurd (hit_some e) (h _)
theorem kat_above {k : V} {l : List V} (he : l.length % 2 = 0) (hn : hit k l = false) {a : V} (ha : l[2 * kat k l]? = some a) : cmpV k a < 0 := by
  have hlt := (List.getElem?_eq_some_iff.1 ha).1
  have h1 := kat_hi k l a (by omega) ha
  have h2 := cmpV_neg k a
  have h3 : ¬ cmpV k a = 0 := by
    intro h
    unfold hit at hn
    rw [ha] at hn
    simp [h] at hn
  omega
/-- The list with others in the place of some. -/
def spl (l : List V) (f t : Nat) (xs : List V) : List V := l.take f ++ xs ++ l.drop t
theorem wts_drop_le (l : List V) (i : Nat) : wts (l.drop i) ≤ wts l := by
  have := wts_append (l.take i) (l.drop i)
  rw [List.take_append_drop] at this; omega
theorem wts_spl (l : List V) (f t : Nat) (xs : List V) : wts (spl l f t xs) ≤ wts l + wts xs + wts l := by
  unfold spl
  rw [wts_append, wts_append]
  have := wts_take_le l f; have := wts_drop_le l t; omega
def wgV (v : V) : V × Int := if wt v ≤ 16384 then (v, 0) else (V.zero, 53)
/-- Where an element or a key's value stands. -/
def plV (v k : V) : Nat × Int :=
  if v.k = 4 ∧ k.k = 1 then (if 0 ≤ k.n ∧ k.n < v.l.length then (k.n.toNat, 0) else (0, 52))
  else if v.k = 5 then (if hit k v.l = true then (2 * kat k v.l + 1, 0) else (0, 52))
  else (0, 40)
theorem plV_lt {v k : V} (ht : Tidy v) (h : (plV v k).2 = 0) : (plV v k).1 < v.l.length := by
  unfold plV at h ⊢
  split
  · split
    · simp only; omega
    · rename_i h1 h2; rw [if_pos h1, if_neg h2] at h; simp at h
  · rename_i h1
    rw [if_neg h1] at h
    split
    · rename_i h2
      rw [if_pos h2] at h
      split
      · rename_i h3
        have := (List.getElem?_eq_some_iff.1 (hit_some h3)).1
        have := (ht h2).1
        simp only; omega
      · rename_i h3; rw [if_neg h3] at h; simp at h
    · rename_i h2; rw [if_neg h2] at h; simp at h
def atV (v k : V) : V × Int := if (plV v k).2 = 0 then (v.l.getD (plV v k).1 V.zero, 0) else (V.zero, (plV v k).2)
def putV (v k x : V) : V × Int :=
  if (plV v k).2 = 0 then wgV (.mk v.k v.n v.t (spl v.l (plV v k).1 ((plV v k).1 + 1) [x]))
  else if v.k ≠ 5 then (V.zero, (plV v k).2)
  else if 64 ≤ v.l.length / 2 then (V.zero, 53)
  else wgV (.mk v.k v.n v.t (spl v.l (2 * kat k v.l) (2 * kat k v.l) [k, x]))
def delV (v k : V) : V × Int :=
  if v.k ≠ 5 then (V.zero, 40)
  else if hit k v.l = true then (.mk v.k v.n v.t (spl v.l (2 * kat k v.l) (2 * kat k v.l + 2) []), 0)
  else (v, 0)
def lenV (v : V) : Nat × Int := if v.k = 3 then (v.t.length, 0) else if v.k = 4 then (v.l.length, 0) else if v.k = 5 then (v.l.length / 2, 0) else (0, 40)
def pushV (v x : V) : V × Int := if v.k ≠ 4 then (V.zero, 40) else if 64 ≤ v.l.length then (V.zero, 53) else wgV (.mk v.k v.n v.t (v.l ++ [x]))
end Go.Proofs.Ytndahpcjkcihlaa
namespace Go.Proofs.Ytndahpcjkcihlaa
set_option linter.unusedVariables false
set_option linter.unusedSimpArgs false

/-- All pairs but those of a key. -/
def delL (k : V) : List V → List V
  | a :: b :: r => if cmpV a k = 0 then delL k r else a :: b :: delL k r
  | _ => []
theorem delL_append (k a b : V) : ∀ l : List V, l.length % 2 = 0 → delL k (l ++ [a, b]) = delL k l ++ (if cmpV a k = 0 then [] else [a, b])
  | [], _ => by simp [delL]
  | [x], h => by simp at h
  | x :: y :: r, h => by
    have ih := delL_append k a b r (by simp at h; omega)
    rw [List.cons_append, List.cons_append, delL, delL, ih]
    split <;> simp
theorem delL_len (k : V) : ∀ l : List V, (delL k l).length ≤ l.length
  | [] => by simp [delL]
  | [x] => by simp [delL]
  | x :: y :: r => by
    have := delL_len k r
    rw [delL]
    split <;> simp <;> omega
theorem delL_wts (k : V) : ∀ l : List V, wts (delL k l) ≤ wts l
  | [] => by simp [delL, wts]
  | [x] => by simp [delL, wts]
  | x :: y :: r => by
    have := delL_wts k r
    rw [delL]
    split <;> simp only [wts] <;> omega
theorem delL_none (k : V) : ∀ l : List V, l.length % 2 = 0 → (∀ i, l[2 * i]? ≠ some k) → delL k l = l
  | [], _, _ => by simp [delL]
  | [x], h, _ => by simp at h
  | x :: y :: r, h, hn => by
    have ih := delL_none k r (by simp at h; omega) (fun i => by have := hn (i + 1); simpa [show 2 * (i + 1) = 2 * i + 1 + 1 by omega] using this)
    have hx : ¬ cmpV x k = 0 := fun e => hn 0 (by rw [(cmpV_zero x k).1 e]; rfl)
    rw [delL, if_neg hx, ih]
theorem Rise.tail {a b : V} {r : List V} (h : Rise (a :: b :: r)) : Rise r := fun i x y hx hy => h (i + 1) x y (by simpa [show 2 * (i + 1) = 2 * i + 1 + 1 by omega] using hx) (by simpa [show 2 * (i + 1) + 2 = 2 * i + 2 + 1 + 1 by omega] using hy)
theorem Rise.head {a b : V} {r : List V} (h : Rise (a :: b :: r)) {i : Nat} {x : V} (hx : r[2 * i]? = some x) : cmpV a x < 0 := h.lt (i := 0) (j := i + 1) (by omega) rfl (by simpa [show 2 * (i + 1) = 2 * i + 1 + 1 by omega] using hx)
theorem hit_cons {k a b : V} {r : List V} (h : cmpV a k < 0) : kat k (a :: b :: r) = kat k r + 1 ∧ hit k (a :: b :: r) = hit k r := by
  have h1 : kat k (a :: b :: r) = kat k r + 1 := by rw [kat, if_pos h]
  refine ⟨h1, ?_⟩
  unfold hit
  rw [h1]
  simp [show 2 * (kat k r + 1) = 2 * kat k r + 1 + 1 by omega]
theorem hit_not {k a b : V} {r : List V} (h : ¬ cmpV a k < 0) : kat k (a :: b :: r) = 0 ∧ hit k (a :: b :: r) = decide (cmpV k a = 0) := by
  have h1 : kat k (a :: b :: r) = 0 := by rw [kat, if_neg h]
  refine ⟨h1, ?_⟩
  unfold hit
  rw [h1]
  simp
theorem delL_eq (k : V) : ∀ l : List V, l.length % 2 = 0 → Rise l → delL k l = if hit k l = true then spl l (2 * kat k l) (2 * kat k l + 2) [] else l
  | [], _, _ => by simp [delL, hit, kat, spl]
  | [x], h, _ => by simp at h
  | a :: b :: r, h, hr => by
    have hev : r.length % 2 = 0 := by simp at h; omega
    rcases Int.lt_trichotomy (cmpV a k) 0 with hc | hc | hc
    · obtain ⟨h1, h2⟩ := hit_cons (b := b) (r := r) hc
      have ih := delL_eq k r hev hr.tail
      rw [delL, if_neg (by omega), ih, h1, h2]
      split
      · simp [spl, show 2 * (kat k r + 1) = 2 * kat k r + 1 + 1 by omega, show 2 * (kat k r + 1) + 2 = 2 * kat k r + 2 + 1 + 1 by omega]
      · rfl
    · obtain ⟨h1, h2⟩ := hit_not (b := b) (r := r) (show ¬ cmpV a k < 0 by omega)
      have hka := (cmpV_zero a k).1 hc
      subst hka
      rw [delL, if_pos hc, h1, h2, delL_none a r hev (fun i e => by have := hr.head e; rw [cmpV_self] at this; omega)]
      simp [cmpV_self, spl]
    · obtain ⟨h1, h2⟩ := hit_not (b := b) (r := r) (show ¬ cmpV a k < 0 by omega)
      have h3 := cmpV_neg k a
      rw [delL, if_neg (by omega), h2, delL_none k r hev (fun i e => by have := hr.head e; omega)]
      rw [if_neg (by simp; omega)]
theorem delV_eq {v k : V} (h5 : v.k = 5) (he : v.l.length % 2 = 0) (hr : Rise v.l) : delV v k = (.mk v.k v.n v.t (delL k v.l), 0) := by
  unfold delV
  rw [if_neg (by simp [h5]), delL_eq k v.l he hr]
  split
  · rfl
  · cases v; rfl
/-- So many pairs, with a new one where it belongs. -/
def insL (k x : V) (l : List V) (q : Nat) : List V := if kat k l < q then l.take (2 * kat k l) ++ [k, x] ++ (l.take (2 * q)).drop (2 * kat k l) else l.take (2 * q)
theorem take_two {l : List V} {q : Nat} {a b : V} (ha : l[2 * q]? = some a) (hb : l[2 * q + 1]? = some b) : l.take (2 * (q + 1)) = l.take (2 * q) ++ [a, b] := by
  rw [show 2 * (q + 1) = 2 * q + 1 + 1 by omega, List.take_add_one, List.take_add_one, ha, hb]; simp
theorem insL_zero (k x : V) (l : List V) : insL k x l 0 = [] := by simp [insL]
theorem insL_before {k x : V} {l : List V} {q : Nat} {a b : V} (ha : l[2 * q]? = some a) (hb : l[2 * q + 1]? = some b) (h : q < kat k l) : insL k x l (q + 1) = insL k x l q ++ [a, b] := by
  unfold insL
  rw [if_neg (by omega), if_neg (by omega), take_two ha hb]
theorem insL_at {k x : V} {l : List V} {q : Nat} {a b : V} (ha : l[2 * q]? = some a) (hb : l[2 * q + 1]? = some b) (h : q = kat k l) : insL k x l (q + 1) = insL k x l q ++ [k, x] ++ [a, b] := by
  have hlt := (List.getElem?_eq_some_iff.1 hb).1
  unfold insL
  rw [if_pos (by omega), if_neg (by omega), take_two ha hb, h, List.drop_left' (by simp; omega)]
theorem insL_behind {k x : V} {l : List V} {q : Nat} {a b : V} (ha : l[2 * q]? = some a) (hb : l[2 * q + 1]? = some b) (h : kat k l < q) : insL k x l (q + 1) = insL k x l q ++ [a, b] := by
  have hlt := (List.getElem?_eq_some_iff.1 hb).1
  unfold insL
  rw [if_pos (by omega), if_pos h, take_two ha hb, List.drop_append_of_le_length (by simp; omega)]
  simp
theorem insL_end {k x : V} {l : List V} {q : Nat} (hq : 2 * q = l.length) : spl l (2 * kat k l) (2 * kat k l) [k, x] = if kat k l < q then insL k x l q else insL k x l q ++ [k, x] := by
  have hle := kat_le k l
  unfold insL
  by_cases h : kat k l < q
  · rw [if_pos h, if_pos h, hq, List.take_length]; rfl
  · rw [if_neg h, if_neg h]
    have hk : 2 * kat k l = l.length := by omega
    rw [hk, hq]
    simp [spl]
theorem insL_len {k x : V} {l : List V} {q : Nat} (hq : 2 * q ≤ l.length) : (insL k x l q).length = if kat k l < q then 2 * q + 2 else 2 * q := by
  unfold insL
  split <;> simp <;> omega
end Go.Proofs.Ytndahpcjkcihlaa
/- A value with others in its list: the program's spliced. -/
namespace Go.Proofs.Ytndahpcjkcihlaa
open Go.RowKit
set_option linter.unusedVariables false
set_option linter.unusedSimpArgs false
attribute [local go_sem ↓] Go.wp_at_zero Go.wp_at_succ

/-- Where a slice that is cut at lo begins. -/
def cutA (a : Option Addr) (lo cap : Nat) : Option Addr := if cap = lo then a else a.map (·.add (lo * 4))
theorem vsize (wx : World) : (sizeOf (Try.prog.elem 22)).run Try.prog wx = .ok 4 wx := by kernel_rfl
theorem velem : Try.prog.underlying 22 = some (.slice (Try.prog.elem 22)) := by kernel_rfl
theorem cut_high (a : Option Addr) (len cap hi : Nat) (h : hi ≤ cap) (wx : World) :
    (Instr.slice 22 (.slice a len cap) none (some (.int .i64 (hi : Int))) none).run Try.prog wx = .ok (.slice a hi cap) wx := by
  rw [run_slice_h (P := Try.prog) wx 22 a len cap velem .i64 hi (by omega) (by omega), vsize]
  cases a <;> simp [Result.andThen, sliced, Addr.add]
theorem cut_low (a : Option Addr) (len cap lo : Nat) (h1 : lo ≤ len) (wx : World) :
    (Instr.slice 22 (.slice a len cap) (some (.int .i64 (lo : Int))) none none).run Try.prog wx = .ok (.slice (cutA a lo cap) (len - lo) (cap - lo)) wx := by
  rw [run_slice_l (P := Try.prog) wx 22 a len cap velem .i64 lo (by omega) (by omega), vsize]
  rfl
theorem IsVs.take {B : Nat → Prop} {w : World} {l : List V} {ao : Option Addr} {n cap : Nat} (h : IsVs B w l (.slice ao n cap)) {q : Nat} (hq : q ≤ l.length) : IsVs B w (l.take q) (.slice ao q cap) := by
  obtain ⟨row, ⟨h1, h2⟩, h3⟩ := h
  have e : (l.take q).length = q := by simp; omega
  have hall := h3
  rw [← List.take_append_drop q l] at hall
  obtain ⟨r1, r2, hr, k1, k2⟩ := AllV.split hall
  have hr1 := k1.len
  rw [e] at hr1
  refine ⟨r1, ⟨by rw [e]; exact hr1, ?_⟩, k1⟩
  rcases h2 with ⟨e0 | ⟨a0, cap0, e0, hcm⟩, h0⟩ | ⟨g, o, cap', e0, c1, c2, hB, hg, hc⟩
  · simp only [Value.slice.injEq] at e0
    obtain ⟨rfl, _, rfl⟩ := e0
    exact Or.inl ⟨Or.inl (by rw [show q = 0 by omega]), by rw [e]; omega⟩
  · simp only [Value.slice.injEq] at e0
    obtain ⟨rfl, _, rfl⟩ := e0
    exact Or.inl ⟨Or.inr ⟨a0, cap, by rw [show q = 0 by omega], hcm⟩, by rw [e]; omega⟩
  · simp only [Value.slice.injEq] at e0
    obtain ⟨rfl, _, rfl⟩ := e0
    exact Or.inr ⟨g, o, cap, by rw [e], by rw [e]; omega, c2, hB, hg, fun j u hj => hc j u (by rw [hr, List.getElem?_append_left (by have := (List.getElem?_eq_some_iff.1 hj).1; omega)]; exact hj)⟩
theorem IsVs.drop {B : Nat → Prop} {w : World} {l : List V} {ao : Option Addr} {n cap : Nat} (h : IsVs B w l (.slice ao n cap)) {q : Nat} (hq : q ≤ l.length) : IsVs B w (l.drop q) (.slice (cutA ao q cap) (l.length - q) (cap - q)) := by
  obtain ⟨row, ⟨h1, h2⟩, h3⟩ := h
  have e : (l.drop q).length = l.length - q := by simp
  have hall := h3
  rw [← List.take_append_drop q l] at hall
  obtain ⟨r1, r2, hr, k1, k2⟩ := AllV.split hall
  have hr1 := k1.len
  have hr2 := k2.len
  have e1 : (l.take q).length = q := by simp; omega
  rw [e1] at hr1
  refine ⟨r2, ⟨hr2, ?_⟩, k2⟩
  rcases h2 with ⟨e0 | ⟨a0, cap0, e0, hcm⟩, h0⟩ | ⟨g, o, cap', e0, c1, c2, hB, hg, hc⟩
  rotate_left
  · simp only [Value.slice.injEq] at e0
    obtain ⟨rfl, _, rfl⟩ := e0
    refine Or.inl ⟨Or.inr ?_, by rw [e]; omega⟩
    unfold cutA
    rw [show l.length - q = 0 by omega]
    split
    · exact ⟨a0, _, rfl, by omega⟩
    · exact ⟨_, _, rfl, by omega⟩
  rotate_left
  · simp only [Value.slice.injEq] at e0
    obtain ⟨rfl, _, rfl⟩ := e0
    refine Or.inl ⟨Or.inl ?_, by rw [e]; omega⟩
    unfold cutA
    rw [show l.length - q = 0 by omega, show 0 - q = 0 by omega]
    split <;> rfl
  · simp only [Value.slice.injEq] at e0
    obtain ⟨rfl, _, rfl⟩ := e0
    unfold cutA
    by_cases hcap : cap = q
    · rw [if_pos hcap]
      refine Or.inr ⟨g, o, cap - q, by rw [e], by rw [e]; omega, by omega, hB, hg, fun j u hj => ?_⟩
      have := (List.getElem?_eq_some_iff.1 hj).1
      omega
    · rw [if_neg hcap]
      refine Or.inr ⟨g, o + q * 4, cap - q, ?_, by rw [e]; omega, by omega, hB, hg, fun j u hj => ?_⟩
      · rw [e]
        by_cases h0 : q = 0
        · simp [Addr.add, h0]
        · have : ¬ q * 4 = 0 := by omega
          simp [Addr.add, this]
      · have := hc (q * 4 + j) u (by rw [hr, List.getElem?_append_right (by omega), hr1]; simpa using hj)
        rw [Nat.add_assoc]; exact this
end Go.Proofs.Ytndahpcjkcihlaa
/- weighed and Push: the program's. -/
namespace Go.Proofs.Ytndahpcjkcihlaa
open Go.RowKit
set_option linter.unusedVariables false
set_option linter.unusedSimpArgs false

/-- A value and an error are answered, the value in new memory. -/
def OutV (w : World) (o : V × Int) (r : Ending) (w' : World) : Prop := (∃ ao cap, r = .returned (.tuple #[.agg #[.int .i64 o.1.k, .int .i64 o.1.n, .string ⟨o.1.t.toArray⟩, .slice ao o.1.l.length cap], .int .i64 o.2]) ∧ IsW (From w.heap.size) w' o.1 (.slice ao o.1.l.length cap)) ∧ Below w.heap.size w w'
/-- The same, and what is answered may be written over. -/
def OutW (w : World) (o : V × Int) (r : Ending) (w' : World) : Prop := (∃ ao cap, r = .returned (.tuple #[.agg #[.int .i64 o.1.k, .int .i64 o.1.n, .string ⟨o.1.t.toArray⟩, .slice ao o.1.l.length cap], .int .i64 o.2]) ∧ IsW (From w.heap.size) w' o.1 (.slice ao o.1.l.length cap) ∧ Wf (From w.heap.size) 1000001 w' (.slice ao o.1.l.length cap)) ∧ Below w.heap.size w w'
theorem OutW.out {w w' : World} {o : V × Int} {r : Ending} (h : OutW w o r w') : OutV w o r w' := by
  obtain ⟨⟨a, c, h1, h2, _⟩, h3⟩ := h
  exact ⟨⟨a, c, h1, h2⟩, h3⟩
theorem zero_isW {B : Nat → Prop} {w : World} : IsW B w V.zero (.slice none 0 0) := ⟨Nat.zero_le _, by constructor <;> decide, by constructor <;> decide, IsVs.nil⟩
theorem outW_zero {w w' : World} {e : Int} (hb : Below w.heap.size w w') : OutW w (V.zero, e) (.returned (.tuple #[.agg #[.int .i64 0, .int .i64 0, .string ⟨#[]⟩, .slice none 0 0], .int .i64 e])) w' := ⟨⟨none, 0, rfl, zero_isW, Wf.nil (by unfold maxLen; omega)⟩, hb⟩
theorem outV_zero {w w' : World} {e : Int} (hb : Below w.heap.size w w') : OutV w (V.zero, e) (.returned (.tuple #[.agg #[.int .i64 0, .int .i64 0, .string ⟨#[]⟩, .slice none 0 0], .int .i64 e])) w' := ⟨⟨none, 0, rfl, zero_isW⟩, hb⟩
theorem one_vs {B B' : Nat → Prop} {w : World} {g : Nat} {x : V} {sx : Value} (h : w.heap[g]? = some (.cells #[.int .i64 x.k, .int .i64 x.n, .string ⟨x.t.toArray⟩, sx] 29)) (hx : IsW B w x sx) (hb : ∀ k, B k → k < w.heap.size → B' k) (hg : B' g) : IsVs B' w [x] (.slice (some ⟨g, 0, none⟩) 1 1) := by
  refine ⟨_, ⟨?_, Or.inr ⟨g, 0, 1, rfl, Nat.le_refl _, by unfold maxLen; omega, hg, (Array.getElem?_eq_some_iff.1 h).1, fun j u hj => ?_⟩⟩, AllV.one (isV_iff.2 ⟨sx, rfl, hx.base hb⟩)⟩
  · rfl
  · rw [cell_block h, Nat.zero_add]
    simpa using hj
end Go.Proofs.Ytndahpcjkcihlaa
namespace Go.Proofs.Ytndahpcjkcihlaa
open Go.RowKit
set_option linter.unusedVariables false
set_option linter.unusedSimpArgs false

/-- Two parameters in their boxes, and the box for what is answered. -/
theorem boxed2r (w : World) (a : V) (sa : Value) (b : V) (sb : Value) : ∃ w0 w1 w2, w.alloc (.cells #[.int .i64 a.k, .int .i64 a.n, .string ⟨a.t.toArray⟩, sa] 29) = w0 ∧ w0.alloc (.cells #[.int .i64 b.k, .int .i64 b.n, .string ⟨b.t.toArray⟩, sb] 29) = w1 ∧ w1.alloc (.cells #[.int .i64 0, .int .i64 0, .string ⟨#[]⟩, .slice none 0 0] 29) = w2 ∧ w0.heap.size = w.heap.size + 1 ∧ w1.heap.size = w.heap.size + 2 ∧ w2.heap.size = w.heap.size + 3 ∧ Below w.heap.size w w2 ∧
    (∀ w3, Below w2.heap.size w2 w3 → w3.cell? ⟨w.heap.size, 0, none⟩ = some (.int .i64 a.k) ∧ w3.cell? ⟨w.heap.size, 1, none⟩ = some (.int .i64 a.n) ∧ w3.cell? ⟨w.heap.size, 2, none⟩ = some (.string ⟨a.t.toArray⟩) ∧ w3.cell? ⟨w.heap.size, 3, none⟩ = some sa ∧
      w3.cell? ⟨w.heap.size + 1, 0, none⟩ = some (.int .i64 b.k) ∧ w3.cell? ⟨w.heap.size + 1, 1, none⟩ = some (.int .i64 b.n) ∧ w3.cell? ⟨w.heap.size + 1, 2, none⟩ = some (.string ⟨b.t.toArray⟩) ∧ w3.cell? ⟨w.heap.size + 1, 3, none⟩ = some sb) ∧
    (∀ w3, Below w2.heap.size w2 w3 → w3.cell? ⟨w.heap.size + 2, 0, none⟩ = some (.int .i64 0) ∧ w3.cell? ⟨w.heap.size + 2, 1, none⟩ = some (.int .i64 0) ∧ w3.cell? ⟨w.heap.size + 2, 2, none⟩ = some (.string ⟨#[]⟩) ∧ w3.cell? ⟨w.heap.size + 2, 3, none⟩ = some (.slice none 0 0) ∧
      w3.frozen? ⟨w.heap.size + 2, 0, none⟩ = false ∧ w3.frozen? ⟨w.heap.size + 2, 1, none⟩ = false ∧ w3.frozen? ⟨w.heap.size + 2, 2, none⟩ = false ∧ w3.frozen? ⟨w.heap.size + 2, 3, none⟩ = false ∧ w.heap.size + 2 < w3.heap.size) := by
  obtain ⟨w0, w1, hW, hW1, hs0, hs1, hB, d0, d1, d2, d3, e0, e1, e2, e3⟩ := boxed2 w a sa b sb
  obtain ⟨w2, hW2, hb2, hsz2, hr⟩ := rbox w1
  rw [hs1] at hr
  have hc : ∀ w3, Below w2.heap.size w2 w3 → ∀ b o, b < w1.heap.size → w3.cell? ⟨b, o, none⟩ = w1.cell? ⟨b, o, none⟩ := fun w3 h b o hb => ((bcell h).1 b o (by omega)).trans ((bcell hb2).1 b o hb)
  refine ⟨w0, w1, w2, hW, hW1, hW2, hs0, hs1, by omega, hB.trans (hb2.mono hB.size), fun w3 h => ?_, hr⟩
  have c := hc w3 h
  exact ⟨(c _ _ (by omega)).trans d0, (c _ _ (by omega)).trans d1, (c _ _ (by omega)).trans d2, (c _ _ (by omega)).trans d3, (c _ _ (by omega)).trans e0, (c _ _ (by omega)).trans e1, (c _ _ (by omega)).trans e2, (c _ _ (by omega)).trans e3⟩
theorem OutV.trans {w w2 w3 : World} {o : V × Int} {r : Ending} (h : OutV w2 o r w3) (hb : Below w.heap.size w w2) : OutV w o r w3 := by
  obtain ⟨⟨ao, cap, e, hx⟩, hb3⟩ := h
  have hs := hb.size
  exact ⟨⟨ao, cap, e, hx.base (fun k hk _ => by show w.heap.size ≤ k; have : w2.heap.size ≤ k := hk; omega)⟩, hb.trans (hb3.mono hs)⟩
/-- It is stored into the box for what is answered. -/
theorem OutV.stored {w w2 w3 : World} {o : V × Int} {ao : Option Addr} {cap : Nat} {g : Nat} (hx : IsW (From w2.heap.size) w3 o.1 (.slice ao o.1.l.length cap)) (hb : Below w.heap.size w w3) (hg : w.heap.size ≤ g) (hg2 : g < w2.heap.size) :
    OutV w o (.returned (.tuple #[.agg #[.int .i64 o.1.k, .int .i64 o.1.n, .string ⟨o.1.t.toArray⟩, .slice ao o.1.l.length cap], .int .i64 o.2])) (set4 w3 g (.int .i64 o.1.k) (.int .i64 o.1.n) (.string ⟨o.1.t.toArray⟩) (.slice ao o.1.l.length cap)) :=
  ⟨⟨ao, cap, rfl, (hx.since (since_set4 (by show ¬ (w2.heap.size ≤ g); omega) _ _ _ _)).base (fun k hk _ => by show w.heap.size ≤ k; have : w2.heap.size ≤ k := hk; omega)⟩, below_set4 hb hg _ _ _ _⟩
theorem OutW.stored {w w2 w3 : World} {o : V × Int} {ao : Option Addr} {cap : Nat} {g : Nat} (hx : IsW (From w2.heap.size) w3 o.1 (.slice ao o.1.l.length cap)) (hb : Below w.heap.size w w3) (hg : w.heap.size ≤ g) (hg2 : g < w2.heap.size) (hz : Wf (From w2.heap.size) 1000001 w3 (.slice ao o.1.l.length cap)) :
    OutW w o (.returned (.tuple #[.agg #[.int .i64 o.1.k, .int .i64 o.1.n, .string ⟨o.1.t.toArray⟩, .slice ao o.1.l.length cap], .int .i64 o.2])) (set4 w3 g (.int .i64 o.1.k) (.int .i64 o.1.n) (.string ⟨o.1.t.toArray⟩) (.slice ao o.1.l.length cap)) :=
  ⟨⟨ao, cap, rfl, (hx.since (since_set4 (by show ¬ (w2.heap.size ≤ g); omega) _ _ _ _)).base (fun k hk _ => by show w.heap.size ≤ k; have : w2.heap.size ≤ k := hk; omega), (hz.since (since_set4 (by show ¬ (w2.heap.size ≤ g); omega) _ _ _ _)).base (fun k hk _ => by show w.heap.size ≤ k; have : w2.heap.size ≤ k := hk; omega)⟩, below_set4 hb hg _ _ _ _⟩
theorem spl_push (l : List V) (x : V) : spl l l.length l.length [x] = l ++ [x] := by simp [spl]
end Go.Proofs.Ytndahpcjkcihlaa
/- Decode: the program's. -/
namespace Go.Proofs.Ytndahpcjkcihlaa
open Go.RowKit
set_option linter.unusedVariables false
set_option linter.unusedSimpArgs false

/-- What bytes are, of a type. -/
noncomputable def dcV (y bs : List UInt8) : V × Int := match tyOf y with
  | none => (V.zero, 1)
  | some T => if (rdV T (some bs)).2 = some [] then (if fitS y (rdV T (some bs)).1 = true then ((rdV T (some bs)).1, 0) else (V.zero, 11)) else (V.zero, 11)
end Go.Proofs.Ytndahpcjkcihlaa
