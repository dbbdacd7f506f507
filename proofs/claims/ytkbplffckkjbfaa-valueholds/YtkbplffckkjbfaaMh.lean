/- What is put is found, what is deleted isn't, the rest stays, and the type does. Plain mathematics. -/
import Derived.Test.YtkbplffckkjbfaaMp
import Derived.Test.YtkbplffckkjbfaaVs
namespace Go.Proofs.Ytkbplffckkjbfaa
set_option linter.unusedVariables false
set_option linter.unusedSimpArgs false

theorem spl_get (l : List V) (f t : Nat) (xs : List V) (hf : f ≤ l.length) (j : Nat) : (spl l f t xs)[j]? = if j < f then l[j]? else if j < f + xs.length then xs[j - f]? else l[j - (f + xs.length) + t]? := by
  unfold spl
  have e1 : (l.take f).length = f := by simp; omega
  by_cases h1 : j < f
  · rw [if_pos h1, List.append_assoc, List.getElem?_append_left (by omega), List.getElem?_take, if_pos h1]
  · rw [if_neg h1]
    by_cases h2 : j < f + xs.length
    · rw [if_pos h2, List.getElem?_append_left (by simp; omega), List.getElem?_append_right (by omega), e1]
    · rw [if_neg h2, List.getElem?_append_right (by simp; omega), List.getElem?_drop]
      congr 1
      simp; omega
theorem wts_take_drop (l : List V) {f t : Nat} (h : f ≤ t) : wts (l.take f ++ l.drop t) ≤ wts l := by
  have e : l.take f ++ l.drop t = l.take f ++ (l.drop f).drop (t - f) := by rw [List.drop_drop]; congr 2; omega
  rw [e, wts_append]
  have h1 := wts_append (l.take f) (l.drop f)
  rw [List.take_append_drop] at h1
  have h2 := wts_append ((l.drop f).take (t - f)) ((l.drop f).drop (t - f))
  rw [List.take_append_drop] at h2
  omega
/-- The pair stands there. -/
def Ent (l : List V) (a b : V) : Prop := ∃ i, l[2 * i]? = some a ∧ l[2 * i + 1]? = some b
/-- What a map of a type is. -/
structure MapS (kb : Bool) (E : Ty) (l : List V) : Prop where
  ev : l.length % 2 = 0
  len : l.length ≤ 128
  key : ∀ i x, l[2 * i]? = some x → KeyS kb x
  val : ∀ i x, l[2 * i + 1]? = some x → Shp E x
  rise : Rise l
theorem shp_mapS {kb : Bool} {E : Ty} {v : V} : Shp (.map kb E) v ↔ v.k = 5 ∧ v.n = 0 ∧ v.t = [] ∧ MapS kb E v.l := by
  rw [Shp]
  constructor
  · rintro ⟨h1, h2, h3, h4, h5, h6, h7, h8⟩
    exact ⟨h1, h2, h3, h4, h5, h6, h7, h8⟩
  · rintro ⟨h1, h2, h3, h4, h5, h6, h7, h8⟩
    exact ⟨h1, h2, h3, h4, h5, h6, h7, h8⟩
theorem Shp.tidy {T : Ty} {v : V} (h : Shp T v) : Tidy v := by
  intro h5
  have hk := h.kind
  rw [h5] at hk
  cases T with
  | map kb E => exact ⟨(shp_mapS.1 h).2.2.2.ev, (shp_mapS.1 h).2.2.2.rise⟩
  | _ => simp [kd] at hk
theorem at_ent {v a b : V} (h5 : v.k = 5) (he : v.l.length % 2 = 0) (hr : Rise v.l) (h : Ent v.l a b) : atV v a = (b, 0) := by
  obtain ⟨i, h1, h2⟩ := h
  obtain ⟨hk, hh⟩ := hit_at hr he h1
  have hp : plV v a = (2 * i + 1, 0) := by unfold plV; rw [if_neg (by omega), if_pos h5, if_pos hh, hk]
  unfold atV
  rw [hp, if_pos rfl, List.getD_eq_getElem?_getD, h2]; rfl
theorem kat_lt_key {k : V} {l : List V} {i : Nat} {a : V} (h : l[2 * i]? = some a) (hi : i < kat k l) : cmpV a k < 0 := kat_lo k l i a hi h
theorem kat_ge_key {k : V} {l : List V} (he : l.length % 2 = 0) (hr : Rise l) {i : Nat} {a : V} (h : l[2 * i]? = some a) (hi : kat k l ≤ i) : ¬ cmpV a k < 0 := by
  have hlt := (List.getElem?_eq_some_iff.1 h).1
  have hq : l[2 * kat k l]? = some l[2 * kat k l] := List.getElem?_eq_getElem (by omega)
  have h1 := kat_hi k l _ (by omega) hq
  by_cases e : kat k l = i
  · subst e
    rw [h] at hq
    rw [Option.some.inj hq]; exact h1
  · intro h2
    exact h1 (cmpV_lt_trans (hr.lt (i := kat k l) (j := i) (by omega) hq h) h2)
/-- The key is there: another value. -/
theorem MapS.set {kb : Bool} {E : Ty} {l : List V} {k x : V} (h : MapS kb E l) (hx : Shp E x) (hh : hit k l = true) :
    MapS kb E (spl l (2 * kat k l + 1) (2 * kat k l + 1 + 1) [x]) ∧ Ent (spl l (2 * kat k l + 1) (2 * kat k l + 1 + 1) [x]) k x ∧ ∀ a b, Ent l a b → a ≠ k → Ent (spl l (2 * kat k l + 1) (2 * kat k l + 1 + 1) [x]) a b := by
  have hk := hit_some hh
  have hlt := (List.getElem?_eq_some_iff.1 hk).1
  have hev := h.ev
  generalize kat k l = q at *
  have hg := spl_get l (2 * q + 1) (2 * q + 1 + 1) [x] (by omega)
  have hkey : ∀ i, (spl l (2 * q + 1) (2 * q + 1 + 1) [x])[2 * i]? = l[2 * i]? := by
    intro i
    rw [hg]
    simp only [List.length_cons, List.length_nil]
    split
    · rfl
    · rw [if_neg (by omega)]
      congr 1
      omega
  have hval : ∀ i, i ≠ q → (spl l (2 * q + 1) (2 * q + 1 + 1) [x])[2 * i + 1]? = l[2 * i + 1]? := by
    intro i hi
    rw [hg]
    simp only [List.length_cons, List.length_nil]
    split
    · rfl
    · rw [if_neg (by omega)]
      congr 1
      omega
  have hvq : (spl l (2 * q + 1) (2 * q + 1 + 1) [x])[2 * q + 1]? = some x := by
    rw [hg, if_neg (by omega), if_pos (by simp)]
    simp
  have hlen : (spl l (2 * q + 1) (2 * q + 1 + 1) [x]).length = l.length := by unfold spl; simp; omega
  refine ⟨⟨by rw [hlen]; exact hev, by rw [hlen]; exact h.len, fun i y hy => h.key i y (by rw [← hkey]; exact hy), fun i y hy => ?_, fun i a b ha hb => h.rise i a b (by rw [← hkey]; exact ha) (by rw [show 2 * i + 2 = 2 * (i + 1) by omega] at hb ⊢; rw [← hkey]; exact hb)⟩, ⟨q, by rw [hkey]; exact hk, hvq⟩, ?_⟩
  · by_cases hi : i = q
    · subst hi
      rw [hvq] at hy
      rw [← Option.some.inj hy]; exact hx
    · exact h.val i y (by rw [← hval i hi]; exact hy)
  · rintro a b ⟨i, h1, h2⟩ hne
    have hi : i ≠ q := by rintro rfl; rw [hk] at h1; exact hne (Option.some.inj h1).symm
    exact ⟨i, by rw [hkey]; exact h1, by rw [hval i hi]; exact h2⟩
/-- The key is new. -/
theorem MapS.ins {kb : Bool} {E : Ty} {l : List V} {k x : V} (h : MapS kb E l) (hk : KeyS kb k) (hx : Shp E x) (hh : hit k l = false) (hl : l.length < 128) :
    MapS kb E (spl l (2 * kat k l) (2 * kat k l) [k, x]) ∧ Ent (spl l (2 * kat k l) (2 * kat k l) [k, x]) k x ∧ ∀ a b, Ent l a b → Ent (spl l (2 * kat k l) (2 * kat k l) [k, x]) a b := by
  have hle := kat_le k l
  have hev := h.ev
  have hlo := fun i a (ha : l[2 * i]? = some a) (hi : i < kat k l) => kat_lt_key ha hi
  have hhi : ∀ i a, l[2 * i]? = some a → kat k l ≤ i → cmpV k a < 0 := by
    intro i a ha hi
    have h1 := kat_ge_key (k := k) h.ev h.rise ha hi
    have h2 := cmpV_neg k a
    have h3 : ¬ cmpV a k = 0 := by
      intro e
      have e' := (cmpV_zero a k).1 e
      subst e'
      have := (hit_at h.rise h.ev ha).2
      rw [hh] at this; cases this
    omega
  generalize kat k l = q at *
  have hg := spl_get l (2 * q) (2 * q) [k, x] (by omega)
  have g1 : ∀ j, j < 2 * q → (spl l (2 * q) (2 * q) [k, x])[j]? = l[j]? := fun j hj => by rw [hg, if_pos hj]
  have g2 : (spl l (2 * q) (2 * q) [k, x])[2 * q]? = some k := by rw [hg, if_neg (by omega), if_pos (by simp)]; simp
  have g3 : (spl l (2 * q) (2 * q) [k, x])[2 * q + 1]? = some x := by rw [hg, if_neg (by omega), if_pos (by simp)]; simp
  have g4 : ∀ j, 2 * q ≤ j → (spl l (2 * q) (2 * q) [k, x])[j + 2]? = l[j]? := fun j hj => by
    rw [hg, if_neg (by omega), if_neg (by simp; omega)]
    congr 1
    simp; omega
  have hlen : (spl l (2 * q) (2 * q) [k, x]).length = l.length + 2 := by unfold spl; simp; omega
  -- a key, by its place
  have hkey : ∀ i y, (spl l (2 * q) (2 * q) [k, x])[2 * i]? = some y → (i < q ∧ l[2 * i]? = some y) ∨ (i = q ∧ y = k) ∨ (q < i ∧ l[2 * (i - 1)]? = some y) := by
    intro i y hy
    rcases Nat.lt_trichotomy i q with hi | hi | hi
    · exact Or.inl ⟨hi, by rw [← g1 _ (by omega)]; exact hy⟩
    · subst hi; rw [g2] at hy; exact Or.inr (Or.inl ⟨rfl, (Option.some.inj hy).symm⟩)
    · refine Or.inr (Or.inr ⟨hi, ?_⟩)
      rw [← g4 _ (by omega), show 2 * (i - 1) + 2 = 2 * i by omega]; exact hy
  refine ⟨⟨by omega, by omega, fun i y hy => ?_, fun i y hy => ?_, fun i a b ha hb => ?_⟩, ⟨q, g2, g3⟩, ?_⟩
  · rcases hkey i y hy with ⟨_, h1⟩ | ⟨_, rfl⟩ | ⟨_, h1⟩
    · exact h.key _ _ h1
    · exact hk
    · exact h.key _ _ h1
  · rcases Nat.lt_trichotomy i q with hi | hi | hi
    · exact h.val i y (by rw [← g1 _ (by omega)]; exact hy)
    · subst hi; rw [g3] at hy; rw [← Option.some.inj hy]; exact hx
    · exact h.val (i - 1) y (by rw [← g4 _ (by omega), show 2 * (i - 1) + 1 + 2 = 2 * i + 1 by omega]; exact hy)
  · rw [show 2 * i + 2 = 2 * (i + 1) by omega] at hb
    rcases hkey i a ha with ⟨i1, h1⟩ | ⟨i1, rfl⟩ | ⟨i1, h1⟩
    · rcases hkey (i + 1) b hb with ⟨j1, h2⟩ | ⟨j1, rfl⟩ | ⟨j1, h2⟩
      · exact h.rise.lt (i := i) (j := i + 1) (by omega) h1 h2
      · exact hlo i a h1 i1
      · omega
    · rcases hkey (i + 1) b hb with ⟨j1, h2⟩ | ⟨j1, e⟩ | ⟨j1, h2⟩
      · omega
      · omega
      · exact hhi _ b h2 (by omega)
    · rcases hkey (i + 1) b hb with ⟨j1, h2⟩ | ⟨j1, e⟩ | ⟨j1, h2⟩
      · omega
      · omega
      · exact h.rise.lt (i := i - 1) (j := i + 1 - 1) (by omega) h1 h2
  · rintro a b ⟨i, h1, h2⟩
    by_cases hi : i < q
    · exact ⟨i, by rw [g1 _ (by omega)]; exact h1, by rw [g1 _ (by omega)]; exact h2⟩
    · exact ⟨i + 1, by rw [show 2 * (i + 1) = 2 * i + 2 by omega, g4 _ (by omega)]; exact h1, by rw [show 2 * (i + 1) + 1 = 2 * i + 1 + 2 by omega, g4 _ (by omega)]; exact h2⟩
/-- Without the key. -/
theorem MapS.del {kb : Bool} {E : Ty} {l : List V} {k : V} (h : MapS kb E l) (hh : hit k l = true) :
    MapS kb E (spl l (2 * kat k l) (2 * kat k l + 2) []) ∧ hit k (spl l (2 * kat k l) (2 * kat k l + 2) []) = false ∧ ∀ a b, Ent l a b → a ≠ k → Ent (spl l (2 * kat k l) (2 * kat k l + 2) []) a b := by
  have hk := hit_some hh
  have hlt := (List.getElem?_eq_some_iff.1 hk).1
  have hev := h.ev
  have hne0 := h.len
  have hlo := fun i a (ha : l[2 * i]? = some a) (hi : i < kat k l) => kat_lt_key ha hi
  generalize kat k l = q at *
  have hg := spl_get l (2 * q) (2 * q + 2) [] (by omega)
  have g1 : ∀ j, j < 2 * q → (spl l (2 * q) (2 * q + 2) [])[j]? = l[j]? := fun j hj => by rw [hg, if_pos hj]
  have g2 : ∀ j, 2 * q ≤ j → (spl l (2 * q) (2 * q + 2) [])[j]? = l[j + 2]? := fun j hj => by
    rw [hg, if_neg (by omega), if_neg (by simp; omega)]
    congr 1
    simp; omega
  have hlen : (spl l (2 * q) (2 * q + 2) []).length + 2 = l.length := by unfold spl; simp; omega
  have hkey : ∀ i y, (spl l (2 * q) (2 * q + 2) [])[2 * i]? = some y → (i < q ∧ l[2 * i]? = some y) ∨ (q ≤ i ∧ l[2 * (i + 1)]? = some y) := by
    intro i y hy
    by_cases hi : i < q
    · exact Or.inl ⟨hi, by rw [← g1 _ (by omega)]; exact hy⟩
    · exact Or.inr ⟨by omega, by rw [show 2 * (i + 1) = 2 * i + 2 by omega, ← g2 _ (by omega)]; exact hy⟩
  refine ⟨⟨by omega, by omega, fun i y hy => ?_, fun i y hy => ?_, fun i a b ha hb => ?_⟩, no_hit (fun i e => ?_), ?_⟩
  · rcases hkey i y hy with ⟨_, h1⟩ | ⟨_, h1⟩
    · exact h.key _ _ h1
    · exact h.key _ _ h1
  · by_cases hi : i < q
    · exact h.val i y (by rw [← g1 _ (by omega)]; exact hy)
    · exact h.val (i + 1) y (by rw [show 2 * (i + 1) + 1 = 2 * i + 1 + 2 by omega, ← g2 _ (by omega)]; exact hy)
  · rw [show 2 * i + 2 = 2 * (i + 1) by omega] at hb
    rcases hkey i a ha with ⟨i1, h1⟩ | ⟨i1, h1⟩
    · rcases hkey (i + 1) b hb with ⟨j1, h2⟩ | ⟨j1, h2⟩
      · exact h.rise.lt (i := i) (j := i + 1) (by omega) h1 h2
      · exact h.rise.lt (i := i) (j := i + 1 + 1) (by omega) h1 h2
    · rcases hkey (i + 1) b hb with ⟨j1, h2⟩ | ⟨j1, h2⟩
      · omega
      · exact h.rise.lt (i := i + 1) (j := i + 1 + 1) (by omega) h1 h2
  · rcases hkey i k e with ⟨i1, h1⟩ | ⟨i1, h1⟩
    · have := h.rise.lt (i := i) (j := q) i1 h1 hk
      rw [cmpV_self] at this; omega
    · have := h.rise.lt (i := q) (j := i + 1) (by omega) hk h1
      rw [cmpV_self] at this; omega
  · rintro a b ⟨i, h1, h2⟩ hne
    by_cases hi : i < q
    · exact ⟨i, by rw [g1 _ (by omega)]; exact h1, by rw [g1 _ (by omega)]; exact h2⟩
    · have hiq : i ≠ q := by rintro rfl; rw [hk] at h1; exact hne (Option.some.inj h1).symm
      exact ⟨i - 1, by rw [g2 _ (by omega), show 2 * (i - 1) + 2 = 2 * i by omega]; exact h1, by rw [g2 _ (by omega), show 2 * (i - 1) + 1 + 2 = 2 * i + 1 by omega]; exact h2⟩
theorem wgV_ok {v y : V} {e : Int} (h : wgV v = (y, e)) : (e = 0 ∧ y = v ∧ wt v ≤ 16384) ∨ (e = 53 ∧ y = V.zero) := by
  unfold wgV at h
  split at h
  · rename_i h1
    simp only [Prod.mk.injEq] at h
    exact Or.inl ⟨h.2.symm, h.1.symm, h1⟩
  · simp only [Prod.mk.injEq] at h
    exact Or.inr ⟨h.2.symm, h.1.symm⟩
/-- All that the law asks of Put, At, Del and Has of a map. -/
theorem put_all {kb : Bool} {E : Ty} {v k x y : V} {e : Int} (h : Shp (.map kb E) v) (hk : KeyS kb k) (hx : Shp E x) (hp : putV v k x = (y, e)) :
    (e = 53) ∨ (e = 0 ∧ Shp (.map kb E) y ∧ wt y ≤ 16384 ∧ atV y k = (x, 0) ∧ hit k y.l = true ∧ ∀ a b, Ent v.l a b → a ≠ k → atV y a = (b, 0)) := by
  obtain ⟨h5, h6, h7, hm⟩ := shp_mapS.1 h
  have fin : ∀ (l2 : List V), MapS kb E l2 → Ent l2 k x → (∀ a b, Ent v.l a b → a ≠ k → Ent l2 a b) → wgV (.mk v.k v.n v.t l2) = (y, e) → (e = 53) ∨ (e = 0 ∧ Shp (.map kb E) y ∧ wt y ≤ 16384 ∧ atV y k = (x, 0) ∧ hit k y.l = true ∧ ∀ a b, Ent v.l a b → a ≠ k → atV y a = (b, 0)) := by
    intro l2 m1 m2 m3 hw
    rcases wgV_ok hw with ⟨e0, rfl, hwt⟩ | ⟨e53, _⟩
    · right
      have hat : ∀ a b, Ent l2 a b → atV (.mk v.k v.n v.t l2) a = (b, 0) := fun a b hab => at_ent (v := .mk v.k v.n v.t l2) h5 m1.ev m1.rise hab
      obtain ⟨i, i1, i2⟩ := m2
      exact ⟨e0, shp_mapS.2 ⟨h5, h6, h7, m1⟩, hwt, hat k x ⟨i, i1, i2⟩, (hit_at (l := l2) m1.rise m1.ev i1).2, fun a b hab hne => hat a b (m3 a b hab hne)⟩
    · exact Or.inl e53
  unfold putV at hp
  have hpl : plV v k = if hit k v.l = true then (2 * kat k v.l + 1, 0) else (0, 52) := by unfold plV; rw [if_neg (by omega), if_pos h5]
  rcases hh : hit k v.l with _ | _
  · rw [hh] at hpl
    rw [hpl] at hp
    simp only [Bool.false_eq_true, if_false] at hp
    rw [if_neg (by decide), if_neg (by omega)] at hp
    by_cases h64 : 64 ≤ v.l.length / 2
    · rw [if_pos h64] at hp
      simp only [Prod.mk.injEq] at hp
      exact Or.inl hp.2.symm
    · rw [if_neg h64] at hp
      obtain ⟨m1, m2, m3⟩ := hm.ins hk hx hh (by have := hm.ev; omega)
      exact fin _ m1 m2 (fun a b hab _ => m3 a b hab) hp
  · rw [hh] at hpl
    rw [hpl] at hp
    simp only [if_true] at hp
    obtain ⟨m1, m2, m3⟩ := hm.set hx hh
    exact fin _ m1 m2 m3 hp
theorem del_all {kb : Bool} {E : Ty} {v k z : V} {e : Int} (h : Shp (.map kb E) v) (hw : wt v ≤ 16384) (hh : hit k v.l = true) (hp : delV v k = (z, e)) :
    e = 0 ∧ Shp (.map kb E) z ∧ wt z ≤ 16384 ∧ hit k z.l = false ∧ ∀ a b, Ent v.l a b → a ≠ k → atV z a = (b, 0) := by
  obtain ⟨h5, h6, h7, hm⟩ := shp_mapS.1 h
  unfold delV at hp
  rw [if_neg (by simp [h5]), if_pos hh] at hp
  simp only [Prod.mk.injEq] at hp
  obtain ⟨rfl, rfl⟩ := hp
  obtain ⟨m1, m2, m3⟩ := hm.del hh
  refine ⟨rfl, shp_mapS.2 ⟨h5, h6, h7, m1⟩, ?_, m2, fun a b hab hne => at_ent (v := .mk v.k v.n v.t (spl v.l (2 * kat k v.l) (2 * kat k v.l + 2) [])) h5 m1.ev m1.rise (m3 a b hab hne)⟩
  have h1 := wts_take_drop v.l (f := 2 * kat k v.l) (t := 2 * kat k v.l + 2) (by omega)
  have h2 : wt v = 1 + v.t.length + wts v.l := by cases v; rw [wt]; rfl
  rw [wt_mk]
  have h3 : spl v.l (2 * kat k v.l) (2 * kat k v.l + 2) [] = v.l.take (2 * kat k v.l) ++ v.l.drop (2 * kat k v.l + 2) := by simp [spl]
  rw [h3]
  omega
theorem push_all {E : Ty} {v x y : V} {e : Int} (h : Shp (.list E) v) (hx : Shp E x) (hp : pushV v x = (y, e)) :
    (e = 53) ∨ (e = 0 ∧ Shp (.list E) y ∧ wt y ≤ 16384 ∧ y.l.length = v.l.length + 1 ∧ atV y (.mk 1 v.l.length [] []) = (x, 0)) := by
  rw [Shp] at h
  obtain ⟨h4, hn, ht, hl, hall⟩ := h
  unfold pushV at hp
  rw [if_neg (by simp [h4])] at hp
  by_cases h64 : 64 ≤ v.l.length
  · rw [if_pos h64] at hp
    simp only [Prod.mk.injEq] at hp
    exact Or.inl hp.2.symm
  · rw [if_neg h64] at hp
    rcases wgV_ok hp with ⟨e0, rfl, hwt⟩ | ⟨e53, _⟩
    · right
      refine ⟨e0, ?_, hwt, by simp [V.l], ?_⟩
      · rw [Shp]
        refine ⟨h4, hn, ht, by show (v.l ++ [x]).length ≤ 64; simp only [List.length_append, List.length_cons, List.length_nil]; omega, fun z hz => ?_⟩
        have hz' : z ∈ v.l ++ [x] := hz
        rcases List.mem_append.1 hz' with h | h
        · exact hall z h
        · rw [List.mem_singleton.1 h]; exact hx
      · have hp' : plV (.mk v.k v.n v.t (v.l ++ [x])) (.mk 1 v.l.length [] []) = (v.l.length, 0) := by
          unfold plV
          have e1 : (V.mk v.k v.n v.t (v.l ++ [x])).k = 4 := h4
          have e2 : (V.mk 1 (v.l.length : Int) [] []).k = 1 := rfl
          have e3 : (V.mk 1 (v.l.length : Int) [] []).n = v.l.length := rfl
          have e4 : (V.mk v.k v.n v.t (v.l ++ [x])).l.length = v.l.length + 1 := by simp [V.l]
          rw [if_pos ⟨e1, e2⟩, e3, e4, if_pos (by omega)]
          simp
        unfold atV
        rw [hp', if_pos rfl]
        show ((v.l ++ [x]).getD v.l.length V.zero, (0 : Int)) = (x, 0)
        simp
    · exact Or.inl e53
end Go.Proofs.Ytkbplffckkjbfaa
