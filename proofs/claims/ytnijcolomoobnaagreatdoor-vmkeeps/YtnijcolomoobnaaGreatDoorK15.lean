/- Texts of ours, joined: Nf, Ng. -/
import Derived.Test.YtnijcolomoobnaaGreatDoorK09
import Derived.Test.YtnijcolomoobnaaGreatDoorK10
import Derived.Test.YtnijcolomoobnaaGreatDoorK14
namespace Go.Proofs.YtnijcolomoobnaaGreatDoor
set_option linter.unusedVariables false
set_option linter.unusedSimpArgs false

mutual
def Sd : V → Prop
  | .mk k n t l => 1 ≤ k ∧ k ≤ 5 ∧ (k ≠ 3 → t = []) ∧ (2 < k → n = 0) ∧ (k < 4 → l = []) ∧ (k = 5 → Rise l ∧ l.length % 2 = 0 ∧ l.length ≤ 128) ∧ (k = 2 → n = 0 ∨ n = 1) ∧ (k = 3 → t.length ≤ 256) ∧ (k = 4 → l.length ≤ 64) ∧ Sds l
def Sds : List V → Prop
  | [] => True
  | v :: r => Sd v ∧ Sds r
end
theorem sds_iff : ∀ {l : List V}, Sds l ↔ ∀ v ∈ l, Sd v
  | [] => by rw [Sds]; simp
  | a :: r => by rw [Sds, sds_iff]; simp
theorem sd_iff {k n : Int} {t : List UInt8} {l : List V} : Sd (.mk k n t l) ↔ 1 ≤ k ∧ k ≤ 5 ∧ (k ≠ 3 → t = []) ∧ (2 < k → n = 0) ∧ (k < 4 → l = []) ∧ (k = 5 → Rise l ∧ l.length % 2 = 0 ∧ l.length ≤ 128) ∧ (k = 2 → n = 0 ∨ n = 1) ∧ (k = 3 → t.length ≤ 256) ∧ (k = 4 → l.length ≤ 64) ∧ ∀ v ∈ l, Sd v := by rw [Sd, sds_iff]
def Snd (v : V) : Prop := wt v ≤ 16384 ∧ Sd v
theorem wts_in {x : V} : ∀ {l : List V}, x ∈ l → wt x ≤ wts l
  | [], h => by simp at h
  | a :: r, h => by
    rw [wts]
    rcases List.mem_cons.1 h with rfl | h
    · omega
    · have := wts_in h; omega
theorem snd_el {v x : V} (h : Snd v) (hx : x ∈ v.l) : Snd x := by
  obtain ⟨k, n, t, l⟩ := v
  obtain ⟨h1, h2⟩ := h
  have hx' : x ∈ l := hx
  rw [sd_iff] at h2
  rw [wt] at h1
  exact ⟨by have := wts_in hx'; omega, h2.2.2.2.2.2.2.2.2.2 x hx'⟩
theorem snd_b (b : Bool) : Snd (bV' b) := by
  refine ⟨by simp [wt, wts], ?_⟩
  rw [sd_iff]
  refine ⟨by omega, by omega, fun _ => rfl, by omega, fun _ => rfl, by omega, fun _ => ?_, by omega, by omega, by simp⟩
  cases b <;> simp
theorem snd_n (n : Int) : Snd (nV n) := by
  refine ⟨by simp [wt, wts], ?_⟩
  rw [sd_iff]
  exact ⟨by omega, by omega, fun _ => rfl, by omega, fun _ => rfl, by omega, by omega, by omega, by omega, by simp⟩
theorem snd_t {t : List UInt8} (h : t.length ≤ 256) : Snd (tV t) := by
  refine ⟨by simp [wt, wts]; omega, ?_⟩
  rw [sd_iff]
  exact ⟨by omega, by omega, fun h => absurd rfl h, fun _ => rfl, fun _ => rfl, by omega, by omega, fun _ => h, by omega, by simp⟩
theorem snd_bin {op : Int} {a b : V} (h : (binV op a b).2 = 0) : Snd (binV op a b).1 := by
  unfold binV at h ⊢
  split
  · exact snd_b _
  rename_i c1; rw [if_neg c1] at h
  split
  · exact snd_b _
  rename_i c2; rw [if_neg c2] at h
  split
  · rename_i c; rw [if_pos c] at h; simp at h
  rename_i c3; rw [if_neg c3] at h
  split
  · exact snd_b _
  rename_i c4; rw [if_neg c4] at h
  split
  · rename_i c; rw [if_pos c] at h
    split
    · exact snd_n _
    · rename_i c; rw [if_neg c] at h; exact absurd h c
  rename_i c5; rw [if_neg c5] at h
  split
  · rename_i c; rw [if_pos c] at h
    split
    · rename_i c; exact snd_t (by simpa using c)
    · rename_i c; rw [if_neg c] at h; simp at h
  · rename_i c; rw [if_neg c] at h; simp at h
theorem snd_neg {a : V} (h : (negV a).2 = 0) : Snd (negV a).1 := by
  unfold negV at h ⊢
  split
  · rename_i c; rw [if_pos c] at h
    split
    · exact snd_n _
    · rename_i c; rw [if_neg c] at h; exact absurd h c
  · rename_i c; rw [if_neg c] at h; simp at h
theorem rise_set {l : List V} {k x : V} (hr : Rise l) (he : l.length % 2 = 0) (hh : hit k l = true) : Rise (spl l (2 * kat k l + 1) (2 * kat k l + 1 + 1) [x]) := by
  have hk := hit_some hh
  have hlt := (List.getElem?_eq_some_iff.1 hk).1
  generalize kat k l = q at *
  have hg := spl_get l (2 * q + 1) (2 * q + 1 + 1) [x] (by omega)
  have hkey : ∀ i, (spl l (2 * q + 1) (2 * q + 1 + 1) [x])[2 * i]? = l[2 * i]? := by
    intro i
    rw [hg]
    simp only [List.length_cons, List.length_nil]
    split
    · rfl
    · rw [if_neg (by omega)]
      congr 1
      omega
  exact fun i a b ha hb => hr i a b (by rw [← hkey]; exact ha) (by rw [show 2 * i + 2 = 2 * (i + 1) by omega] at hb ⊢; rw [← hkey]; exact hb)
theorem rise_ins {l : List V} {k x : V} (hr : Rise l) (hev : l.length % 2 = 0) (hh : hit k l = false) : Rise (spl l (2 * kat k l) (2 * kat k l) [k, x]) := by
  have hle := kat_le k l
  have hlo := fun i a (ha : l[2 * i]? = some a) (hi : i < kat k l) => kat_lt_key ha hi
  have hhi : ∀ i a, l[2 * i]? = some a → kat k l ≤ i → cmpV k a < 0 := by
    intro i a ha hi
    have h1 := kat_ge_key (k := k) hev hr ha hi
    have h2 := cmpV_neg k a
    have h3 : ¬ cmpV a k = 0 := by
      intro e
      have e' := (cmpV_zero a k).1 e
      subst e'
      have := (hit_at hr hev ha).2
      rw [hh] at this; cases this
    omega
  generalize kat k l = q at *
  have hg := spl_get l (2 * q) (2 * q) [k, x] (by omega)
  have g1 : ∀ j, j < 2 * q → (spl l (2 * q) (2 * q) [k, x])[j]? = l[j]? := fun j hj => by rw [hg, if_pos hj]
  have g2 : (spl l (2 * q) (2 * q) [k, x])[2 * q]? = some k := by rw [hg, if_neg (by omega), if_pos (by simp)]; simp
  have g4 : ∀ j, 2 * q ≤ j → (spl l (2 * q) (2 * q) [k, x])[j + 2]? = l[j]? := fun j hj => by
    rw [hg, if_neg (by omega), if_neg (by simp; omega)]
    congr 1
    simp; omega
  have hkey : ∀ i y, (spl l (2 * q) (2 * q) [k, x])[2 * i]? = some y → (i < q ∧ l[2 * i]? = some y) ∨ (i = q ∧ y = k) ∨ (q < i ∧ l[2 * (i - 1)]? = some y) := by
    intro i y hy
    rcases Nat.lt_trichotomy i q with hi | hi | hi
    · exact Or.inl ⟨hi, by rw [← g1 _ (by omega)]; exact hy⟩
    · subst hi; rw [g2] at hy; exact Or.inr (Or.inl ⟨rfl, (Option.some.inj hy).symm⟩)
    · refine Or.inr (Or.inr ⟨hi, ?_⟩)
      rw [← g4 _ (by omega), show 2 * (i - 1) + 2 = 2 * i by omega]; exact hy
  intro i a b ha hb
  rw [show 2 * i + 2 = 2 * (i + 1) by omega] at hb
  rcases hkey i a ha with ⟨i1, h1⟩ | ⟨i1, rfl⟩ | ⟨i1, h1⟩
  · rcases hkey (i + 1) b hb with ⟨j1, h2⟩ | ⟨j1, rfl⟩ | ⟨j1, h2⟩
    · exact hr.lt (i := i) (j := i + 1) (by omega) h1 h2
    · exact hlo i a h1 i1
    · omega
  · rcases hkey (i + 1) b hb with ⟨j1, h2⟩ | ⟨j1, e⟩ | ⟨j1, h2⟩
    · omega
    · omega
    · exact hhi _ b h2 (by omega)
  · rcases hkey (i + 1) b hb with ⟨j1, h2⟩ | ⟨j1, e⟩ | ⟨j1, h2⟩
    · omega
    · omega
    · exact hr.lt (i := i - 1) (j := i + 1 - 1) (by omega) h1 h2
theorem rise_del {l : List V} {k : V} (hr : Rise l) (hev : l.length % 2 = 0) (hh : hit k l = true) : Rise (spl l (2 * kat k l) (2 * kat k l + 2) []) := by
  have hk := hit_some hh
  have hlt := (List.getElem?_eq_some_iff.1 hk).1
  generalize kat k l = q at *
  have hg := spl_get l (2 * q) (2 * q + 2) [] (by omega)
  have g1 : ∀ j, j < 2 * q → (spl l (2 * q) (2 * q + 2) [])[j]? = l[j]? := fun j hj => by rw [hg, if_pos hj]
  have g2 : ∀ j, 2 * q ≤ j → (spl l (2 * q) (2 * q + 2) [])[j]? = l[j + 2]? := fun j hj => by
    rw [hg, if_neg (by omega), if_neg (by simp; omega)]
    congr 1
    simp; omega
  have hkey : ∀ i y, (spl l (2 * q) (2 * q + 2) [])[2 * i]? = some y → (i < q ∧ l[2 * i]? = some y) ∨ (q ≤ i ∧ l[2 * (i + 1)]? = some y) := by
    intro i y hy
    by_cases hi : i < q
    · exact Or.inl ⟨hi, by rw [← g1 _ (by omega)]; exact hy⟩
    · exact Or.inr ⟨by omega, by rw [show 2 * (i + 1) = 2 * i + 2 by omega, ← g2 _ (by omega)]; exact hy⟩
  intro i a b ha hb
  rw [show 2 * i + 2 = 2 * (i + 1) by omega] at hb
  rcases hkey i a ha with ⟨i1, h1⟩ | ⟨i1, h1⟩
  · rcases hkey (i + 1) b hb with ⟨j1, h2⟩ | ⟨j1, h2⟩
    · exact hr.lt (i := i) (j := i + 1) (by omega) h1 h2
    · exact hr.lt (i := i) (j := i + 1 + 1) (by omega) h1 h2
  · rcases hkey (i + 1) b hb with ⟨j1, h2⟩ | ⟨j1, h2⟩
    · omega
    · exact hr.lt (i := i + 1) (j := i + 1 + 1) (by omega) h1 h2
theorem spl_mem {l xs : List V} {f t : Nat} {x : V} (h : x ∈ spl l f t xs) : x ∈ l ∨ x ∈ xs := by
  unfold spl at h
  rcases List.mem_append.1 h with h | h
  · rcases List.mem_append.1 h with h | h
    · exact Or.inl (List.mem_of_mem_take h)
    · exact Or.inr h
  · exact Or.inl (List.mem_of_mem_drop h)
theorem spl_len {l xs : List V} {f t : Nat} (hf : f ≤ l.length) (ht : t ≤ l.length) : (spl l f t xs).length = f + xs.length + (l.length - t) := by
  unfold spl
  simp
  omega
theorem snd_at {v k : V} (hv : Snd v) (h : (atV v k).2 = 0) : Snd (atV v k).1 := by
  have hp : (plV v k).2 = 0 := by
    unfold atV at h
    split at h
    · assumption
    · rename_i c; exact absurd h c
  unfold atV
  rw [if_pos hp]
  have ht : Tidy v := by
    obtain ⟨vk, n, t, l⟩ := v
    have := sd_iff.1 hv.2
    exact fun h5 => ⟨(this.2.2.2.2.2.1 h5).2.1, (this.2.2.2.2.2.1 h5).1⟩
  have hlt := plV_lt ht hp
  show Snd (v.l.getD (plV v k).1 V.zero)
  rw [List.getD_eq_getElem?_getD, List.getElem?_eq_getElem hlt]
  exact snd_el hv (List.getElem_mem hlt)
theorem snd_push {v x : V} (hv : Snd v) (hx : Snd x) (h : (pushV v x).2 = 0) : Snd (pushV v x).1 := by
  unfold pushV at h ⊢
  split
  · rename_i c; rw [if_pos c] at h; simp at h
  rename_i c1; rw [if_neg c1] at h
  split
  · rename_i c; rw [if_pos c] at h; simp at h
  rename_i c2; rw [if_neg c2] at h
  unfold wgV at h ⊢
  split
  · rename_i c
    refine ⟨c, ?_⟩
    obtain ⟨k, n, t, l⟩ := v
    have hs := sd_iff.1 hv.2
    have hk : k = 4 := Classical.not_not.1 c1
    have hl : ¬ 64 ≤ l.length := c2
    show Sd (.mk k n t (l ++ [x]))
    rw [sd_iff]
    refine ⟨hs.1, hs.2.1, hs.2.2.1, hs.2.2.2.1, by omega, by omega, hs.2.2.2.2.2.2.1, hs.2.2.2.2.2.2.2.1, fun _ => by simp; omega, fun y hy => ?_⟩
    rcases List.mem_append.1 hy with hy | hy
    · exact hs.2.2.2.2.2.2.2.2.2 y hy
    · simp at hy; subst hy; exact hx.2
  · rename_i c; rw [if_neg c] at h; simp at h
theorem snd_put {v k x : V} (hv : Snd v) (hk : Snd k) (hx : Snd x) (h : (putV v k x).2 = 0) : Snd (putV v k x).1 := by
  obtain ⟨vk, n, t, l⟩ := v
  have hs := sd_iff.1 hv.2
  have ht : Tidy (.mk vk n t l) := fun h5 => ⟨(hs.2.2.2.2.2.1 h5).2.1, (hs.2.2.2.2.2.1 h5).1⟩
  unfold putV at h ⊢
  by_cases hp : (plV (.mk vk n t l) k).2 = 0
  · rw [if_pos hp] at h ⊢
    have hlt : (plV (.mk vk n t l) k).1 < l.length := plV_lt ht hp
    unfold wgV at h ⊢
    split
    · rename_i c
      refine ⟨c, ?_⟩
      show Sd (.mk vk n t (spl l (plV (.mk vk n t l) k).1 ((plV (.mk vk n t l) k).1 + 1) [x]))
      have hlen : (spl l (plV (.mk vk n t l) k).1 ((plV (.mk vk n t l) k).1 + 1) [x]).length = l.length := by
        rw [spl_len (by omega) (by omega)]
        simp
        omega
      rw [sd_iff]
      refine ⟨hs.1, hs.2.1, hs.2.2.1, hs.2.2.2.1, fun h4 => ?_, fun h5 => ?_, hs.2.2.2.2.2.2.1, hs.2.2.2.2.2.2.2.1, fun h4 => by rw [hlen]; exact hs.2.2.2.2.2.2.2.2.1 h4, fun y hy => ?_⟩
      · have := hs.2.2.2.2.1 h4
        rw [this] at hlt; simp at hlt
      · obtain ⟨r1, r2, r3⟩ := hs.2.2.2.2.2.1 h5
        refine ⟨?_, by rw [hlen]; exact r2, by rw [hlen]; exact r3⟩
        have hpe : (plV (.mk vk n t l) k).1 = 2 * kat k l + 1 ∧ hit k l = true := by
          unfold plV at hp ⊢
          have c4 : ¬ ((V.mk vk n t l).k = 4 ∧ k.k = 1) := by rintro ⟨h4, -⟩; have : vk = 4 := h4; omega
          rw [if_neg c4] at hp ⊢
          have c5 : (V.mk vk n t l).k = 5 := h5
          rw [if_pos c5] at hp ⊢
          by_cases ch : hit k (V.mk vk n t l).l = true
          · rw [if_pos ch]; exact ⟨rfl, ch⟩
          · rw [if_neg ch] at hp; simp at hp
        rw [hpe.1]
        exact rise_set r1 r2 hpe.2
      · rcases spl_mem hy with hy | hy
        · exact hs.2.2.2.2.2.2.2.2.2 y hy
        · simp at hy; subst hy; exact hx.2
    · rename_i c; rw [if_neg c] at h; simp at h
  · rw [if_neg hp] at h ⊢
    split
    · rename_i c; rw [if_pos c] at h; exact absurd h hp
    rename_i c1; rw [if_neg c1] at h
    split
    · rename_i c; rw [if_pos c] at h; simp at h
    rename_i c2; rw [if_neg c2] at h
    have h5 : vk = 5 := Classical.not_not.1 c1
    obtain ⟨r1, r2, r3⟩ := hs.2.2.2.2.2.1 h5
    have hnh : hit k l = false := by
      cases e : hit k l with
      | false => rfl
      | true =>
        exfalso
        apply hp
        unfold plV
        have c4 : ¬ ((V.mk vk n t l).k = 4 ∧ k.k = 1) := by rintro ⟨h4, -⟩; have : vk = 4 := h4; omega
        rw [if_neg c4, if_pos (show (V.mk vk n t l).k = 5 from h5), if_pos (show hit k (V.mk vk n t l).l = true from e)]
    unfold wgV at h ⊢
    split
    · rename_i c
      refine ⟨c, ?_⟩
      show Sd (.mk vk n t (spl l (2 * kat k l) (2 * kat k l) [k, x]))
      have hle := kat_le k l
      have hlen : (spl l (2 * kat k l) (2 * kat k l) [k, x]).length = l.length + 2 := by
        rw [spl_len (by omega) (by omega)]
        simp
        omega
      have hl64 : ¬ 64 ≤ l.length / 2 := c2
      rw [sd_iff]
      refine ⟨hs.1, hs.2.1, hs.2.2.1, hs.2.2.2.1, by omega, fun _ => ⟨rise_ins r1 r2 hnh, by rw [hlen]; omega, by rw [hlen]; omega⟩, by omega, by omega, by omega, fun y hy => ?_⟩
      rcases spl_mem hy with hy | hy
      · exact hs.2.2.2.2.2.2.2.2.2 y hy
      · simp at hy
        rcases hy with rfl | rfl
        · exact hk.2
        · exact hx.2
    · rename_i c; rw [if_neg c] at h; simp at h
theorem snd_del {v k : V} (hv : Snd v) (h : (delV v k).2 = 0) : Snd (delV v k).1 := by
  obtain ⟨vk, n, t, l⟩ := v
  have hs := sd_iff.1 hv.2
  unfold delV at h ⊢
  split
  · rename_i c; rw [if_pos c] at h; simp at h
  rename_i c1
  have h5 : vk = 5 := Classical.not_not.1 c1
  obtain ⟨r1, r2, r3⟩ := hs.2.2.2.2.2.1 h5
  split
  · rename_i hh
    have hh' : hit k l = true := hh
    have hlt := (List.getElem?_eq_some_iff.1 (hit_some hh')).1
    have hlen : (spl l (2 * kat k l) (2 * kat k l + 2) []).length = l.length - 2 := by
      rw [spl_len (by omega) (by omega)]
      simp
      omega
    refine ⟨?_, ?_⟩
    · have h1 := hv.1
      rw [wt] at h1
      show wt (.mk vk n t (spl l (2 * kat k l) (2 * kat k l + 2) [])) ≤ 16384
      rw [wt]
      have h2 : wts (spl l (2 * kat k l) (2 * kat k l + 2) []) ≤ wts l := by
        unfold spl
        rw [wts_append, wts_append]
        have h3 := wts_append (l.take (2 * kat k l)) (l.drop (2 * kat k l))
        rw [List.take_append_drop] at h3
        have h4 : wts (l.drop (2 * kat k l + 2)) ≤ wts (l.drop (2 * kat k l)) := by
          have := wts_drop_le (l.drop (2 * kat k l)) 2
          rw [List.drop_drop] at this
          exact this
        simp only [wts]
        omega
      omega
    · show Sd (.mk vk n t (spl l (2 * kat k l) (2 * kat k l + 2) []))
      rw [sd_iff]
      refine ⟨hs.1, hs.2.1, hs.2.2.1, hs.2.2.2.1, by omega, fun _ => ⟨rise_del r1 r2 hh', by rw [hlen]; omega, by rw [hlen]; omega⟩, by omega, by omega, by omega, fun y hy => ?_⟩
      rcases spl_mem hy with hy | hy
      · exact hs.2.2.2.2.2.2.2.2.2 y hy
      · simp at hy
  · exact hv
end Go.Proofs.YtnijcolomoobnaaGreatDoor
namespace Go.Proofs.YtnijcolomoobnaaGreatDoor
set_option linter.unusedVariables false
set_option linter.unusedSimpArgs false

def Snds (l : List V) : Prop := ∀ x ∈ l, Snd x
theorem Snds.get {l : List V} (h : Snds l) {j : Nat} (hj : j < l.length) : Snd (l.getD j zV) := by
  rw [List.getD_eq_getElem?_getD, List.getElem?_eq_getElem hj]
  exact h _ (List.getElem_mem hj)
theorem Snds.app {a b : List V} (ha : Snds a) (hb : Snds b) : Snds (a ++ b) := fun x hx => by
  rcases List.mem_append.1 hx with hx | hx
  · exact ha x hx
  · exact hb x hx
theorem Snds.one {x : V} (h : Snd x) : Snds [x] := fun y hy => by simp at hy; subst hy; exact h
theorem Snds.set {l : List V} (h : Snds l) {x : V} (hx : Snd x) (j : Nat) : Snds (l.set j x) := fun y hy => by
  rcases List.mem_or_eq_of_mem_set hy with hy | rfl
  · exact h y hy
  · exact hx
theorem Snds.take {l : List V} (h : Snds l) (j : Nat) : Snds (l.take j) := fun y hy => h y (List.mem_of_mem_take hy)
theorem Snds.drop {l : List V} (h : Snds l) (j : Nat) : Snds (l.drop j) := fun y hy => h y (List.mem_of_mem_drop hy)
theorem opV_snd {it : Int → List UInt8} (hit : ∀ n, (it n).length ≤ 256) {fs : List Fu} {i : In} {v : List V} (hv : Snds v) (h12 : 12 ≤ i.op) (h21 : i.op ≤ 21) (hn : (v.length : Int) = popN fs i) (h : (opV it i v).2 = 0) : Snd (opV it i v).1 := by
  have hc : i.op = 12 ∨ i.op = 13 ∨ i.op = 14 ∨ i.op = 15 ∨ i.op = 16 ∨ i.op = 17 ∨ i.op = 18 ∨ i.op = 19 ∨ i.op = 20 ∨ i.op = 21 := by omega
  have hpop : (i.op = 20 → v.length = 3) ∧ (i.op = 12 ∨ i.op = 17 ∨ i.op = 18 ∨ i.op = 19 ∨ i.op = 21 → v.length = 2) ∧ (i.op = 13 ∨ i.op = 14 ∨ i.op = 15 ∨ i.op = 16 → v.length = 1) := by
    unfold popN pop1 pop2 at hn
    refine ⟨fun e => ?_, fun e => ?_, fun e => ?_⟩
    · rw [e] at hn; simp at hn; omega
    · rcases e with e | e | e | e | e <;> rw [e] at hn <;> simp at hn <;> omega
    · rcases e with e | e | e | e <;> rw [e] at hn <;> simp at hn <;> omega
  unfold opV at h ⊢
  rcases hc with e | e | e | e | e | e | e | e | e | e
  · simp only [e, if_pos] at h ⊢; exact snd_bin h
  · simp only [e] at h ⊢; simp at h ⊢; exact snd_neg h
  · simp only [e] at h ⊢; simp at h ⊢; exact snd_b _
  · simp only [e] at h ⊢; simp at h ⊢; exact snd_n _
  · simp only [e] at h ⊢; simp at h ⊢
    split
    · exact snd_t (hit _)
    · rename_i c; rw [if_neg c] at h; simp at h
  · simp only [e] at h ⊢; simp at h ⊢; exact snd_b _
  · have h0 := hv.get (j := 0) (by have := hpop.2.1 (by omega); omega)
    simp only [e] at h ⊢; simp only [List.getD_eq_getElem?_getD] at h h0 ⊢; simp at h ⊢; exact snd_at h0 h
  · have h0 := hv.get (j := 0) (by have := hpop.2.1 (by omega); omega)
    have h1 := hv.get (j := 1) (by have := hpop.2.1 (by omega); omega)
    simp only [e] at h ⊢; simp only [List.getD_eq_getElem?_getD] at h h0 h1 ⊢; simp at h ⊢; exact snd_push h0 h1 h
  · have h0 := hv.get (j := 0) (by have := hpop.1 (by omega); omega)
    have h1 := hv.get (j := 1) (by have := hpop.1 (by omega); omega)
    have h2 := hv.get (j := 2) (by have := hpop.1 (by omega); omega)
    simp only [e] at h ⊢; simp only [List.getD_eq_getElem?_getD] at h h0 h1 h2 ⊢; simp at h ⊢; exact snd_put h0 h1 h2 h
  · have h0 := hv.get (j := 0) (by have := hpop.2.1 (by omega); omega)
    simp only [e] at h ⊢; simp only [List.getD_eq_getElem?_getD] at h h0 ⊢; simp at h ⊢; exact snd_del h0 h
def NxOk (m : Md) (states : Int) (f : Fu) : Nx → Prop
  | .done o => o.trap = 0 → Snd o.val ∧ Snds o.sts ∧ (o.sts.length : Int) = states
  | .go p loc stk sts fl => Snds loc ∧ (loc.length : Int) = f.locals ∧ Snds stk ∧ Snds sts ∧ (sts.length : Int) = states
  | .call k lk s fl => ∃ f', m.funcs[k]? = some f' ∧ Snds lk ∧ (lk.length : Int) = f'.locals ∧ Snds s
  | .bad => True
theorem vmI_snd {it : Int → List UInt8} (hit : ∀ n, (it n).length ≤ 256) {m : Md} {states : Int} (hr : Run m states) (hcon : Snds m.consts) {n : Nat} {f : Fu} (hf : m.funcs[n]? = some f) {i : In} (hi : i ∈ f.code) {p : Nat} {loc s v sts : List V} {fl : Int} (hl : Snds loc) (hll : (loc.length : Int) = f.locals) (hs : Snds s) (hv : Snds v) (hvl : (v.length : Int) = popN m.funcs i) (hst : Snds sts) (hsl : (sts.length : Int) = states) : NxOk m states f (vmI it m i p loc s v sts fl) := by
  have hio := (hr.fun_ n f hf).ins i hi
  obtain ⟨q1, q2, q3, q4⟩ := inOk_iff.1 hio
  have hlow : i.op ≠ 12 → 0 ≤ i.a := fun h => by
    unfold inLow at q3
    rw [if_neg (by simpa using h)] at q3
    exact q3
  have hv1 : i.op = 3 ∨ i.op = 5 ∨ i.op = 10 → v.length = 1 := fun e => by
    unfold popN pop1 at hvl
    rcases e with e | e | e <;> rw [e] at hvl <;> simp at hvl <;> omega
  unfold vmI
  by_cases c1 : i.op = 1
  · simp only [if_pos c1]
    have ha := hlow (by omega)
    unfold inTop at q4
    rw [c1] at q4
    simp at q4
    exact ⟨hl, hll, hs.app (Snds.one (hcon.get (by omega))), hst, hsl⟩
  simp only [if_neg c1]
  by_cases c2 : i.op = 2
  · simp only [if_pos c2]
    have ha := hlow (by omega)
    unfold inTop at q4
    rw [c2] at q4
    simp at q4
    exact ⟨hl, hll, hs.app (Snds.one (hl.get (by omega))), hst, hsl⟩
  simp only [if_neg c2]
  by_cases c3 : i.op = 3
  · simp only [if_pos c3]
    exact ⟨hl.set (hv.get (by have := hv1 (by omega); omega)) _, by rw [List.length_set]; exact hll, hs, hst, hsl⟩
  simp only [if_neg c3]
  by_cases c4 : i.op = 4
  · simp only [if_pos c4]
    have ha := hlow (by omega)
    unfold inTop at q4
    rw [c4] at q4
    simp at q4
    exact ⟨hl, hll, hs.app (Snds.one (hst.get (by omega))), hst, hsl⟩
  simp only [if_neg c4]
  by_cases c5 : i.op = 5
  · simp only [if_pos c5]
    exact ⟨hl, hll, hs, hst.set (hv.get (by have := hv1 (by omega); omega)) _, by rw [List.length_set]; exact hsl⟩
  simp only [if_neg c5]
  by_cases c6 : i.op = 6
  · simp only [if_pos c6]
    exact ⟨hl, hll, hs, hst, hsl⟩
  simp only [if_neg c6]
  by_cases c7 : i.op = 8 ∧ (v.getD 0 zV).k ≠ 2
  · simp only [if_pos c7]
    intro h; cases h
  simp only [if_neg c7]
  by_cases c8 : i.op = 7 ∨ (i.op = 8 ∧ (v.getD 0 zV).n = 0)
  · simp only [if_pos c8]
    by_cases ca : i.a ≤ p
    · simp only [if_pos ca]
      by_cases cf : fl < 1
      · simp only [if_pos cf]
        intro h; cases h
      · simp only [if_neg cf]
        exact ⟨hl, hll, hs, hst, hsl⟩
    · simp only [if_neg ca]
      exact ⟨hl, hll, hs, hst, hsl⟩
  simp only [if_neg c8]
  by_cases c9 : i.op = 8
  · simp only [if_pos c9]
    exact ⟨hl, hll, hs, hst, hsl⟩
  simp only [if_neg c9]
  by_cases c10 : i.op = 9
  · simp only [if_pos c10]
    by_cases cf : fl < 1
    · simp only [if_pos cf]
      intro h; cases h
    · simp only [if_neg cf]
      rcases hf' : m.funcs[i.a.toNat]? with _ | f'
      · trivial
      · have hnum := (hr.fun_ _ f' hf').num
        unfold NumOk at hnum
        have hvp : (v.length : Int) = f'.params := by
          rw [hvl]
          unfold popN pop1 pop2
          rw [c10]
          simp [hf']
        refine ⟨f', hf', ?_, ?_, hs⟩
        · unfold loc0
          refine hv.app (fun x hx => ?_)
          rw [(List.mem_replicate.1 hx).2]
          exact snd_n 0
        · unfold loc0
          rw [List.length_append, List.length_replicate]
          omega
  simp only [if_neg c10]
  by_cases c11 : i.op = 10
  · simp only [if_pos c11]
    exact fun _ => ⟨hv.get (by have := hv1 (by omega); omega), hst, hsl⟩
  simp only [if_neg c11]
  by_cases c12 : i.op = 11
  · simp only [if_pos c12]
    by_cases cf : fl < i.a
    · simp only [if_pos cf]
      intro h; cases h
    · simp only [if_neg cf]
      exact ⟨hl, hll, hs, hst, hsl⟩
  simp only [if_neg c12]
  by_cases c13 : (opV it i v).2 ≠ 0
  · simp only [if_pos c13]
    exact fun h => absurd h c13
  · simp only [if_neg c13]
    exact ⟨hl, hll, hs.app (Snds.one (opV_snd hit hv (by omega) q2 hvl (Classical.not_not.1 c13))), hst, hsl⟩
theorem vm_snd {it : Int → List UInt8} (hit : ∀ n, (it n).length ≤ 256) {m : Md} {states : Int} (hr : Run m states) (hcon : Snds m.consts) : ∀ (g : Nat) {n : Nat} {f : Fu} {H : Nat → Option Int} {p : Nat} {loc stk sts : List V} {fl : Int} {o : VOut}, m.funcs[n]? = some f → Lab m.funcs f H → H p = some (stk.length : Int) → 0 ≤ fl → Snds loc → (loc.length : Int) = f.locals → Snds stk → Snds sts → (sts.length : Int) = states → vmRun it m g n p loc stk sts fl = some o → o.trap = 0 → Snd o.val ∧ Snds o.sts ∧ (o.sts.length : Int) = states
  | 0, n, f, H, p, loc, stk, sts, fl, o, hf, hH, hp, h0, hl, hll, hs, hst, hsl, h, ht => by rw [vmRun] at h; cases h
  | g + 1, n, f, H, p, loc, stk, sts, fl, o, hf, hH, hp, h0, hl, hll, hs, hst, hsl, h, ht => by
    have hw : ∀ f ∈ m.funcs, ∀ i ∈ f.code, InW i := fun f hf i hi => by
      obtain ⟨k, hk⟩ := List.mem_iff_getElem?.1 hf
      exact ((hr.fun_ k f hk).ins i hi).w
    rw [vmRun] at h
    obtain ⟨i, hc, a1, a2, a3⟩ := hH.step p _ hp
    have him := List.mem_of_getElem? hc
    have hiw := hw f (List.mem_of_getElem? hf) i him
    have hpop : 0 ≤ popN m.funcs i := by
      unfold popN
      split
      · omega
      split
      · omega
      split
      · omega
      split
      · rename_i h9
        rcases hg : m.funcs[i.a.toNat]? with _ | f'
        · simp
        · have := (hr.fun_ _ f' hg).num
          unfold NumOk at this
          simpa using this.1
      · omega
    have hb : (m.funcs[n]?).bind (fun f => f.code[p]?) = some i := by rw [hf]; exact hc
    have hN : vmN it m n p loc stk sts fl = vmI it m i p loc (stk.take (stk.length - (popN m.funcs i).toNat)) (stk.drop (stk.length - (popN m.funcs i).toNat)) sts fl := by unfold vmN; rw [hb]
    have hsl2 : ((stk.take (stk.length - (popN m.funcs i).toNat)).length : Int) = stk.length - popN m.funcs i := by
      rw [List.length_take]
      omega
    have hvl : ((stk.drop (stk.length - (popN m.funcs i).toNat)).length : Int) = popN m.funcs i := by
      rw [List.length_drop]
      omega
    have hok := vmI_snd (p := p) (fl := fl) hit hr hcon hf him hl hll (hs.take (stk.length - (popN m.funcs i).toNat)) (hs.drop (stk.length - (popN m.funcs i).toNat)) hvl hst hsl
    rw [hN] at h
    rcases hx : vmI it m i p loc (stk.take (stk.length - (popN m.funcs i).toNat)) (stk.drop (stk.length - (popN m.funcs i).toNat)) sts fl with o' | ⟨p', loc', stk', sts', fl'⟩ | ⟨q, lk, s, fl'⟩ | _
    all_goals rw [hx] at h hok
    · have e : o' = o := Option.some.inj h
      subst e
      exact hok ht
    · obtain ⟨b1, b2, b3, b4, b5⟩ := vmI_go hiw h0 hx
      obtain ⟨d1, d2, d3, d4, d5⟩ := hok
      have hH' : H p' = some (stk'.length : Int) := by
        rw [a3 p' b1, b2, hsl2]
        rfl
      exact vm_snd hit hr hcon g hf hH hH' b4 d1 d2 d3 d4 d5 h ht
    · obtain ⟨b1, b2, b3, b4, b5, f', b6, b7⟩ := vmI_call hx
      obtain ⟨f2, d1, d2, d3, d4⟩ := hok
      rw [b6] at d1
      have e2 : f' = f2 := Option.some.inj d1
      subst e2
      have h' : (match vmRun it m g q 0 lk [] sts fl' with
        | none => none
        | some o => if o.trap ≠ 0 then some o else vmRun it m g n (p + 1) loc (s ++ [o.val]) o.sts o.fuel) = some o := h
      rcases ho : vmRun it m g q 0 lk [] sts fl' with _ | o'
      · rw [ho] at h'; cases h'
      rw [ho] at h'
      have h6 : (if o'.trap ≠ 0 then some o' else vmRun it m g n (p + 1) loc (s ++ [o'.val]) o'.sts o'.fuel) = some o := h'
      by_cases c : o'.trap ≠ 0
      · rw [if_pos c] at h6
        have e : o' = o := Option.some.inj h6
        subst e
        exact absurd ht c
      · rw [if_neg c] at h6
        obtain ⟨H', hH'⟩ := (hr.fun_ q f' b6).walk
        obtain ⟨s1, s2, s3⟩ := vm_snd hit hr hcon g b6 hH' hH'.zero b5 d2 d3 (fun x hx => by simp at hx) hst hsl ho (Classical.not_not.1 c)
        obtain ⟨c1, c2, -⟩ := vm_fuel hw g b5 ho
        have hnx : p + 1 ∈ nxt p i := by
          unfold nxt
          rw [if_neg (show ¬ (i.op = 7 ∨ i.op = 10) by omega)]
          simp
        have hps : psh i.op = 1 := by rw [b1]; simp [psh, pshB]
        have hH2 : H (p + 1) = some ((s ++ [o'.val]).length : Int) := by
          rw [a3 _ hnx, b3, List.length_append]
          unfold hgt
          rw [hps]
          simp only [List.length_singleton]
          congr 1
          omega
        exact vm_snd hit hr hcon g hf hH hH2 c1 hl hll (d4.app (Snds.one s1)) s2 s3 h6 ht
    · cases h
end Go.Proofs.YtnijcolomoobnaaGreatDoor
