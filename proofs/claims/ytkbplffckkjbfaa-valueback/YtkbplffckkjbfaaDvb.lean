/- What is read is what was written. Plain mathematics. -/
import Derived.Test.YtkbplffckkjbfaaDvm
import Derived.Test.YtkbplffckkjbfaaVen
namespace Go.Proofs.Ytkbplffckkjbfaa
set_option linter.unusedVariables false
set_option linter.unusedSimpArgs false

theorem okVs_mem : ∀ {l : List V} {x : V}, OkVs l → x ∈ l → OkV x
  | [], x, _, h => by cases h
  | y :: r, x, h, hx => by
    rw [OkVs] at h
    rcases List.mem_cons.1 hx with rfl | hx
    · exact h.1
    · exact okVs_mem h.2 hx
theorem rdN_num {n : Nat} (h : n ≤ 9223372036854775807) (r : List UInt8) : rdN (some (num n ++ r)) = (n, some r) := by
  have h1 := num_len10 h
  rw [rdN, tk_num h]
  simp only
  rw [if_neg (by omega), List.drop_left]
theorem rdU_num {lim n : Nat} (hl : lim ≤ 1000) (h : n ≤ lim) (r : List UInt8) : rdU lim (some (num n ++ r)) = (n, some r) := by
  unfold rdU
  rw [rdN_num (by omega)]
  simp only
  rw [if_neg (by omega)]
theorem rdI_num {n : Int} (h : InR n) (r : List UInt8) : rdI (some ((if n < 0 then num 1 ++ num (-(n + 1)).toNat else num 0 ++ num n.toNat) ++ r)) = (n, some r) := by
  obtain ⟨h1, h2⟩ := h
  unfold rdI
  by_cases h0 : n < 0
  · rw [if_pos h0, List.append_assoc, rdU_num (by omega) (Nat.le_refl _)]
    simp only
    rw [rdN_num (by omega)]
    simp only [if_true, Prod.mk.injEq, and_true]
    omega
  · rw [if_neg h0, List.append_assoc, rdU_num (by omega) (Nat.zero_le _)]
    simp only
    rw [rdN_num (by omega)]
    simp only [Prod.mk.injEq, and_true]
    rw [if_neg (by omega)]
    omega
theorem rdB_app (t r : List UInt8) : rdB t.length (some (t ++ r)) = (t, some r) := by
  simp only [rdB]
  rw [if_neg (by simp; omega)]
  simp
theorem rdLs_enc {f : RSt → V × RSt} : ∀ (l : List V) (r : List UInt8), (∀ x ∈ l, ∀ r, f (some (enc x ++ r)) = (x, some r)) → rdLs f l.length (some (encs l ++ r)) = (l, some r)
  | [], r, _ => by simp [rdLs, encs]
  | x :: l, r, h => by
    rw [List.length_cons, rdLs, encs, List.append_assoc, h x (List.mem_cons_self ..)]
    simp only
    rw [rdLs_enc l r (fun y hy => h y (List.mem_cons_of_mem _ hy))]
theorem rdMs_enc {f g : RSt → V × RSt} : ∀ (n : Nat) (l : List V) (r : List UInt8), l.length = 2 * n → (∀ i x, l[2 * i]? = some x → ∀ r, f (some (enc x ++ r)) = (x, some r)) → (∀ i x, l[2 * i + 1]? = some x → ∀ r, g (some (enc x ++ r)) = (x, some r)) → rdMs f g n (some (encs l ++ r)) = (l, some r)
  | 0, l, r, h, _, _ => by
    obtain rfl := List.length_eq_zero_iff.1 (by omega : l.length = 0)
    simp [rdMs, encs]
  | n + 1, [], r, h, _, _ => by simp at h
  | n + 1, [x], r, h, _, _ => by simp at h; omega
  | n + 1, x :: y :: l, r, h, hf, hg => by
    have ih := rdMs_enc (f := f) (g := g) n l r (by simp at h; omega) (fun i z hz => hf (i + 1) z (by rw [show 2 * (i + 1) = 2 * i + 1 + 1 by omega]; simpa using hz)) (fun i z hz => hg (i + 1) z (by rw [show 2 * (i + 1) + 1 = (2 * i + 1) + 1 + 1 by omega]; simpa using hz))
    rw [rdMs, encs, encs, List.append_assoc, hf 0 x (by simp)]
    simp only
    rw [List.append_assoc, hg 0 y (by simp)]
    simp only
    rw [ih]
/-- A value's bytes are read as it. -/
theorem rdV_enc : ∀ (T : Ty) (v : V) (r : List UInt8), Shp T v → OkV v → rdV T (some (enc v ++ r)) = (v, some r)
  | .int, .mk k n t l, r, h, ho => by
    rw [Shp] at h
    rw [OkV] at ho
    obtain ⟨h1, h2, h3⟩ := h
    simp only [V.k, V.t, V.l] at h1 h2 h3
    subst h1 h2 h3
    show rdInt _ = _
    unfold rdInt
    rw [enc, if_pos rfl, encs, List.append_nil, rdI_num ho.1]
  | .bool, .mk k n t l, r, h, ho => by
    rw [Shp] at h
    obtain ⟨h1, h2, h3, h4⟩ := h
    simp only [V.k, V.t, V.l, V.n] at h1 h2 h3 h4
    subst h1 h2 h3
    show (V.mk 2 (rdU 1 _).1 [] [], (rdU 1 _).2) = _
    rw [enc, if_neg (by decide), if_pos rfl, encs, List.append_nil, rdU_num (by omega) (by omega)]
    simp only [Prod.mk.injEq, and_true, V.mk.injEq, true_and]
    omega
  | .text, .mk k n t l, r, h, ho => by
    rw [Shp] at h
    obtain ⟨h1, h2, h3, h4⟩ := h
    simp only [V.k, V.t, V.l, V.n] at h1 h2 h3 h4
    subst h1 h2 h3
    show rdText _ = _
    unfold rdText
    rw [enc, if_neg (by decide), if_neg (by decide), if_pos rfl, encs, List.append_nil, List.append_assoc, rdU_num (by omega) h4]
    simp only
    rw [rdB_app]
  | .list E, .mk k n t l, r, h, ho => by
    rw [Shp] at h
    rw [OkV] at ho
    obtain ⟨h1, h2, h3, h4, h5⟩ := h
    simp only [V.k, V.t, V.l, V.n] at h1 h2 h3 h4 h5
    subst h1 h2 h3
    show (V.mk 4 0 [] (rdLs (rdV E) (rdU 64 _).1 (rdU 64 _).2).1, (rdLs (rdV E) (rdU 64 _).1 (rdU 64 _).2).2) = _
    rw [enc, if_neg (by decide), if_neg (by decide), if_neg (by decide), if_pos rfl, List.append_assoc, rdU_num (by omega) h4]
    simp only
    rw [rdLs_enc l r (fun x hx r => rdV_enc E x r (h5 x hx) (okVs_mem (by exact ho.2.2.2.2) hx))]
  | .map kb E, .mk k n t l, r, h, ho => by
    rw [Shp] at h
    rw [OkV] at ho
    obtain ⟨h1, h2, h3, h4, h5, h6, h7, h8⟩ := h
    simp only [V.k, V.t, V.l, V.n] at h1 h2 h3 h4 h5 h6 h7
    subst h1 h2 h3
    have hok : OkVs l := by exact ho.2.2.2.2
    show (V.mk 5 0 [] (rdMs (rdK kb) (rdV E) (rdU 64 _).1 (rdU 64 _).2).1, (rdMs (rdK kb) (rdV E) (rdU 64 _).1 (rdU 64 _).2).2) = _
    rw [enc, if_neg (by decide), if_neg (by decide), if_neg (by decide), if_neg (by decide), if_pos rfl, List.append_assoc, rdU_num (by omega) (by omega)]
    simp only
    have hkey : ∀ x, KeyS kb x → OkV x → ∀ r, rdK kb (some (enc x ++ r)) = (x, some r) := by
      intro x hx hox r
      obtain ⟨k, n, t, l⟩ := x
      rw [OkV] at hox
      cases kb
      · rw [KeyS] at hx
        obtain ⟨h1, h2, h3, h4⟩ := hx
        simp only [V.k, V.t, V.l, V.n] at h1 h2 h3 h4
        subst h1 h2 h3
        show rdText _ = _
        unfold rdText
        rw [enc, if_neg (by decide), if_neg (by decide), if_pos rfl, encs, List.append_nil, List.append_assoc, rdU_num (by omega) h4]
        simp only
        rw [rdB_app]
      · rw [KeyS] at hx
        obtain ⟨h1, h2, h3⟩ := hx
        simp only [V.k, V.t, V.l] at h1 h2 h3
        subst h1 h2 h3
        show rdInt _ = _
        unfold rdInt
        rw [enc, if_pos rfl, encs, List.append_nil, rdI_num hox.1]
    rw [rdMs_enc (l.length / 2) l r (by omega) (fun i x hx r => hkey x (h6 i x hx) (okVs_mem hok (List.mem_of_getElem? hx)) r) (fun i x hx r => rdV_enc E x r (h7 i x hx) (okVs_mem hok (List.mem_of_getElem? hx)))]
end Go.Proofs.Ytkbplffckkjbfaa
