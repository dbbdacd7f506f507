/- What is read is what was written. Plain mathematics. -/
import Derived.Test.YtkbplffckkjbfaaDvm
import Derived.Test.YtkbplffckkjbfaaVen
import Derived.Test.YtkbplffckkjbfaaDva
namespace Go.Proofs.Ytkbplffckkjbfaa
set_option linter.unusedVariables false
set_option linter.unusedSimpArgs false

theorem okVs_mem : ∀ {l : List V} {x : V}, OkVs l → x ∈ l → OkV x
  | [], x, _, h => by cases h
  | y :: r, x, h, hx => by
    rw [OkVs] at h
    rcases List.mem_cons.1 hx with rfl | hx
    · exact h.1
    · exact okVs_mem h.2 hx
theorem rdN_num {n : Nat} (h : n ≤ 9223372036854775807) (r : List UInt8) : rdN (some (num n ++ r)) = (n, some r) := by
  have h1 := num_len10 h
  rw [rdN, tk_num h]
  simp only
  rw [if_neg (by omega), List.drop_left]
theorem rdU_num {lim n : Nat} (hl : lim ≤ 1000) (h : n ≤ lim) (r : List UInt8) : rdU lim (some (num n ++ r)) = (n, some r) := by
  unfold rdU
  rw [rdN_num (by omega)]
  simp only
  rw [if_neg (by omega)]
theorem rdI_num {n : Int} (h : InR n) (r : List UInt8) : rdI (some ((if n < 0 then num 1 ++ num (-(n + 1)).toNat else num 0 ++ num n.toNat) ++ r)) = (n, some r) := by
  obtain ⟨h1, h2⟩ := h
  unfold rdI
  by_cases h0 : n < 0
  · rw [if_pos h0, List.append_assoc, rdU_num (by omega) (Nat.le_refl _)]
    simp only
    rw [rdN_num (by omega)]
    simp only [if_true, Prod.mk.injEq, and_true]
    omega
  · rw [if_neg h0, List.append_assoc, rdU_num (by omega) (Nat.zero_le _)]
    simp only
    rw [rdN_num (by omega)]
    simp only [Prod.mk.injEq, and_true]
    rw [if_neg (by omega)]
    omega
theorem rdB_app (t r : List UInt8) : rdB t.length (some (t ++ r)) = (t, some r) := by
  simp only [rdB]
  rw [if_neg (by simp; omega)]
  simp
theorem rdLs_enc {f : RSt → V × RSt} : ∀ (l : List V) (r : List UInt8), (∀ x ∈ l, ∀ r, f (some (enc x ++ r)) = (x, some r)) → rdLs f l.length (some (encs l ++ r)) = (l, some r)
  | [], r, _ => by simp [rdLs, encs]
  | x :: l, r, h => by
    rw [List.length_cons, rdLs, encs, List.append_assoc, h x (List.mem_cons_self ..)]
    simp only
    rw [rdLs_enc l r (fun y hy => h y (List.mem_cons_of_mem _ hy))]
theorem rdMs_enc {f g : RSt → V × RSt} : ∀ (n : Nat) (l : List V) (r : List UInt8), l.length = 2 * n → (∀ i x, l[2 * i]? = some x → ∀ r, f (some (enc x ++ r)) = (x, some r)) → (∀ i x, l[2 * i + 1]? = some x → ∀ r, g (some (enc x ++ r)) = (x, some r)) → rdMs f g n (some (encs l ++ r)) = (l, some r)
  | 0, l, r, h, _, _ => by
    obtain rfl := List.length_eq_zero_iff.1 (by omega : l.length = 0)
    simp [rdMs, encs]
  | n + 1, [], r, h, _, _ => by simp at h
  | n + 1, [x], r, h, _, _ => by simp at h; omega
  | n + 1, x :: y :: l, r, h, hf, hg => by
    have ih := rdMs_enc (f := f) (g := g) n l r (by simp at h; omega) (fun i z hz => hf (i + 1) z (by rw [show 2 * (i + 1) = 2 * i + 1 + 1 by omega]; simpa using hz)) (fun i z hz => hg (i + 1) z (by rw [show 2 * (i + 1) + 1 = (2 * i + 1) + 1 + 1 by omega]; simpa using hz))
    rw [rdMs, encs, encs, List.append_assoc, hf 0 x (by simp)]
    simp only
    rw [List.append_assoc, hg 0 y (by simp)]
    simp only
    rw [ih]
/-- A value's bytes are read as it. -/
theorem rdV_enc : ∀ (T : Ty) (v : V) (r : List UInt8), Shp T v → OkV v → rdV T (some (enc v ++ r)) = (v, some r)
  | .int, .mk k n t l, r, h, ho => by
    rw [Shp] at h
    rw [OkV] at ho
    obtain ⟨h1, h2, h3⟩ := h
    simp only [V.k, V.t, V.l] at h1 h2 h3
    subst h1 h2 h3
    show rdInt _ = _
    unfold rdInt
    rw [enc, if_pos rfl, encs, List.append_nil, rdI_num ho.1]
  | .bool, .mk k n t l, r, h, ho => by
    rw [Shp] at h
    obtain ⟨h1, h2, h3, h4⟩ := h
    simp only [V.k, V.t, V.l, V.n] at h1 h2 h3 h4
    subst h1 h2 h3
    show (V.mk 2 (rdU 1 _).1 [] [], (rdU 1 _).2) = _
    rw [enc, if_neg (by decide), if_pos rfl, encs, List.append_nil, rdU_num (by omega) (by omega)]
    simp only [Prod.mk.injEq, and_true, V.mk.injEq, true_and]
    omega
  | .text, .mk k n t l, r, h, ho => by
    rw [Shp] at h
    obtain ⟨h1, h2, h3, h4⟩ := h
    simp only [V.k, V.t, V.l, V.n] at h1 h2 h3 h4
    subst h1 h2 h3
    show rdText _ = _
    unfold rdText
    rw [enc, if_neg (by decide), if_neg (by decide), if_pos rfl, encs, List.append_nil, List.append_assoc, rdU_num (by omega) h4]
    simp only
    rw [rdB_app]
  | .list E, .mk k n t l, r, h, ho => by
    rw [Shp] at h
    rw [OkV] at ho
    obtain ⟨h1, h2, h3, h4, h5⟩ := h
    simp only [V.k, V.t, V.l, V.n] at h1 h2 h3 h4 h5
    subst h1 h2 h3
    show (V.mk 4 0 [] (rdLs (rdV E) (rdU 64 _).1 (rdU 64 _).2).1, (rdLs (rdV E) (rdU 64 _).1 (rdU 64 _).2).2) = _
    rw [enc, if_neg (by decide), if_neg (by decide), if_neg (by decide), if_pos rfl, List.append_assoc, rdU_num (by omega) h4]
    simp only
    rw [rdLs_enc l r (fun x hx r => rdV_enc E x r (h5 x hx) (okVs_mem (by exact ho.2.2.2.2) hx))]
  | .map kb E, .mk k n t l, r, h, ho => by
    rw [Shp] at h
    rw [OkV] at ho
    obtain ⟨h1, h2, h3, h4, h5, h6, h7, h8⟩ := h
    simp only [V.k, V.t, V.l, V.n] at h1 h2 h3 h4 h5 h6 h7
    subst h1 h2 h3
    have hok : OkVs l := by exact ho.2.2.2.2
    show (V.mk 5 0 [] (rdMs (rdK kb) (rdV E) (rdU 64 _).1 (rdU 64 _).2).1, (rdMs (rdK kb) (rdV E) (rdU 64 _).1 (rdU 64 _).2).2) = _
    rw [enc, if_neg (by decide), if_neg (by decide), if_neg (by decide), if_neg (by decide), if_pos rfl, List.append_assoc, rdU_num (by omega) (by omega)]
    simp only
    have hkey : ∀ x, KeyS kb x → OkV x → ∀ r, rdK kb (some (enc x ++ r)) = (x, some r) := by
      intro x hx hox r
      obtain ⟨k, n, t, l⟩ := x
      rw [OkV] at hox
      cases kb
      · rw [KeyS] at hx
        obtain ⟨h1, h2, h3, h4⟩ := hx
        simp only [V.k, V.t, V.l, V.n] at h1 h2 h3 h4
        subst h1 h2 h3
        show rdText _ = _
        unfold rdText
        rw [enc, if_neg (by decide), if_neg (by decide), if_pos rfl, encs, List.append_nil, List.append_assoc, rdU_num (by omega) h4]
        simp only
        rw [rdB_app]
      · rw [KeyS] at hx
        obtain ⟨h1, h2, h3⟩ := hx
        simp only [V.k, V.t, V.l] at h1 h2 h3
        subst h1 h2 h3
        show rdInt _ = _
        unfold rdInt
        rw [enc, if_pos rfl, encs, List.append_nil, rdI_num hox.1]
    rw [rdMs_enc (l.length / 2) l r (by omega) (fun i x hx r => hkey x (h6 i x hx) (okVs_mem hok (List.mem_of_getElem? hx)) r) (fun i x hx r => rdV_enc E x r (h7 i x hx) (okVs_mem hok (List.mem_of_getElem? hx)))]
end Go.Proofs.Ytkbplffckkjbfaa
namespace Go.Proofs.Ytkbplffckkjbfaa
set_option linter.unusedVariables false
set_option linter.unusedSimpArgs false

theorem rdN_back {st : RSt} {r : List UInt8} (h : (rdN st).2 = some r) : st = some (num (rdN st).1 ++ r) := by
  rcases st with _ | bs
  · simp [rdN] at h
  · simp only [rdN] at h ⊢
    split at h
    · simp at h
    · rename_i h0
      rw [if_neg h0]
      obtain ⟨h1, h2, _⟩ := tk_back (bs := bs) (X := (tk bs).1) (k := (tk bs).2) rfl (by omega)
      simp only [Option.some.injEq] at h ⊢
      rw [← h2, ← h, List.take_append_drop]
theorem rdU_back {lim : Nat} {st : RSt} {r : List UInt8} (h : (rdU lim st).2 = some r) : st = some (num (rdU lim st).1 ++ r) := by
  unfold rdU at h ⊢
  split at h
  · simp at h
  · rename_i h0
    rw [if_neg h0]
    exact rdN_back h
theorem rdI_back {st : RSt} {r : List UInt8} (h : (rdI st).2 = some r) : st = some ((if (rdI st).1 < 0 then num 1 ++ num (-((rdI st).1 + 1)).toNat else num 0 ++ num (rdI st).1.toNat) ++ r) := by
  have h2 : (rdN (rdU 1 st).2).2 = some r := h
  have h3 := rdN_back h2
  have h4 := rdU_back h3
  have h5 := rdU_le 1 st
  unfold rdI
  dsimp only
  by_cases h1 : (rdU 1 st).1 = 1
  · rw [if_pos h1, if_pos (by omega)]
    have e : (-(-((rdN (rdU 1 st).2).1 : Int) - 1 + 1)).toNat = (rdN (rdU 1 st).2).1 := by omega
    rw [e]
    rw [h1] at h4
    rw [List.append_assoc]
    exact h4
  · rw [if_neg h1, if_neg (by omega)]
    have e : (((rdN (rdU 1 st).2).1 : Int)).toNat = (rdN (rdU 1 st).2).1 := by omega
    have e0 : (rdU 1 st).1 = 0 := by omega
    rw [e]
    rw [e0] at h4
    rw [List.append_assoc]
    exact h4
theorem rdB_back {n : Nat} {st : RSt} {r : List UInt8} (h : (rdB n st).2 = some r) : st = some ((rdB n st).1 ++ r) ∧ (rdB n st).1.length = n := by
  rcases st with _ | bs
  · simp [rdB] at h
  · simp only [rdB] at h ⊢
    split at h
    · simp at h
    · rename_i h0
      rw [if_neg h0]
      simp only [Option.some.injEq] at h ⊢
      rw [← h, List.take_append_drop]
      refine ⟨rfl, ?_⟩
      simp; omega
theorem rdInt_back {st : RSt} {r : List UInt8} (h : (rdInt st).2 = some r) : st = some (enc (rdInt st).1 ++ r) := by
  have h1 := rdI_back (st := st) (r := r) h
  unfold rdInt
  dsimp only
  rw [enc, if_pos rfl, encs, List.append_nil]
  exact h1
theorem rdText_back {st : RSt} {r : List UInt8} (h : (rdText st).2 = some r) : st = some (enc (rdText st).1 ++ r) := by
  obtain ⟨h1, h2⟩ := rdB_back (n := (rdU 256 st).1) (st := (rdU 256 st).2) (r := r) h
  have h3 := rdU_back h1
  unfold rdText
  dsimp only
  rw [enc, if_neg (by decide), if_neg (by decide), if_pos rfl, encs, List.append_nil, h2, List.append_assoc]
  exact h3
theorem rdK_back (kb : Bool) {st : RSt} {r : List UInt8} (h : (rdK kb st).2 = some r) : st = some (enc (rdK kb st).1 ++ r) := by
  cases kb
  · exact rdText_back h
  · exact rdInt_back h
theorem rdLs_back {f : RSt → V × RSt} (hf : ∀ st r, (f st).2 = some r → st = some (enc (f st).1 ++ r)) : ∀ (n : Nat) (st : RSt) (r : List UInt8), (rdLs f n st).2 = some r → st = some (encs (rdLs f n st).1 ++ r)
  | 0, st, r, h => by simpa [rdLs, encs] using h
  | n + 1, st, r, h => by
    have h1 := rdLs_back hf n (f st).2 r h
    have h2 := hf st _ h1
    rw [rdLs]
    dsimp only
    rw [encs, List.append_assoc]
    exact h2
theorem rdMs_back {f g : RSt → V × RSt} (hf : ∀ st r, (f st).2 = some r → st = some (enc (f st).1 ++ r)) (hg : ∀ st r, (g st).2 = some r → st = some (enc (g st).1 ++ r)) : ∀ (n : Nat) (st : RSt) (r : List UInt8), (rdMs f g n st).2 = some r → st = some (encs (rdMs f g n st).1 ++ r)
  | 0, st, r, h => by simpa [rdMs, encs] using h
  | n + 1, st, r, h => by
    have h1 := rdMs_back hf hg n (g (f st).2).2 r h
    have h2 := hg (f st).2 _ h1
    have h3 := hf st _ h2
    rw [rdMs]
    dsimp only
    rw [encs, encs, List.append_assoc, List.append_assoc]
    exact h3
theorem rdV_back : ∀ (T : Ty) (st : RSt) (r : List UInt8), (rdV T st).2 = some r → st = some (enc (rdV T st).1 ++ r)
  | .int, st, r, h => rdInt_back h
  | .bool, st, r, h => by
    have h1 := rdU_back (lim := 1) (st := st) (r := r) h
    show st = some (enc (.mk 2 ((rdU 1 st).1 : Nat) [] []) ++ r)
    rw [enc, if_neg (by decide), if_pos rfl, encs, List.append_nil]
    exact h1
  | .text, st, r, h => rdText_back h
  | .list E, st, r, h => by
    have h1 := rdLs_back (rdV_back E) (rdU 64 st).1 (rdU 64 st).2 r h
    have h2 := rdU_back h1
    show st = some (enc (.mk 4 0 [] (rdLs (rdV E) (rdU 64 st).1 (rdU 64 st).2).1) ++ r)
    rw [enc, if_neg (by decide), if_neg (by decide), if_neg (by decide), if_pos rfl, rdLs_len, List.append_assoc]
    exact h2
  | .map kb E, st, r, h => by
    have h1 := rdMs_back (fun st r => rdK_back kb) (rdV_back E) (rdU 64 st).1 (rdU 64 st).2 r h
    have h2 := rdU_back h1
    show st = some (enc (.mk 5 0 [] (rdMs (rdK kb) (rdV E) (rdU 64 st).1 (rdU 64 st).2).1) ++ r)
    rw [enc, if_neg (by decide), if_neg (by decide), if_neg (by decide), if_neg (by decide), if_pos rfl, rdMs_len, show 2 * (rdU 64 st).1 / 2 = (rdU 64 st).1 by omega, List.append_assoc]
    exact h2
theorem rdInt_ok (st : RSt) : OkV (rdInt st).1 := by
  have h := rdN_le (rdU 1 st).2
  unfold rdInt rdI
  rw [OkV, OkVs]
  refine ⟨?_, by unfold InR; omega, Nat.zero_le _, Nat.zero_le _, trivial⟩
  dsimp only
  unfold InR
  split <;> omega
theorem rdText_ok (st : RSt) : OkV (rdText st).1 := by
  have h1 := rdU_le 256 st
  have h2 := rdB_len (rdU 256 st).1 (rdU 256 st).2
  unfold rdText
  rw [OkV, OkVs]
  exact ⟨by unfold InR; omega, by unfold InR; omega, by omega, Nat.zero_le _, trivial⟩
theorem rdK_ok (kb : Bool) (st : RSt) : OkV (rdK kb st).1 := by
  cases kb
  · exact rdText_ok st
  · exact rdInt_ok st
theorem rdLs_ok {f : RSt → V × RSt} (hf : ∀ st, OkV (f st).1) : ∀ (n : Nat) (st : RSt), OkVs (rdLs f n st).1
  | 0, st => by rw [rdLs, OkVs]; trivial
  | n + 1, st => by rw [rdLs, OkVs]; exact ⟨hf st, rdLs_ok hf n _⟩
theorem rdMs_ok {f g : RSt → V × RSt} (hf : ∀ st, OkV (f st).1) (hg : ∀ st, OkV (g st).1) : ∀ (n : Nat) (st : RSt), OkVs (rdMs f g n st).1
  | 0, st => by rw [rdMs, OkVs]; trivial
  | n + 1, st => by rw [rdMs, OkVs, OkVs]; exact ⟨hf st, hg _, rdMs_ok hf hg n _⟩
theorem rdV_ok : ∀ (T : Ty) (st : RSt), OkV (rdV T st).1
  | .int, st => rdInt_ok st
  | .bool, st => by
    have h1 := rdU_le 1 st
    show OkV (.mk 2 ((rdU 1 st).1 : Nat) [] [])
    rw [OkV, OkVs]
    exact ⟨by unfold InR; omega, by unfold InR; omega, Nat.zero_le _, Nat.zero_le _, trivial⟩
  | .text, st => rdText_ok st
  | .list E, st => by
    have h1 := rdU_le 64 st
    show OkV (.mk 4 0 [] (rdLs (rdV E) (rdU 64 st).1 (rdU 64 st).2).1)
    rw [OkV, rdLs_len]
    exact ⟨by unfold InR; omega, by unfold InR; omega, Nat.zero_le _, by omega, rdLs_ok (rdV_ok E) _ _⟩
  | .map kb E, st => by
    have h1 := rdU_le 64 st
    show OkV (.mk 5 0 [] (rdMs (rdK kb) (rdV E) (rdU 64 st).1 (rdU 64 st).2).1)
    rw [OkV, rdMs_len]
    exact ⟨by unfold InR; omega, by unfold InR; omega, Nat.zero_le _, by omega, rdMs_ok (rdK_ok kb) (rdV_ok E) _ _⟩
theorem fit_shp {y : List UInt8} {v : V} (h : fitS y v = true) : ∃ T, tyOf y = some T ∧ Shp T v := by
  unfold fitS at h
  rw [Bool.and_eq_true] at h
  have h1 := h.1
  unfold shpS at h1
  rcases hT : tyOf y with _ | T
  · rw [hT] at h1; simp at h1
  · rw [hT] at h1; exact ⟨T, rfl, shpB_iff.1 h1⟩
/-- A value's bytes are it. -/
theorem dc_enc {y : List UInt8} {v : V} (h : fitS y v = true) (ho : OkV v) : dcV y (enc v) = (v, 0) := by
  obtain ⟨T, hT, hs⟩ := fit_shp h
  have h1 := rdV_enc T v [] hs ho
  rw [List.append_nil] at h1
  unfold dcV
  rw [hT]
  simp only
  rw [h1]
  simp only
  rw [if_pos trivial, if_pos h]
/-- With more behind they are none. -/
theorem dc_more {y : List UInt8} {v : V} (h : fitS y v = true) (ho : OkV v) {r : List UInt8} (hr : r ≠ []) : dcV y (enc v ++ r) = (V.zero, 11) := by
  obtain ⟨T, hT, hs⟩ := fit_shp h
  have h1 := rdV_enc T v r hs ho
  unfold dcV
  rw [hT]
  simp only
  rw [h1]
  simp only [Option.some.injEq]
  rw [if_neg hr]
/-- Bytes that are a value are its bytes. -/
theorem dc_back {y b : List UInt8} {p : V} (h : dcV y b = (p, 0)) : fitS y p = true ∧ enc p = b ∧ OkV p := by
  unfold dcV at h
  rcases hT : tyOf y with _ | T
  · rw [hT] at h; simp at h
  · rw [hT] at h
    simp only at h
    split at h
    · rename_i h1
      split at h
      · rename_i h2
        simp only [Prod.mk.injEq, and_true] at h
        have h3 := rdV_back T _ _ h1
        rw [List.append_nil] at h3
        rw [← h]
        exact ⟨h2, (Option.some.inj h3).symm, rdV_ok T _⟩
      · simp at h
    · simp at h
theorem dc_err {y b : List UInt8} (h : (dcV y b).2 ≠ 0) : (dcV y b).1 = V.zero ∧ ((dcV y b).2 = 1 ↔ gType y = false) ∧ (gType y = true → (dcV y b).2 = 11) := by
  unfold dcV gType at *
  rcases hT : tyOf y with _ | T
  · simp
  · rw [hT] at h
    simp only at h ⊢
    split
    · rename_i h1
      rw [if_pos h1] at h
      split
      · rename_i h2
        rw [if_pos h2] at h
        simp at h
      · simp
    · simp
/-- No proper beginning is one. -/
theorem dc_part {y : List UInt8} {v : V} (h : fitS y v = true) (ho : OkV v) {i : Nat} (hi : i < (enc v).length) : (dcV y ((enc v).take i)).2 = 11 := by
  obtain ⟨T, hT, hs⟩ := fit_shp h
  by_cases h0 : (dcV y ((enc v).take i)).2 = 0
  · exfalso
    obtain ⟨h1, h2, h3⟩ := dc_back (y := y) (b := (enc v).take i) (p := (dcV y ((enc v).take i)).1) (by rw [← h0])
    obtain ⟨T', hT', hs'⟩ := fit_shp h1
    rw [hT] at hT'
    obtain rfl := Option.some.inj hT'
    have e1 := rdV_enc T v [] hs ho
    have e2 := rdV_enc T _ ((enc v).drop i) hs' h3
    rw [h2, List.take_append_drop] at e2
    rw [List.append_nil, e2] at e1
    simp only [Prod.mk.injEq, Option.some.injEq] at e1
    have := List.length_drop (i := i) (l := enc v)
    rw [e1.2] at this
    simp at this
    omega
  · exact (dc_err h0).2.2 (by unfold gType; rw [hT]; rfl)
end Go.Proofs.Ytkbplffckkjbfaa
