/- Texts of ours, joined: Ven, Dvm, Dvb, Dvr, Dvl, Dvp. -/
import Derived.Test.YtndahpcjkcihlaaG32
import Derived.Test.YtndahpcjkcihlaaG11
import Derived.Test.YtndahpcjkcihlaaG31
import Derived.Test.YtndahpcjkcihlaaG21
import Derived.Test.YtndahpcjkcihlaaG08
import Derived.Test.YtndahpcjkcihlaaG22
/- Encode: the program's. -/
namespace Go.Proofs.Ytndahpcjkcihlaa
open Go.RowKit
set_option linter.unusedVariables false
set_option linter.unusedSimpArgs false

mutual
/-- Numbers and lengths are what they can be. -/
def OkV : V → Prop
  | .mk k n t l => InR n ∧ InR k ∧ t.length ≤ 9223372036854775807 ∧ l.length ≤ 9223372036854775807 ∧ OkVs l
def OkVs : List V → Prop
  | [] => True
  | v :: r => OkV v ∧ OkVs r
end
mutual
theorem okV_of {B : Nat → Prop} {w : World} : ∀ {v : V} {cs : List Value}, IsV B w v cs → OkV v
  | .mk k n t l, cs, h => by
    rw [IsV] at h
    obtain ⟨sl, row, _, h2, h3, h4, h5, h6⟩ := h
    obtain ⟨ao, cap, _, c1, c2⟩ := h5.slice
    unfold maxLen at h2 c2
    rw [OkV]; exact ⟨h4, h3, by omega, by omega, okVs_of h6⟩
theorem okVs_of {B : Nat → Prop} {w : World} : ∀ {l : List V} {row : List Value}, AllV B w l row → OkVs l
  | [], row, h => by rw [OkVs]; trivial
  | a :: r, row, h => by
    rw [AllV] at h
    obtain ⟨c1, c2, _, h1, h2⟩ := h
    rw [OkVs]; exact ⟨okV_of h1, okVs_of h2⟩
end
theorem IsW.ok {B : Nat → Prop} {w : World} {v : V} {sl : Value} (h : IsW B w v sl) : OkV v := okV_of (isV_iff.2 ⟨sl, rfl, h⟩)
mutual
theorem enc_len : ∀ v : V, OkV v → (enc v).length ≤ 18 * wt v
  | .mk k n t l, h => by
    rw [OkV] at h
    obtain ⟨⟨h1, h2⟩, _, h3, h4, h5⟩ := h
    rw [enc, wt, List.length_append]
    have hl := encs_len l h5
    have a1 := num_len10 (n := (-(n + 1)).toNat) (by omega)
    have a2 := num_len10 (n := n.toNat) (by omega)
    have a3 := num_len10 (n := t.length) h3
    have a4 := num_len10 (n := l.length) h4
    have a5 := num_len10 (n := l.length / 2) (by omega)
    have a6 := num_len10 (n := 1) (by omega)
    have a7 := num_len10 (n := 0) (by omega)
    have : (if k = 1 then (if n < 0 then num 1 ++ num (-(n + 1)).toNat else num 0 ++ num n.toNat) else if k = 2 then num n.toNat else if k = 3 then num t.length ++ t else if k = 4 then num l.length else if k = 5 then num (l.length / 2) else []).length ≤ 18 + t.length := by
      split
      · split <;> (simp; omega)
      · split
        · omega
        · split
          · simp; omega
          · split
            · omega
            · split
              · omega
              · simp
    omega
theorem encs_len : ∀ l : List V, OkVs l → (encs l).length ≤ 18 * wts l
  | [], h => by simp [encs, wts]
  | a :: r, h => by
    rw [OkVs] at h
    have h1 := enc_len a h.1
    have h2 := encs_len r h.2
    rw [encs, wts, List.length_append]; omega
end
noncomputable def encR (y : List UInt8) (v : V) : List UInt8 × Int := if fitS y v = true then (enc v, 0) else ([], 1)
theorem fit_wt {y : List UInt8} {v : V} (h : fitS y v = true) : wt v ≤ 16384 := by
  unfold fitS at h; simp at h; exact h.2
set_option maxRecDepth 100000 in
set_option maxHeartbeats 1000000 in
theorem encode_any {B : Nat → Prop} {y : List UInt8} (hy : y.length ≤ 9223372036854775807) {v : V} {ao : Option Addr} {cap : Nat} {w : World} (hv : IsW B w v (.slice ao v.l.length cap)) (hw : wt v ≤ 4611686018427387904) :
    Calls Try.prog 25 #[.agg #[.int .i64 v.k, .int .i64 v.n, .string ⟨v.t.toArray⟩, .slice ao v.l.length cap], .string ⟨y.toArray⟩] w fun r w' => (∃ a c, r = .returned (.tuple #[.slice a (encR y v).1.length c, .int .i64 (encR y v).2]) ∧ Own8 w' w.heap.size a c (encR y v).1) ∧ Below w.heap.size w w' := by
  obtain ⟨w0, hW, hb0, hsz, d0, d1, d2, d3⟩ := boxed w v (.slice ao v.l.length cap)
  have hF := fits_any hy (hv.below hb0) hw
  have hgb : w.heap.size < w0.heap.size := by omega
  rcases hf : fitS y v with _ | _
  · have hR : encR y v = ([], 1) := by unfold encR; rw [if_neg (by simp [hf])]
    rw [hR]
    rw [hf] at hF
    clear hv hR
    go_enter Try.func25, Try.ntmps25
    go_wp2_with fail
    refine hF.mono ?_
    rintro e w2 ⟨rfl, hb2⟩
    go_wp2
    go_ret2
    exact ⟨⟨none, 0, rfl, World.ownsRow_nil _ _ _ _⟩, hb0.trans (hb2.mono (by omega))⟩
  · have hR : encR y v = (enc v, 0) := by unfold encR; rw [if_pos hf]
    have hwt := fit_wt hf
    have hle := enc_len v hv.ok
    rw [hR]
    rw [hf] at hF
    have hWr : ∀ w2, Below w0.heap.size w0 w2 → Calls Try.prog 46 #[.slice none 0 0, .agg #[.int .i64 v.k, .int .i64 v.n, .string ⟨v.t.toArray⟩, .slice ao v.l.length cap]] w2 fun r w' => OutB w2.heap.size w2 (enc v) r w' := by
      intro w2 hb2
      have hx := wr_all w2.heap.size _ v (Nat.lt_succ_self _) [] none ao 0 cap w2 (World.ownsRow_nil _ _ _ _) (Nat.le_refl _) (by simp; omega) (((hv.below hb0).below hb2).base (fun k _ h => h))
      simpa using hx
    clear hv hR
    go_enter Try.func25, Try.ntmps25
    go_wp2_with fail
    refine hF.mono ?_
    rintro e w2 ⟨rfl, hb2⟩
    have e0 := ((bcell hb2).1 _ 0 hgb).trans d0
    have e1 := ((bcell hb2).1 _ 1 hgb).trans d1
    have e2 := ((bcell hb2).1 _ 2 hgb).trans d2
    have e3 := ((bcell hb2).1 _ 3 hgb).trans d3
    clear hF hW d0 d1 d2 d3
    go_wp2_with fail
    refine (hWr w2 hb2).mono ?_
    rintro e w3 ⟨⟨a3, c3, rfl, h3⟩, hb3⟩
    clear hWr
    have hs := hb2.size
    go_wp2
    go_ret2
    exact ⟨⟨a3, c3, rfl, owns_base h3 (by omega)⟩, hb0.trans ((hb2.trans (hb3.mono hb2.size)).mono (by omega))⟩
end Go.Proofs.Ytndahpcjkcihlaa
/- Values read. Plain mathematics. -/
namespace Go.Proofs.Ytndahpcjkcihlaa
set_option linter.unusedVariables false
set_option linter.unusedSimpArgs false

abbrev RSt := Option (List UInt8)
def rdLs (f : RSt → V × RSt) : Nat → RSt → List V × RSt
  | 0, st => ([], st)
  | n + 1, st => ((f st).1 :: (rdLs f n (f st).2).1, (rdLs f n (f st).2).2)
def rdMs (f g : RSt → V × RSt) : Nat → RSt → List V × RSt
  | 0, st => ([], st)
  | n + 1, st => ((f st).1 :: (g (f st).2).1 :: (rdMs f g n (g (f st).2).2).1, (rdMs f g n (g (f st).2).2).2)
def rdInt (st : RSt) : V × RSt := (.mk 1 (rdI st).1 [] [], (rdI st).2)
def rdText (st : RSt) : V × RSt := (.mk 3 0 (rdB (rdU 256 st).1 (rdU 256 st).2).1 [], (rdB (rdU 256 st).1 (rdU 256 st).2).2)
def rdK (kb : Bool) : RSt → V × RSt := if kb then rdInt else rdText
def rdV : Ty → RSt → V × RSt
  | .int => rdInt
  | .bool => fun st => (.mk 2 (rdU 1 st).1 [] [], (rdU 1 st).2)
  | .text => rdText
  | .list E => fun st => (.mk 4 0 [] (rdLs (rdV E) (rdU 64 st).1 (rdU 64 st).2).1, (rdLs (rdV E) (rdU 64 st).1 (rdU 64 st).2).2)
  | .map kb E => fun st => (.mk 5 0 [] (rdMs (rdK kb) (rdV E) (rdU 64 st).1 (rdU 64 st).2).1, (rdMs (rdK kb) (rdV E) (rdU 64 st).1 (rdU 64 st).2).2)
theorem rdV_key (kb : Bool) : rdV (keyTy kb) = rdK kb := by cases kb <;> rfl
def lft (st : RSt) : Nat := (st.getD []).length
theorem rdN_lft (st : RSt) : lft (rdN st).2 ≤ lft st := by
  rcases st with _ | bs
  · simp [rdN, lft]
  · simp only [rdN, lft]
    split <;> simp
theorem rdU_lft (n : Nat) (st : RSt) : lft (rdU n st).2 ≤ lft st := by
  unfold rdU
  split
  · simp [lft]
  · exact rdN_lft st
theorem rdU_le (n : Nat) (st : RSt) : (rdU n st).1 ≤ n := by
  unfold rdU
  split
  · simp
  · rename_i h; omega
theorem rdI_lft (st : RSt) : lft (rdI st).2 ≤ lft st := Nat.le_trans (rdN_lft _) (rdU_lft _ _)
theorem rdB_lft (n : Int) (st : RSt) : lft (rdB n st).2 ≤ lft st := by
  rcases st with _ | bs
  · simp [rdB, lft]
  · simp only [rdB, lft]
    split <;> simp
theorem rdB_len (n : Nat) (st : RSt) : (rdB n st).1.length ≤ n := by
  rcases st with _ | bs
  · simp [rdB]
  · simp only [rdB]
    split
    · simp
    · simp; omega
theorem rdLs_lft {f : RSt → V × RSt} (hf : ∀ st, lft (f st).2 ≤ lft st) : ∀ (n : Nat) (st : RSt), lft (rdLs f n st).2 ≤ lft st
  | 0, st => Nat.le_refl _
  | n + 1, st => Nat.le_trans (rdLs_lft hf n _) (hf st)
theorem rdMs_lft {f g : RSt → V × RSt} (hf : ∀ st, lft (f st).2 ≤ lft st) (hg : ∀ st, lft (g st).2 ≤ lft st) : ∀ (n : Nat) (st : RSt), lft (rdMs f g n st).2 ≤ lft st
  | 0, st => Nat.le_refl _
  | n + 1, st => Nat.le_trans (rdMs_lft hf hg n _) (Nat.le_trans (hg _) (hf st))
theorem rdInt_lft (st : RSt) : lft (rdInt st).2 ≤ lft st := rdI_lft st
theorem rdText_lft (st : RSt) : lft (rdText st).2 ≤ lft st := Nat.le_trans (rdB_lft _ _) (rdU_lft _ _)
theorem rdK_lft (kb : Bool) (st : RSt) : lft (rdK kb st).2 ≤ lft st := by
  cases kb
  · exact rdText_lft st
  · exact rdInt_lft st
theorem rdV_lft : ∀ (T : Ty) (st : RSt), lft (rdV T st).2 ≤ lft st
  | .int, st => rdI_lft st
  | .bool, st => rdU_lft _ _
  | .text, st => rdText_lft st
  | .list E, st => Nat.le_trans (rdLs_lft (rdV_lft E) _ _) (rdU_lft _ _)
  | .map kb E, st => Nat.le_trans (rdMs_lft (rdK_lft kb) (rdV_lft E) _ _) (rdU_lft _ _)
theorem rdLs_len (f : RSt → V × RSt) : ∀ (n : Nat) (st : RSt), (rdLs f n st).1.length = n
  | 0, st => rfl
  | n + 1, st => by simp [rdLs, rdLs_len f n]
theorem rdMs_len (f g : RSt → V × RSt) : ∀ (n : Nat) (st : RSt), (rdMs f g n st).1.length = 2 * n
  | 0, st => rfl
  | n + 1, st => by simp [rdMs, rdMs_len f g n]; omega
theorem rdLs_wts {f : RSt → V × RSt} {b : Nat} (hf : ∀ st, wt (f st).1 ≤ b) : ∀ (n : Nat) (st : RSt), wts (rdLs f n st).1 ≤ n * b
  | 0, st => by simp [rdLs, wts]
  | n + 1, st => by
    have := rdLs_wts hf n (f st).2
    have := hf st
    simp only [rdLs, wts]
    rw [Nat.add_mul]; omega
theorem rdMs_wts {f g : RSt → V × RSt} {b c : Nat} (hf : ∀ st, wt (f st).1 ≤ b) (hg : ∀ st, wt (g st).1 ≤ c) : ∀ (n : Nat) (st : RSt), wts (rdMs f g n st).1 ≤ n * (b + c)
  | 0, st => by simp [rdMs, wts]
  | n + 1, st => by
    have := rdMs_wts hf hg n (g (f st).2).2
    have := hf st
    have := hg (f st).2
    simp only [rdMs, wts]
    rw [Nat.add_mul]; omega
theorem rdText_wt (st : RSt) : wt (rdText st).1 ≤ 257 := by
  have h1 := rdU_le 256 st
  have h2 := rdB_len (rdU 256 st).1 (rdU 256 st).2
  show wt (.mk _ _ _ _) ≤ 257
  rw [wt_mk]
  simp only [wts]
  omega
theorem rdK_wt (kb : Bool) (st : RSt) : wt (rdK kb st).1 ≤ 257 := by
  cases kb
  · exact rdText_wt st
  · show wt (.mk _ _ _ _) ≤ 257
    rw [wt_mk]; simp [wts]
theorem rdV_wt : ∀ (T : Ty) (st : RSt), wt (rdV T st).1 ≤ 300 ^ T.dp
  | .int, st => by show wt (.mk _ _ _ _) ≤ _; rw [wt_mk]; simp [wts, Ty.dp]
  | .bool, st => by show wt (.mk _ _ _ _) ≤ _; rw [wt_mk]; simp [wts, Ty.dp]
  | .text, st => Nat.le_trans (rdText_wt st) (by simp [Ty.dp])
  | .list E, st => by
    have h1 := rdLs_wts (rdV_wt E) (rdU 64 st).1 (rdU 64 st).2
    have h2 := Nat.mul_le_mul_right (300 ^ E.dp) (rdU_le 64 st)
    have h3 : 1 ≤ 300 ^ E.dp := Nat.pos_of_ne_zero (by simp)
    show wt (.mk _ _ _ _) ≤ _
    rw [wt_mk, Ty.dp, Nat.pow_succ]
    simp only [List.length_nil]
    omega
  | .map kb E, st => by
    have h1 := rdMs_wts (rdK_wt kb) (rdV_wt E) (rdU 64 st).1 (rdU 64 st).2
    have h2 := Nat.mul_le_mul_right (257 + 300 ^ E.dp) (rdU_le 64 st)
    have h3 : 300 ^ 1 ≤ 300 ^ E.dp := Nat.pow_le_pow_right (by omega) (Ty.dp_pos E)
    show wt (.mk _ _ _ _) ≤ _
    rw [wt_mk, Ty.dp, Nat.pow_succ]
    simp only [List.length_nil]
    omega
end Go.Proofs.Ytndahpcjkcihlaa
/- What is read is what was written. Plain mathematics. -/
namespace Go.Proofs.Ytndahpcjkcihlaa
set_option linter.unusedVariables false
set_option linter.unusedSimpArgs false

theorem okVs_mem : ∀ {l : List V} {x : V}, OkVs l → x ∈ l → OkV x
  | [], x, _, h => by cases h
  | y :: r, x, h, hx => by
    rw [OkVs] at h
    rcases List.mem_cons.1 hx with rfl | hx
    · exact h.1
    · exact okVs_mem h.2 hx
theorem rdN_num {n : Nat} (h : n ≤ 9223372036854775807) (r : List UInt8) : rdN (some (num n ++ r)) = (n, some r) := by
  have h1 := num_len10 h
  rw [rdN, tk_num h]
  simp only
  rw [if_neg (by omega), List.drop_left]
theorem rdU_num {lim n : Nat} (hl : lim ≤ 1000) (h : n ≤ lim) (r : List UInt8) : rdU lim (some (num n ++ r)) = (n, some r) := by
  unfold rdU
  rw [rdN_num (by omega)]
  simp only
  rw [if_neg (by omega)]
theorem rdI_num {n : Int} (h : InR n) (r : List UInt8) : rdI (some ((if n < 0 then num 1 ++ num (-(n + 1)).toNat else num 0 ++ num n.toNat) ++ r)) = (n, some r) := by
  obtain ⟨h1, h2⟩ := h
  unfold rdI
  by_cases h0 : n < 0
  · rw [if_pos h0, List.append_assoc, rdU_num (by omega) (Nat.le_refl _)]
    simp only
    rw [rdN_num (by omega)]
    simp only [if_true, Prod.mk.injEq, and_true]
    omega
  · rw [if_neg h0, List.append_assoc, rdU_num (by omega) (Nat.zero_le _)]
    simp only
    rw [rdN_num (by omega)]
    simp only [Prod.mk.injEq, and_true]
    rw [if_neg (by omega)]
    omega
theorem rdB_app (t r : List UInt8) : rdB t.length (some (t ++ r)) = (t, some r) := by
  simp only [rdB]
  rw [if_neg (by simp; omega)]
  simp
theorem rdLs_enc {f : RSt → V × RSt} : ∀ (l : List V) (r : List UInt8), (∀ x ∈ l, ∀ r, f (some (enc x ++ r)) = (x, some r)) → rdLs f l.length (some (encs l ++ r)) = (l, some r)
  | [], r, _ => by simp [rdLs, encs]
  | x :: l, r, h => by
    rw [List.length_cons, rdLs, encs, List.append_assoc, h x (List.mem_cons_self ..)]
    simp only
    rw [rdLs_enc l r (fun y hy => h y (List.mem_cons_of_mem _ hy))]
theorem rdMs_enc {f g : RSt → V × RSt} : ∀ (n : Nat) (l : List V) (r : List UInt8), l.length = 2 * n → (∀ i x, l[2 * i]? = some x → ∀ r, f (some (enc x ++ r)) = (x, some r)) → (∀ i x, l[2 * i + 1]? = some x → ∀ r, g (some (enc x ++ r)) = (x, some r)) → rdMs f g n (some (encs l ++ r)) = (l, some r)
  | 0, l, r, h, _, _ => by
    obtain rfl := List.length_eq_zero_iff.1 (by omega : l.length = 0)
    simp [rdMs, encs]
  | n + 1, [], r, h, _, _ => by simp at h
  | n + 1, [x], r, h, _, _ => by simp at h; omega
  | n + 1, x :: y :: l, r, h, hf, hg => by
    have ih := rdMs_enc (f := f) (g := g) n l r (by simp at h; omega) (fun i z hz => hf (i + 1) z (by rw [show 2 * (i + 1) = 2 * i + 1 + 1 by omega]; simpa using hz)) (fun i z hz => hg (i + 1) z (by rw [show 2 * (i + 1) + 1 = (2 * i + 1) + 1 + 1 by omega]; simpa using hz))
    rw [rdMs, encs, encs, List.append_assoc, hf 0 x (by simp)]
    simp only
    rw [List.append_assoc, hg 0 y (by simp)]
    simp only
    rw [ih]
/-- A value's bytes are read as it. -/
theorem rdV_enc : ∀ (T : Ty) (v : V) (r : List UInt8), Shp T v → OkV v → rdV T (some (enc v ++ r)) = (v, some r)
  | .int, .mk k n t l, r, h, ho => by
    rw [Shp] at h
    rw [OkV] at ho
    obtain ⟨h1, h2, h3⟩ := h
    simp only [V.k, V.t, V.l] at h1 h2 h3
    subst h1 h2 h3
    show rdInt _ = _
    unfold rdInt
    rw [enc, if_pos rfl, encs, List.append_nil, rdI_num ho.1]
  | .bool, .mk k n t l, r, h, ho => by
    rw [Shp] at h
    obtain ⟨h1, h2, h3, h4⟩ := h
    simp only [V.k, V.t, V.l, V.n] at h1 h2 h3 h4
    subst h1 h2 h3
    show (V.mk 2 (rdU 1 _).1 [] [], (rdU 1 _).2) = _
    rw [enc, if_neg (by decide), if_pos rfl, encs, List.append_nil, rdU_num (by omega) (by omega)]
    simp only [Prod.mk.injEq, and_true, V.mk.injEq, true_and]
    omega
  | .text, .mk k n t l, r, h, ho => by
    rw [Shp] at h
    obtain ⟨h1, h2, h3, h4⟩ := h
    simp only [V.k, V.t, V.l, V.n] at h1 h2 h3 h4
    subst h1 h2 h3
    show rdText _ = _
    unfold rdText
    rw [enc, if_neg (by decide), if_neg (by decide), if_pos rfl, encs, List.append_nil, List.append_assoc, rdU_num (by omega) h4]
    simp only
    rw [rdB_app]
  | .list E, .mk k n t l, r, h, ho => by
    rw [Shp] at h
    rw [OkV] at ho
    obtain ⟨h1, h2, h3, h4, h5⟩ := h
    simp only [V.k, V.t, V.l, V.n] at h1 h2 h3 h4 h5
    subst h1 h2 h3
    show (V.mk 4 0 [] (rdLs (rdV E) (rdU 64 _).1 (rdU 64 _).2).1, (rdLs (rdV E) (rdU 64 _).1 (rdU 64 _).2).2) = _
    rw [enc, if_neg (by decide), if_neg (by decide), if_neg (by decide), if_pos rfl, List.append_assoc, rdU_num (by omega) h4]
    simp only
    rw [rdLs_enc l r (fun x hx r => rdV_enc E x r (h5 x hx) (okVs_mem (by exact ho.2.2.2.2) hx))]
  | .map kb E, .mk k n t l, r, h, ho => by
    rw [Shp] at h
    rw [OkV] at ho
    obtain ⟨h1, h2, h3, h4, h5, h6, h7, h8⟩ := h
    simp only [V.k, V.t, V.l, V.n] at h1 h2 h3 h4 h5 h6 h7
    subst h1 h2 h3
    have hok : OkVs l := by exact ho.2.2.2.2
    show (V.mk 5 0 [] (rdMs (rdK kb) (rdV E) (rdU 64 _).1 (rdU 64 _).2).1, (rdMs (rdK kb) (rdV E) (rdU 64 _).1 (rdU 64 _).2).2) = _
    rw [enc, if_neg (by decide), if_neg (by decide), if_neg (by decide), if_neg (by decide), if_pos rfl, List.append_assoc, rdU_num (by omega) (by omega)]
    simp only
    have hkey : ∀ x, KeyS kb x → OkV x → ∀ r, rdK kb (some (enc x ++ r)) = (x, some r) := by
      intro x hx hox r
      obtain ⟨k, n, t, l⟩ := x
      rw [OkV] at hox
      cases kb
      · rw [KeyS] at hx
        obtain ⟨h1, h2, h3, h4⟩ := hx
        simp only [V.k, V.t, V.l, V.n] at h1 h2 h3 h4
        subst h1 h2 h3
        show rdText _ = _
        unfold rdText
        rw [enc, if_neg (by decide), if_neg (by decide), if_pos rfl, encs, List.append_nil, List.append_assoc, rdU_num (by omega) h4]
        simp only
        rw [rdB_app]
      · rw [KeyS] at hx
        obtain ⟨h1, h2, h3⟩ := hx
        simp only [V.k, V.t, V.l] at h1 h2 h3
        subst h1 h2 h3
        show rdInt _ = _
        unfold rdInt
        rw [enc, if_pos rfl, encs, List.append_nil, rdI_num hox.1]
    rw [rdMs_enc (l.length / 2) l r (by omega) (fun i x hx r => hkey x (h6 i x hx) (okVs_mem hok (List.mem_of_getElem? hx)) r) (fun i x hx r => rdV_enc E x r (h7 i x hx) (okVs_mem hok (List.mem_of_getElem? hx)))]
end Go.Proofs.Ytndahpcjkcihlaa
/- Values read: the program's, those with nothing within. -/
namespace Go.Proofs.Ytndahpcjkcihlaa
open Go.RowKit
set_option linter.unusedVariables false
set_option linter.unusedSimpArgs false

theorem rdbox (w : World) (x0 x1 x2 x3 : Value) : ∃ wz w4, w.alloc (.cells #[.int .i64 0, .int .i64 0, .string ⟨#[]⟩, .slice none 0 0] 29) = wz ∧ set4 wz w.heap.size x0 x1 x2 x3 = w4 ∧ Below w.heap.size w w4 ∧ w4.heap.size = w.heap.size + 1 ∧ wz.heap.size = w.heap.size + 1 ∧ w4.heap[w.heap.size]? = some (.cells #[x0, x1, x2, x3] 29 (0, 0)) ∧
    (wz.cell? ⟨w.heap.size, 0, none⟩ = some (.int .i64 0) ∧ wz.cell? ⟨w.heap.size, 1, none⟩ = some (.int .i64 0) ∧ wz.cell? ⟨w.heap.size, 2, none⟩ = some (.string ⟨#[]⟩) ∧ wz.cell? ⟨w.heap.size, 3, none⟩ = some (.slice none 0 0)) ∧ (wz.frozen? ⟨w.heap.size, 0, none⟩ = false ∧ wz.frozen? ⟨w.heap.size, 1, none⟩ = false ∧ wz.frozen? ⟨w.heap.size, 2, none⟩ = false ∧ wz.frozen? ⟨w.heap.size, 3, none⟩ = false) := by
  obtain ⟨wz, hWz, hbz, hszz, hrz⟩ := rbox w
  obtain ⟨y0, y1, y2, y3, z0, z1, z2, z3, hzz⟩ := hrz wz (Below.refl _ _)
  exact ⟨wz, _, hWz, rfl, below_set4 hbz (Nat.le_refl _) _ _ _ _, by rw [set4_size]; omega, hszz, set4_blk (rbox_blk hWz (Below.refl _ _)) _ _ _ _, ⟨y0, y1, y2, y3⟩, ⟨z0, z1, z2, z3⟩⟩
/-- It answers the value that is read, in new memory; of what there was only the reader is turned. -/
def ReadPost (T : Ty) (w : World) (r : Nat) (st : RSt) (e : Ending) (w' : World) : Prop := (∃ ao cap, e = .returned (.agg #[.int .i64 (rdV T st).1.k, .int .i64 (rdV T st).1.n, .string ⟨(rdV T st).1.t.toArray⟩, .slice ao (rdV T st).1.l.length cap]) ∧ IsW (From w.heap.size) w' (rdV T st).1 (.slice ao (rdV T st).1.l.length cap)) ∧ RdS w' r (rdV T st).2 ∧ Only r w w'
theorem set_1 {w : World} {g : Nat} {y0 y1 y2 y3 : Value} {T : TypeId} (h : w.heap[g]? = some (.cells #[y0, y1, y2, y3] T (0, 0))) (x : Value) : (w.setCell ⟨g, 1, none⟩ x).heap[g]? = some (.cells #[y0, x, y2, y3] T (0, 0)) := by
  simp [World.setCell, Array.getElem?_modify, h]
theorem set_2 {w : World} {g : Nat} {y0 y1 y2 y3 : Value} {T : TypeId} (h : w.heap[g]? = some (.cells #[y0, y1, y2, y3] T (0, 0))) (x : Value) : (w.setCell ⟨g, 2, none⟩ x).heap[g]? = some (.cells #[y0, y1, x, y3] T (0, 0)) := by
  simp [World.setCell, Array.getElem?_modify, h]
theorem Only.set4 {r : Nat} {w w' : World} (h : Only r w w') {g : Nat} (hg : w.heap.size ≤ g) (x0 x1 x2 x3 : Value) : Only r w (Go.Proofs.Ytndahpcjkcihlaa.set4 w' g x0 x1 x2 x3) := (((h.setCell hg 0 x0).setCell hg 1 x1).setCell hg 2 x2).setCell hg 3 x3
theorem RdS.set4 {w : World} {r g : Nat} {st : Option (List UInt8)} (h : RdS w r st) (hg : r < g) (x0 x1 x2 x3 : Value) : RdS (Go.Proofs.Ytndahpcjkcihlaa.set4 w g x0 x1 x2 x3) r st := (((h.setCell hg 0 x0).setCell hg 1 x1).setCell hg 2 x2).setCell hg 3 x3
theorem Only.cells {r : Nat} {w w' : World} (h : Only r w w') {g : Nat} (h1 : g < w.heap.size) (h2 : g ≠ r) {o : Obj} (hg : w.heap[g]? = some o) : w'.heap[g]? = some o := (h.block g h1 h2).trans hg
theorem rdI_r (st : RSt) : InR (rdI st).1 := by
  have h := rdN_le (rdU 1 st).2
  unfold rdI InR
  dsimp only
  split <;> omega
theorem str_b {B : Nat → Prop} {w : World} {sl : Value} {bs : List UInt8} (h : IsB B w sl bs) : (convert 34 9 sl).run Try.prog w = .ok (.string ⟨bs.toArray⟩) w := by
  obtain ⟨ao, cap, rfl, h1, h2, h3, h4⟩ := h
  cases ao with
  | none =>
    have := h3 rfl
    have : bs = [] := List.length_eq_zero_iff.1 (by omega)
    subst this
    exact run_convert_bytes_nil (P := Try.prog) w 34 5 Try.underlying34 Try.underlying5 _ _ 9 Try.underlying9
  | some a =>
    refine run_convert_bytes_back (P := Try.prog) w 34 9 5 a cap bs Try.underlying34 Try.underlying5 Try.underlying9 (fun j hj => ?_)
    obtain ⟨g, o, e1, _, _, e4⟩ := h4 (by rintro rfl; simp at hj)
    obtain rfl := Option.some.inj e1
    have := e4 j bs[j] (List.getElem?_eq_getElem hj)
    by_cases h0 : j = 0
    · subst h0; simpa [Addr.add] using this
    · simpa [Addr.add, h0] using this
theorem bytesR_any {w : World} {r : Nat} {st : Option (List UInt8)} (h : RdS w r st) (n : Nat) (hl : lft st ≤ 1000000) :
    Calls Try.prog 80 #[.pointer (some ⟨r, 0, none⟩), .int .i64 n] w fun e w' => (∃ sl', e = .returned sl' ∧ IsB (From w.heap.size) w' sl' (rdB n st).1) ∧ RdS w' r (rdB n st).2 ∧ Only r w w' := by
  by_cases hn : n ≤ (st.getD []).length
  · have e : rdB n st = ((st.getD []).take n, st.map (·.drop n)) := by
      rcases st with _ | bs
      · simp [rdB]
      · simp only [Option.getD_some] at hn
        simp only [rdB]
        rw [if_neg (by omega)]
        simp
    rw [e]
    exact bytes_ok h hn hl
  · have e : rdB n st = ([], none) := by
      rcases st with _ | bs
      · simp [rdB]
      · simp only [Option.getD_some] at hn
        simp only [rdB]
        rw [if_pos (by omega)]
    rw [e]
    refine (bytesR_neg h (n := n) (Or.inr (by omega))).mono ?_
    rintro e w' ⟨rfl, h1, h2⟩
    exact ⟨⟨_, rfl, IsB.nil⟩, h1, h2⟩
end Go.Proofs.Ytndahpcjkcihlaa
/- Values read: the program's, lists. -/
namespace Go.Proofs.Ytndahpcjkcihlaa
open Go.RowKit
set_option linter.unusedVariables false
set_option linter.unusedSimpArgs false
attribute [local go_sem ↓] Go.wp_at_zero Go.wp_at_succ

theorem Only.low {r m : Nat} {w w1 w2 : World} (h : Only r w w1) (hb : Below m w1 w2) (hm : w.heap.size ≤ m) : Only r w w2 := ⟨hb.os.trans h.os, hb.tape.trans h.tape, hb.output.trans h.output, Nat.le_trans h.size hb.size, fun k h1 h2 => (hb.block k (by omega)).trans (h.block k h1 h2)⟩
theorem RdS.low {r m : Nat} {w1 w2 : World} {st : RSt} (h : RdS w1 r st) (hb : Below m w1 w2) (hm : r < m) : RdS w2 r st := h.up (fun k hk => hb.block k (by omega)) hb.size
theorem rdLs_snoc (f : RSt → V × RSt) : ∀ (n : Nat) (st : RSt), rdLs f (n + 1) st = ((rdLs f n st).1 ++ [(f (rdLs f n st).2).1], (f (rdLs f n st).2).2)
  | 0, st => rfl
  | n + 1, st => by
    have h := rdLs_snoc f n (f st).2
    rw [rdLs, h]
    rfl
theorem rdMs_snoc (f g : RSt → V × RSt) : ∀ (n : Nat) (st : RSt), rdMs f g (n + 1) st = ((rdMs f g n st).1 ++ [(f (rdMs f g n st).2).1, (g (f (rdMs f g n st).2).2).1], (g (f (rdMs f g n st).2).2).2)
  | 0, st => rfl
  | n + 1, st => by
    have h := rdMs_snoc f g n (g (f st).2).2
    rw [rdMs, h]
    rfl
end Go.Proofs.Ytndahpcjkcihlaa
/- Values read: the program's, maps. -/
namespace Go.Proofs.Ytndahpcjkcihlaa
open Go.RowKit
set_option linter.unusedVariables false
set_option linter.unusedSimpArgs false
attribute [local go_sem ↓] Go.wp_at_zero Go.wp_at_succ

end Go.Proofs.Ytndahpcjkcihlaa
