/- Encode: the program's. -/
import Derived.Test.YtkbplffckkjbfaaVwr
import Derived.Test.YtkbplffckkjbfaaVf
namespace Go.Proofs.Ytkbplffckkjbfaa
open Go.RowKit
set_option linter.unusedVariables false
set_option linter.unusedSimpArgs false

mutual
/-- Numbers and lengths are what they can be. -/
def OkV : V → Prop
  | .mk k n t l => InR n ∧ InR k ∧ t.length ≤ 9223372036854775807 ∧ l.length ≤ 9223372036854775807 ∧ OkVs l
def OkVs : List V → Prop
  | [] => True
  | v :: r => OkV v ∧ OkVs r
end
mutual
theorem okV_of {B : Nat → Prop} {w : World} : ∀ {v : V} {cs : List Value}, IsV B w v cs → OkV v
  | .mk k n t l, cs, h => by
    rw [IsV] at h
    obtain ⟨sl, row, _, h2, h3, h4, h5, h6⟩ := h
    obtain ⟨ao, cap, _, c1, c2⟩ := h5.slice
    unfold maxLen at h2 c2
    rw [OkV]; exact ⟨h4, h3, by omega, by omega, okVs_of h6⟩
theorem okVs_of {B : Nat → Prop} {w : World} : ∀ {l : List V} {row : List Value}, AllV B w l row → OkVs l
  | [], row, h => by rw [OkVs]; trivial
  | a :: r, row, h => by
    rw [AllV] at h
    obtain ⟨c1, c2, _, h1, h2⟩ := h
    rw [OkVs]; exact ⟨okV_of h1, okVs_of h2⟩
end
theorem IsW.ok {B : Nat → Prop} {w : World} {v : V} {sl : Value} (h : IsW B w v sl) : OkV v := okV_of (isV_iff.2 ⟨sl, rfl, h⟩)
mutual
theorem enc_len : ∀ v : V, OkV v → (enc v).length ≤ 18 * wt v
  | .mk k n t l, h => by
    rw [OkV] at h
    obtain ⟨⟨h1, h2⟩, _, h3, h4, h5⟩ := h
    rw [enc, wt, List.length_append]
    have hl := encs_len l h5
    have a1 := num_len10 (n := (-(n + 1)).toNat) (by omega)
    have a2 := num_len10 (n := n.toNat) (by omega)
    have a3 := num_len10 (n := t.length) h3
    have a4 := num_len10 (n := l.length) h4
    have a5 := num_len10 (n := l.length / 2) (by omega)
    have a6 := num_len10 (n := 1) (by omega)
    have a7 := num_len10 (n := 0) (by omega)
    have : (if k = 1 then (if n < 0 then num 1 ++ num (-(n + 1)).toNat else num 0 ++ num n.toNat) else if k = 2 then num n.toNat else if k = 3 then num t.length ++ t else if k = 4 then num l.length else if k = 5 then num (l.length / 2) else []).length ≤ 18 + t.length := by
      split
      · split <;> (simp; omega)
      · split
        · omega
        · split
          · simp; omega
          · split
            · omega
            · split
              · omega
              · simp
    omega
theorem encs_len : ∀ l : List V, OkVs l → (encs l).length ≤ 18 * wts l
  | [], h => by simp [encs, wts]
  | a :: r, h => by
    rw [OkVs] at h
    have h1 := enc_len a h.1
    have h2 := encs_len r h.2
    rw [encs, wts, List.length_append]; omega
end
noncomputable def encR (y : List UInt8) (v : V) : List UInt8 × Int := if fitS y v = true then (enc v, 0) else ([], 1)
theorem fit_wt {y : List UInt8} {v : V} (h : fitS y v = true) : wt v ≤ 16384 := by
  unfold fitS at h; simp at h; exact h.2
set_option maxRecDepth 100000 in
set_option maxHeartbeats 1000000 in
theorem encode_any {B : Nat → Prop} {y : List UInt8} (hy : y.length ≤ 9223372036854775807) {v : V} {ao : Option Addr} {cap : Nat} {w : World} (hv : IsW B w v (.slice ao v.l.length cap)) (hw : wt v ≤ 4611686018427387904) :
    Calls Try.prog 40 #[.agg #[.int .i64 v.k, .int .i64 v.n, .string ⟨v.t.toArray⟩, .slice ao v.l.length cap], .string ⟨y.toArray⟩] w fun r w' => (∃ a c, r = .returned (.tuple #[.slice a (encR y v).1.length c, .int .i64 (encR y v).2]) ∧ Own8 w' w.heap.size a c (encR y v).1) ∧ Below w.heap.size w w' := by
  obtain ⟨w0, hW, hb0, hsz, d0, d1, d2, d3⟩ := boxed w v (.slice ao v.l.length cap)
  have hF := fits_any hy (hv.below hb0) hw
  have hgb : w.heap.size < w0.heap.size := by omega
  rcases hf : fitS y v with _ | _
  · have hR : encR y v = ([], 1) := by unfold encR; rw [if_neg (by simp [hf])]
    rw [hR]
    rw [hf] at hF
    clear hv hR
    go_enter Try.func40, Try.ntmps40
    go_wp2_with fail
    refine hF.mono ?_
    rintro e w2 ⟨rfl, hb2⟩
    go_wp2
    go_ret2
    exact ⟨⟨none, 0, rfl, World.ownsRow_nil _ _ _ _⟩, hb0.trans (hb2.mono (by omega))⟩
  · have hR : encR y v = (enc v, 0) := by unfold encR; rw [if_pos hf]
    have hwt := fit_wt hf
    have hle := enc_len v hv.ok
    rw [hR]
    rw [hf] at hF
    have hWr : ∀ w2, Below w0.heap.size w0 w2 → Calls Try.prog 65 #[.slice none 0 0, .agg #[.int .i64 v.k, .int .i64 v.n, .string ⟨v.t.toArray⟩, .slice ao v.l.length cap]] w2 fun r w' => OutB w2.heap.size w2 (enc v) r w' := by
      intro w2 hb2
      have hx := wr_all w2.heap.size _ v (Nat.lt_succ_self _) [] none ao 0 cap w2 (World.ownsRow_nil _ _ _ _) (Nat.le_refl _) (by simp; omega) (((hv.below hb0).below hb2).base (fun k _ h => h))
      simpa using hx
    clear hv hR
    go_enter Try.func40, Try.ntmps40
    go_wp2_with fail
    refine hF.mono ?_
    rintro e w2 ⟨rfl, hb2⟩
    have e0 := ((bcell hb2).1 _ 0 hgb).trans d0
    have e1 := ((bcell hb2).1 _ 1 hgb).trans d1
    have e2 := ((bcell hb2).1 _ 2 hgb).trans d2
    have e3 := ((bcell hb2).1 _ 3 hgb).trans d3
    clear hF hW d0 d1 d2 d3
    go_wp2_with fail
    refine (hWr w2 hb2).mono ?_
    rintro e w3 ⟨⟨a3, c3, rfl, h3⟩, hb3⟩
    clear hWr
    have hs := hb2.size
    go_wp2
    go_ret2
    exact ⟨⟨a3, c3, rfl, owns_base h3 (by omega)⟩, hb0.trans ((hb2.trans (hb3.mono hb2.size)).mono (by omega))⟩
end Go.Proofs.Ytkbplffckkjbfaa
