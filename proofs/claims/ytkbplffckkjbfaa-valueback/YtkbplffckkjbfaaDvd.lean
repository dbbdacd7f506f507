/- Decode: the program's. -/
import Derived.Test.YtkbplffckkjbfaaDvp
import Derived.Test.YtkbplffckkjbfaaVu
import Derived.Test.YtkbplffckkjbfaaVf
namespace Go.Proofs.Ytkbplffckkjbfaa
open Go.RowKit
set_option linter.unusedVariables false
set_option linter.unusedSimpArgs false

/-- What bytes are, of a type. -/
noncomputable def dcV (y bs : List UInt8) : V × Int := match tyOf y with
  | none => (V.zero, 1)
  | some T => if (rdV T (some bs)).2 = some [] then (if fitS y (rdV T (some bs)).1 = true then ((rdV T (some bs)).1, 0) else (V.zero, 11)) else (V.zero, 11)
set_option maxRecDepth 100000 in
set_option maxHeartbeats 1000000 in
theorem decode_none {B : Nat → Prop} {y : List UInt8} (hy : y.length ≤ 9223372036854775807) {w : World} {sl : Value} {bs : List UInt8} (hb : IsB B w sl bs) (hT : tyOf y = none) :
    Calls Try.prog 42 #[sl, .string ⟨y.toArray⟩] w fun r w' => OutV w (dcV y bs) r w' := by
  have hS := stype_l y hy
  have hg : gType y = false := by unfold gType; rw [hT]; rfl
  rw [hg] at hS
  have hd : dcV y bs = (V.zero, 1) := by unfold dcV; rw [hT]
  rw [hd]
  obtain ⟨ao, cap, rfl, hc1, hc2⟩ := hb.slice
  obtain ⟨w0, hW, hb0, hs0, hr⟩ := rbox w
  obtain ⟨c0, c1, c2, c3, f0, f1, f2, f3, hz⟩ := hr w0 (Below.refl _ _)
  have hres := outV_zero (e := 1) (below_set4 hb0 (Nat.le_refl _) (.int .i64 0) (.int .i64 0) (.string ⟨#[]⟩) (.slice none 0 0))
  clear hr hb hd
  go_enter Try.func42, Try.ntmps42
  go_wp2_with fail
  refine (hS _).mono ?_
  rintro e w1 ⟨rfl, rfl⟩
  clear hS
  go_wp2_with fail
  exact bodyPost_ret (v := .tuple #[.agg #[.int .i64 0, .int .i64 0, .string ⟨#[]⟩, .slice none 0 0], .int .i64 1]) (by simp [results, Try.results42, go_sem, hz, c0, c1, c2, c3]) rfl hres
set_option maxRecDepth 100000 in
set_option maxHeartbeats 1000000 in
theorem decode_some {B : Nat → Prop} {T : Ty} (hT : T.dp ≤ 4) {w : World} {sl : Value} {bs : List UInt8} (hb : IsB B w sl bs) (hl : bs.length ≤ 1000000) :
    Calls Try.prog 42 #[sl, .string ⟨(tyT T).toArray⟩] w fun r w' => OutV w (dcV (tyT T) bs) r w' := by
  have hlen := (tyT_len T).2
  have hS := stype_l (tyT T) (by omega)
  have hg : gType (tyT T) = true := by unfold gType; rw [tyOf_ty hT]; rfl
  rw [hg] at hS
  have hd : Hid (dcV (tyT T) bs = if (rdV T (some bs)).2 = some [] then (if fitS (tyT T) (rdV T (some bs)).1 = true then ((rdV T (some bs)).1, 0) else (V.zero, 11)) else (V.zero, 11)) := by show _ = _; unfold dcV; rw [tyOf_ty hT]
  have hwt : wt (rdV T (some bs)).1 ≤ 4611686018427387904 := by
    have h1 := rdV_wt T (some bs)
    have h2 : 300 ^ T.dp ≤ 300 ^ 4 := Nat.pow_le_pow_right (by omega) hT
    omega
  have hRd : Hid (ReadOk T) := read_any T hT
  have hyl : (tyT T).length ≤ 9223372036854775807 := by omega
  have HF : Hid (∀ {B : Nat → Prop} {v : V} {sl : Value} {w : World}, IsW B w v sl → wt v ≤ 4611686018427387904 → Calls Try.prog 22 #[.agg #[.int .i64 v.k, .int .i64 v.n, .string ⟨v.t.toArray⟩, sl], .string ⟨(tyT T).toArray⟩] w fun r w' => r = .returned (.bool (fitS (tyT T) v)) ∧ Below w.heap.size w w') := fun hv hw => fits_any hyl hv hw
  obtain ⟨w0, hW, hb0, hs0, hr⟩ := rbox w
  have hN := new_any (hb.since (Since.of_below hb0)) hl
  obtain ⟨ao, cap, rfl, hc1, hc2⟩ := hb.slice
  clear hb hlen hyl hg hT
  go_enter Try.func42, Try.ntmps42
  go_wp2_with fail
  refine (hS _).mono ?_
  rintro e w1 ⟨rfl, hw⟩
  obtain rfl := hw.symm
  clear hS
  go_wp2_with fail
  refine hN.mono ?_
  rintro e w1 ⟨⟨r, rfl, hr0, hrd1⟩, hb1⟩
  clear hN
  have hR := hRd.out w1 r (some bs) hrd1 hl
  unfold ReadPost at hR
  obtain ⟨p, Hp⟩ : ∃ p, Hid (rdV T (some bs) = p) := ⟨_, rfl⟩
  rw [Hp.out] at hR hd hwt
  clear hRd hrd1
  go_wp2_with fail
  refine hR.mono ?_
  rintro e w2 ⟨⟨ax, cx, rfl, hx2⟩, hrd2, ho2⟩
  clear hR
  have hs1 := hb1.size
  have hs2 := ho2.size
  have hb2 : Below w0.heap.size w0 w2 := hb1.trans (ho2.below hs1 hr0)
  obtain ⟨wz, w3, hWz, hW3, hb3, hs3, hsz, hblk3, ⟨y0, y1, y2, y3⟩, ⟨z0, z1, z2, z3⟩⟩ := rdbox w2 (.int .i64 p.1.k) (.int .i64 p.1.n) (.string ⟨p.1.t.toArray⟩) (.slice ax p.1.l.length cx)
  have hE := end_any (hrd2.keep hb3)
  have hx3 := hx2.below hb3
  have hB3 : Below w0.heap.size w0 w3 := hb2.trans (hb3.mono (by omega))
  obtain ⟨r0, r1, r2, r3, s0, s1, s2, s3, hz⟩ := hr w3 hB3
  have hf3 := HF.out hx3 hwt
  obtain ⟨t0, t1, t2, t3, -⟩ := cells_of4 hblk3
  have h11 : ∀ w', Below w0.heap.size w0 w' → OutV w (V.zero, 11) (.returned (.tuple #[.agg #[.int .i64 0, .int .i64 0, .string ⟨#[]⟩, .slice none 0 0], .int .i64 11])) (set4 w' w.heap.size (.int .i64 0) (.int .i64 0) (.string ⟨#[]⟩) (.slice none 0 0)) := fun w' hb' => outV_zero (e := 11) (below_set4 (hb0.trans (hb'.mono (by omega))) (Nat.le_refl _) _ _ _ _)
  by_cases he : p.2 = some []
  · rw [if_pos he] at hd
    have heb : (p.2 == some []) = true := by simp [he]
    rw [heb] at hE
    clear he heb
    go_wp2_with fail
    refine hE.mono ?_
    rintro e w4 ⟨rfl, hw⟩
    obtain rfl := hw.symm
    clear hE
    go_wp2_with fail
    refine hf3.mono ?_
    rintro e w5 ⟨rfl, hb5⟩
    clear hf3 r0 r1 r2 r3 s0 s1 s2 s3 hz
    have hB5 : Below w0.heap.size w0 w5 := hB3.trans (hb5.mono (by omega))
    obtain ⟨r0, r1, r2, r3, s0, s1, s2, s3, hz⟩ := hr w5 hB5
    have hblk5 := (hb5.block _ (by omega)).trans hblk3
    obtain ⟨v0, v1, v2, v3, -⟩ := cells_of4 hblk5
    clear t0 t1 t2 t3 y0 y1 y2 y3 z0 z1 z2 z3 hr hWz hW3
    cases hfit : fitS (tyT T) p.1
    · rw [hfit, if_neg (by simp)] at hd
      have hres := h11 w5 hB5
      rw [← hd.out] at hres
      clear h11 hd hx2 hx3
      go_wp2_with fail
      exact bodyPost_ret (v := .tuple #[.agg #[.int .i64 0, .int .i64 0, .string ⟨#[]⟩, .slice none 0 0], .int .i64 11]) (by simp [results, Try.results42, go_sem, hz, r0, r1, r2, r3]) rfl hres
    · rw [hfit, if_pos rfl] at hd
      have hres : OutV w (p.1, 0) (.returned (.tuple #[.agg #[.int .i64 p.1.k, .int .i64 p.1.n, .string ⟨p.1.t.toArray⟩, .slice ax p.1.l.length cx], .int .i64 0])) (set4 w5 w.heap.size (.int .i64 p.1.k) (.int .i64 p.1.n) (.string ⟨p.1.t.toArray⟩) (.slice ax p.1.l.length cx)) := by
        refine ⟨⟨ax, cx, rfl, ?_⟩, below_set4 (hb0.trans (hB5.mono (by omega))) (Nat.le_refl _) _ _ _ _⟩
        exact ((hx3.below hb5).since (since_set4 (g := w.heap.size) (by show ¬ (w1.heap.size ≤ w.heap.size); omega) _ _ _ _)).base (fun k hk _ => by show w.heap.size ≤ k; have : w1.heap.size ≤ k := hk; omega)
      rw [← hd.out] at hres
      clear h11 hd hx2 hx3
      go_wp2_with fail
      exact bodyPost_ret (v := .tuple #[.agg #[.int .i64 p.1.k, .int .i64 p.1.n, .string ⟨p.1.t.toArray⟩, .slice ax p.1.l.length cx], .int .i64 0]) (by simp [results, Try.results42, go_sem, hz, r0, r1, r2, r3]) rfl hres
  · rw [if_neg he] at hd
    have heb : (p.2 == some []) = false := by simp [he]
    rw [heb] at hE
    have hres := h11 w3 hB3
    rw [← hd.out] at hres
    clear he heb hf3 h11 hd hx2 hx3
    go_wp2_with fail
    refine hE.mono ?_
    rintro e w4 ⟨rfl, hw⟩
    obtain rfl := hw.symm
    clear hE
    go_wp2_with fail
    exact bodyPost_ret (v := .tuple #[.agg #[.int .i64 0, .int .i64 0, .string ⟨#[]⟩, .slice none 0 0], .int .i64 11]) (by simp [results, Try.results42, go_sem, hz, r0, r1, r2, r3]) rfl hres
theorem decode_any {B : Nat → Prop} {y : List UInt8} (hy : y.length ≤ 9223372036854775807) {w : World} {sl : Value} {bs : List UInt8} (hb : IsB B w sl bs) (hl : bs.length ≤ 1000000) :
    Calls Try.prog 42 #[sl, .string ⟨y.toArray⟩] w fun r w' => OutV w (dcV y bs) r w' := by
  rcases hT : tyOf y with _ | T
  · exact decode_none hy hb hT
  · obtain ⟨h1, h2⟩ := (tyOf_iff _ _).1 hT
    subst h1
    exact decode_some h2 hb hl
end Go.Proofs.Ytkbplffckkjbfaa
