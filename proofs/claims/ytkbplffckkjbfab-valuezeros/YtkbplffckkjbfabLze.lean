/- The statement on zeros. -/
import Derived.Test.YtkbplffckkjbfabDvd
import Derived.Test.YtkbplffckkjbfabDvb
import Derived.Test.YtkbplffckkjbfabLct
import Derived.Test.YtkbplffckkjbfabLwa
import Derived.Test.YtkbplffckkjbfabVc
namespace Go.Proofs.Ytkbplffckkjbfab
open Go.RowKit
set_option linter.unusedVariables false
set_option linter.unusedSimpArgs false

def zV (T : Ty) : V := .mk (kd T) 0 [] []
theorem zV_shp : ∀ T : Ty, Shp T (zV T)
  | .int => by rw [Shp]; simp [zV, kd, V.k, V.n, V.t, V.l]
  | .bool => by rw [Shp]; simp [zV, kd, V.k, V.n, V.t, V.l]
  | .text => by rw [Shp]; simp [zV, kd, V.k, V.n, V.t, V.l]
  | .list E => by rw [Shp]; simp [zV, kd, V.k, V.n, V.t, V.l]
  | .map k E => by rw [Shp]; simp [zV, kd, V.k, V.n, V.t, V.l]
theorem kd_r (T : Ty) : InR (kd T) := by cases T <;> (simp only [kd, InR]; omega)
theorem zV_wt (T : Ty) : wt (zV T) = 1 := by simp [zV, wt, wts]
theorem zV_ok (T : Ty) : OkV (zV T) := by
  unfold zV
  rw [OkV, OkVs]
  exact ⟨by unfold InR; omega, kd_r T, Nat.zero_le _, Nat.zero_le _, trivial⟩
theorem zV_isW {B : Nat → Prop} {w : World} (T : Ty) : IsW B w (zV T) (.slice none 0 0) := ⟨Nat.zero_le _, kd_r T, by show InR 0; unfold InR; omega, IsVs.nil⟩
theorem zV_fit {T : Ty} (hT : T.dp ≤ 4) : fitS (tyT T) (zV T) = true := by
  unfold fitS
  rw [shpS_ty hT, shpB_iff.2 (zV_shp T), zV_wt]
  rfl
theorem zV_dec {T : Ty} (hT : T.dp ≤ 4) : dcV (tyT T) (enc (zV T)) = (zV T, 0) := by
  have h := rdV_enc T (zV T) [] (zV_shp T) (zV_ok T)
  rw [List.append_nil] at h
  unfold dcV
  rw [tyOf_ty hT]
  simp only
  rw [h]
  simp only
  rw [if_pos trivial, if_pos (zV_fit hT)]
theorem lx2_le {a b : Int} (h1 : a ≤ 0) (h2 : b ≤ 0) : lx2 a b ≤ 0 := by unfold lx2; split <;> assumption
theorem shp_n {T : Ty} {v : V} (h : Shp T v) (hk : v.k ≠ 1) : 0 ≤ v.n := by
  cases T with
  | int => rw [Shp] at h; exact absurd h.1 hk
  | bool => rw [Shp] at h; rcases h.2.2.2 with h | h <;> omega
  | text => rw [Shp] at h; have := h.2.1; omega
  | list E => rw [Shp] at h; have := h.2.1; omega
  | map k E => rw [Shp] at h; have := h.2.1; omega
theorem zV_le {T : Ty} {v : V} (h : Shp T v) (hk : v.k ≠ 1) : cmpV (zV T) v ≤ 0 := by
  have h0 := shp_n h hk
  have h1 := h.kind
  rw [cmpV_eq]
  refine lx2_le ?_ (lx2_le ?_ (lx2_le ?_ ?_))
  · show Lib.compareInt (kd T) v.k ≤ 0
    rw [h1, (int_zero _ _).2 rfl]; omega
  · show Lib.compareInt 0 v.n ≤ 0
    unfold Lib.compareInt; split
    · omega
    · rw [if_neg (by omega)]; omega
  · show Lib.compareBytes [] v.t ≤ 0
    cases v.t <;> simp [Lib.compareBytes]
  · show cmpVs [] v.l ≤ 0
    cases v.l <;> simp [cmpVs]
set_option maxRecDepth 100000 in
set_option maxHeartbeats 2000000 in
theorem zeros_walk {l : List UInt8} (hl : l.length ≤ 9223372036854775807) {v : V} {ao : Option Addr} {cap : Nat} {w : World} (hv : IsW Any w v (.slice ao v.l.length cap)) (hz : SzV v) :
    Calls Try.prog 4 #[.string ⟨l.toArray⟩, .agg #[.int .i64 v.k, .int .i64 v.n, .string ⟨v.t.toArray⟩, .slice ao v.l.length cap]] w fun r w' => r = .returned (.bool true) ∧ Below w.heap.size w w' := by
  obtain ⟨W, hW, hBW, hsW, d0, d1, d2, d3⟩ := boxed w v (.slice ao v.l.length cap)
  replace hv := hv.below hBW
  have hBf : ∀ w', Below W.heap.size W w' → Below w.heap.size w w' := fun w' h => hBW.trans (h.mono hBW.size)
  have hgb : w.heap.size < W.heap.size := by omega
  have hcell : ∀ w', Below W.heap.size W w' → w'.cell? ⟨w.heap.size, 0, none⟩ = some (.int .i64 v.k) ∧ w'.cell? ⟨w.heap.size, 1, none⟩ = some (.int .i64 v.n) ∧ w'.cell? ⟨w.heap.size, 2, none⟩ = some (.string ⟨v.t.toArray⟩) ∧ w'.cell? ⟨w.heap.size, 3, none⟩ = some (.slice ao v.l.length cap) := fun w' h => by
    obtain ⟨f, -⟩ := bcell h
    exact ⟨by rw [f _ _ hgb]; exact d0, by rw [f _ _ hgb]; exact d1, by rw [f _ _ hgb]; exact d2, by rw [f _ _ hgb]; exact d3⟩
  have up : ∀ w2 w', Below W.heap.size W w2 → Below w2.heap.size w2 w' → Below W.heap.size W w' := fun w2 w' h1 h2 => h1.trans (h2.mono h1.size)
  have hWk := wakes_any W
  have hL : ∀ w2, Below W.heap.size W w2 → Calls Try.prog 6 #[.agg #[.int .i64 v.k, .int .i64 v.n, .string ⟨v.t.toArray⟩, .slice ao v.l.length cap]] w2 fun r w' => r = .returned (.bool (decide (65536 < wt v))) ∧ Below W.heap.size W w' := fun w2 hb2 => (large_any hz (hv.below hb2)).mono (fun r w' h => ⟨h.1, up _ _ hb2 h.2⟩)
  have hZ := zero_any l hl
  have hTy := rtype_l l hl
  go_enter Try.func4, Try.ntmps4
  go_wp2_with fail
  refine hWk.mono ?_
  rintro e w3 ⟨rfl, hbX⟩
  obtain ⟨p0, p1, p2, p3⟩ := hcell w3 hbX
  clear hW hWk
  go_wp2_with fail
  refine (hL w3 hbX).mono ?_
  rintro e w4 ⟨rfl, hbX4⟩
  clear hL hbX p0 p1 p2 p3 d0 d1 d2 d3
  by_cases hla : 65536 < wt v
  · rw [decide_eq_true hla]
    go_wp2
    go_ret
    exact ⟨rfl, hBf _ hbX4⟩
  rw [decide_eq_false hla]
  go_wp2_with fail
  refine (hZ _).mono ?_
  rintro e w5 ⟨rfl, hb5⟩
  have hB5 := up _ _ hbX4 hb5
  clear hZ hbX4
  have hFv : ∀ w2, Below W.heap.size W w2 → Calls Try.prog 18 #[.agg #[.int .i64 v.k, .int .i64 v.n, .string ⟨v.t.toArray⟩, .slice ao v.l.length cap], .string ⟨l.toArray⟩] w2 fun r w' => r = .returned (.bool (fitS l v)) ∧ Below w2.heap.size w2 w' := fun w2 hb2 => fits_any hl (hv.below hb2) (by omega)
  obtain ⟨kz, Hk⟩ : ∃ kz, Hid (kdOf l = kz) := ⟨_, rfl⟩
  simp only [Hk.out]
  have hkr : InR kz := by rw [← Hk.out]; unfold kdOf; split; · unfold InR; omega
                          · exact kd_r _
  obtain ⟨wz, w6, hWz, hW6, hb6, hs6, hsz, hblk6, ⟨y0, y1, y2, y3⟩, ⟨z0, z1, z2, z3⟩⟩ := rdbox w5 (.int .i64 kz) (.int .i64 0) (.string ⟨#[]⟩) (.slice none 0 0)
  have hB6 := up _ _ hB5 hb6
  have hsW5 := hB5.size
  have hg5 : w5.heap.size < w6.heap.size := by omega
  have hzc : ∀ w', Below w6.heap.size w6 w' → w'.cell? ⟨w5.heap.size, 0, none⟩ = some (.int .i64 kz) ∧ w'.cell? ⟨w5.heap.size, 1, none⟩ = some (.int .i64 0) ∧ w'.cell? ⟨w5.heap.size, 2, none⟩ = some (.string ⟨#[]⟩) ∧ w'.cell? ⟨w5.heap.size, 3, none⟩ = some (.slice none 0 0) := fun w' h => by
    obtain ⟨c0, c1, c2, c3, -⟩ := cells_of4 ((h.block _ hg5).trans hblk6)
    exact ⟨c0, c1, c2, c3⟩
  have hFz : ∀ w2, Calls Try.prog 18 #[.agg #[.int .i64 kz, .int .i64 0, .string ⟨#[]⟩, .slice none 0 0], .string ⟨l.toArray⟩] w2 fun r w' => r = .returned (.bool (fitS l (.mk kz 0 [] []))) ∧ Below w2.heap.size w2 w' := fun w2 => fits_any (v := .mk kz 0 [] []) (B := Any) hl ⟨Nat.zero_le _, hkr, by show InR 0; unfold InR; omega, IsVs.nil⟩ (by simp [wt, wts])
  obtain ⟨q0, q1, q2, q3⟩ := hzc w6 (Below.refl _ _)
  go_wp2_with fail
  refine (hTy _).mono ?_
  rintro e w7 ⟨rfl, hw⟩
  obtain rfl := hw.symm
  clear hTy hw y0 y1 y2 y3 z0 z1 z2 z3 hWz hW6
  rcases hT : tyOf l with _ | T
  · have hg : gType l = false := by unfold gType; rw [hT]; rfl
    have hk0 : kz = 0 := by rw [← Hk.out]; unfold kdOf; rw [hT]
    subst hk0
    have hf : ∀ x, fitS l x = false := fun x => by unfold fitS shpS; rw [hT]; rfl
    rw [hf] at hFv
    simp only [hf] at hFz
    rw [hg]
    clear hf hg Hk
    go_wp2_with fail
    refine (hFz _).mono ?_
    rintro e w8 ⟨rfl, hb8⟩
    have hB8 := up _ _ hB6 hb8
    obtain ⟨p0, p1, p2, p3⟩ := hcell w8 hB8
    clear hFz
    go_wp2_with fail
    refine (hFv _ hB8).mono ?_
    rintro e w9 ⟨rfl, hb9⟩
    clear hFv
    go_wp2
    go_ret
    exact ⟨rfl, hBf _ (up _ _ hB8 hb9)⟩
  · obtain ⟨hl1, hdp⟩ := (tyOf_iff _ _).1 hT
    have hg : gType l = true := by unfold gType; rw [hT]; rfl
    have hkz : kd T = kz := by rw [← Hk.out]; unfold kdOf; rw [hT]
    have HZ : Hid (zV T = .mk kz 0 [] []) := by show _ = _; unfold zV; rw [hkz]
    have hft : fitS l (.mk kz 0 [] []) = true := by rw [← HZ.out, ← hl1]; exact zV_fit hdp
    have hiz : ∀ {B : Nat → Prop} {w : World}, IsW B w (.mk kz 0 [] []) (.slice none 0 0) := fun {B w} => by rw [← HZ.out]; exact zV_isW T
    have hen : encR l (.mk kz 0 [] []) = (enc (.mk kz 0 [] []), 0) := by unfold encR; rw [if_pos hft]
    have hde : dcV l (enc (.mk kz 0 [] [])) = (.mk kz 0 [] [], 0) := by rw [← HZ.out, ← hl1]; exact zV_dec hdp
    have hbl : (enc (.mk kz 0 [] [])).length ≤ 1000000 := by
      have h1 := enc_len (zV T) (zV_ok T)
      rw [zV_wt] at h1
      rw [← HZ.out]; omega
    have hEn : ∀ w2, Calls Try.prog 19 #[.agg #[.int .i64 kz, .int .i64 0, .string ⟨#[]⟩, .slice none 0 0], .string ⟨l.toArray⟩] w2 fun r w' => (∃ a c, r = .returned (.tuple #[.slice a (enc (.mk kz 0 [] [])).length c, .int .i64 0]) ∧ Own8 w' w2.heap.size a c (enc (.mk kz 0 [] []))) ∧ Below w2.heap.size w2 w' := fun w2 => by
      have h := encode_any (v := .mk kz 0 [] []) (ao := none) (cap := 0) (B := Any) (w := w2) hl hiz (by simp [wt, wts])
      rw [hen] at h
      exact h
    have hDe : ∀ (w2 : World) (n : Nat) (a : Option Addr) (c : Nat), Own8 w2 n a c (enc (.mk kz 0 [] [])) → Calls Try.prog 20 #[.slice a (enc (.mk kz 0 [] [])).length c, .string ⟨l.toArray⟩] w2 fun r w' => (∃ ax cx, r = .returned (.tuple #[.agg #[.int .i64 kz, .int .i64 0, .string ⟨#[]⟩, .slice ax 0 cx], .int .i64 0]) ∧ IsW (From w2.heap.size) w' (.mk kz 0 [] []) (.slice ax 0 cx)) ∧ Below w2.heap.size w2 w' := fun w2 n a c ho => by
      have h := decode_any hl (owns_b (base := n) ho) hbl
      rw [hde] at h
      exact h
    have hCz : ∀ (w2 : World) (ax : Option Addr) (cx : Nat), IsW Any w2 (.mk kz 0 [] []) (.slice ax 0 cx) → Calls Try.prog 21 #[.agg #[.int .i64 kz, .int .i64 0, .string ⟨#[]⟩, .slice ax 0 cx], .agg #[.int .i64 kz, .int .i64 0, .string ⟨#[]⟩, .slice none 0 0]] w2 fun r w' => r = .returned (.int .i64 0) ∧ Below w2.heap.size w2 w' := fun w2 ax cx hx => by
      have h := compare_any hx (hiz (B := Any) (w := w2))
      rw [cmpV_self] at h
      exact h
    have hWz : ∀ w2, Calls Try.prog 22 #[.agg #[.int .i64 kz, .int .i64 0, .string ⟨#[]⟩, .slice none 0 0]] w2 fun r w' => r = .returned (.int .i64 1) ∧ Below w2.heap.size w2 w' := fun w2 => by
      have h := weight_any 2 (.mk kz 0 [] []) (.slice none 0 0) Any w2 (by simp [wt, wts]) (by simp [wt, wts]) hiz
      exact h
    have hWv : ∀ w2, Below W.heap.size W w2 → Calls Try.prog 22 #[.agg #[.int .i64 v.k, .int .i64 v.n, .string ⟨v.t.toArray⟩, .slice ao v.l.length cap]] w2 fun r w' => r = .returned (.int .i64 (wt v)) ∧ Below w2.heap.size w2 w' := fun w2 hb2 => weight_any _ v _ Any w2 (Nat.lt_succ_self _) (by omega) (hv.below hb2)
    have hCv : ∀ w2, Below W.heap.size W w2 → Calls Try.prog 21 #[.agg #[.int .i64 kz, .int .i64 0, .string ⟨#[]⟩, .slice none 0 0], .agg #[.int .i64 v.k, .int .i64 v.n, .string ⟨v.t.toArray⟩, .slice ao v.l.length cap]] w2 fun r w' => r = .returned (.int .i64 (cmpV (.mk kz 0 [] []) v)) ∧ Below W.heap.size W w' := fun w2 hb2 => (compare_any (hiz (B := Any) (w := w2)) (hv.below hb2)).mono (fun r w' h => ⟨h.1, up _ _ hb2 h.2⟩)
    have hsh : Hid (fitS l v = true → v.k = kz ∧ (v.k ≠ 1 → cmpV (.mk kz 0 [] []) v ≤ 0)) := fun h => by
      unfold fitS at h
      rw [← hl1, shpS_ty hdp, Bool.and_eq_true] at h
      have hs := shpB_iff.1 h.1
      rw [← hkz, ← show zV T = .mk (kd T) 0 [] [] from rfl]
      exact ⟨hs.kind, zV_le hs⟩
    have hwt := wt_eq v
    have hw1 : (1 : Int) ≤ (wt v : Int) := by omega
    rw [hg]
    simp only [hft] at hFz
    clear hg hft hkz HZ hen hde hl1 hT Hk hdp hwt hla hiz hv hz hblk6
    generalize enc (.mk kz 0 [] []) = bz at *
    generalize cmpV (.mk kz 0 [] []) v = cz at *
    generalize fitS l v = ft at *
    generalize wt v = wv at *
    go_wp2_with fail
    refine (hEn _).mono ?_
    rintro e w8 ⟨⟨a8, c8', rfl, ho8⟩, hb8⟩
    clear hEn
    have hb68 := hb8
    obtain ⟨ao8, cap8, he8, hc81, hc82⟩ := (owns_b ho8).slice
    go_wp2_with fail
    refine (hDe _ _ _ _ ho8).mono ?_
    rintro e w9 ⟨⟨ax, cx, rfl, hx9⟩, hb9⟩
    clear hDe ho8
    have hb69 : Below w6.heap.size w6 w9 := hb8.trans (hb9.mono hb8.size)
    obtain ⟨wy, w10, hWy, hW10, hb10, hs10, hsy, hblk10, ⟨y0, y1, y2, y3⟩, ⟨z0, z1, z2, z3⟩⟩ := rdbox w9 (.int .i64 kz) (.int .i64 0) (.string ⟨#[]⟩) (.slice ax 0 cx)
    have hs69 := hb69.size
    have hb610 : Below w6.heap.size w6 w10 := hb69.trans (hb10.mono hs69)
    clear q0 q1 q2 q3
    obtain ⟨q0, q1, q2, q3⟩ := hzc w10 hb610
    have hx10 := hx9.below hb10
    go_wp2_with fail
    refine (hFz _).mono ?_
    rintro e w11 ⟨rfl, hb11⟩
    clear hFz q0 q1 q2 q3 y0 y1 y2 y3 z0 z1 z2 z3 hWy hW10
    have hs610 := hb610.size
    have hb611 : Below w6.heap.size w6 w11 := hb610.trans (hb11.mono hs610)
    obtain ⟨q0, q1, q2, q3⟩ := hzc w11 hb611
    obtain ⟨r0, r1, r2, r3, -⟩ := cells_of4 ((hb11.block _ (by omega)).trans hblk10)
    have hC := hCz w11 ax cx ((hx10.below hb11).base (fun _ _ _ => trivial))
    clear hCz
    go_wp2_with fail
    refine hC.mono ?_
    rintro e w12 ⟨rfl, hb12⟩
    clear hC q0 q1 q2 q3 r0 r1 r2 r3
    have hb612 : Below w6.heap.size w6 w12 := hb611.trans (hb12.mono hb611.size)
    obtain ⟨q0, q1, q2, q3⟩ := hzc w12 hb612
    go_wp2_with fail
    refine (hWz _).mono ?_
    rintro e w13 ⟨rfl, hb13⟩
    clear hWz q0 q1 q2 q3
    have hb613 : Below w6.heap.size w6 w13 := hb612.trans (hb13.mono hb612.size)
    have hB13 := up _ _ hB6 hb613
    obtain ⟨p0, p1, p2, p3⟩ := hcell w13 hB13
    go_wp2_with fail
    refine (hFv _ hB13).mono ?_
    rintro e w14 ⟨rfl, hb14⟩
    clear hFv p0 p1 p2 p3
    have hb614 : Below w6.heap.size w6 w14 := hb613.trans (hb14.mono hb613.size)
    have hB14 := up _ _ hB6 hb614
    obtain ⟨p0, p1, p2, p3⟩ := hcell w14 hB14
    obtain ⟨q0, q1, q2, q3⟩ := hzc w14 hb614
    cases ft
    · go_wp2
      go_ret
      exact ⟨rfl, hBf _ hB14⟩
    · obtain ⟨hkk, hcc⟩ := hsh.out rfl
      have hkb : (v.k == kz) = true := by simp [hkk]
      clear hsh hkk
      go_wp2_with fail
      refine (hWv _ hB14).mono ?_
      rintro e w15 ⟨rfl, hb15⟩
      clear hWv p0 p1 p2 p3 q0 q1 q2 q3
      have hb615 : Below w6.heap.size w6 w15 := hb614.trans (hb15.mono hb614.size)
      have hB15 := up _ _ hB6 hb615
      obtain ⟨p0, p1, p2, p3⟩ := hcell w15 hB15
      obtain ⟨q0, q1, q2, q3⟩ := hzc w15 hb615
      by_cases hk1 : v.k = 1
      · have hk1b : (v.k == 1) = true := by simp [hk1]
        clear hk1 hcc
        go_wp2
        go_ret
        exact ⟨rfl, hBf _ hB15⟩
      · have hk1b : (v.k == 1) = false := by simp [hk1]
        replace hcc := hcc hk1
        clear hk1
        go_wp2_with fail
        refine (hCv _ hB15).mono ?_
        rintro e w16 ⟨rfl, hB16⟩
        clear hCv
        go_wp2
        go_ret
        exact ⟨rfl, hBf _ hB16⟩
end Go.Proofs.Ytkbplffckkjbfab
