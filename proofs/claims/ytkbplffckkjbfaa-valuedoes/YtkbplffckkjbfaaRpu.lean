/- Push: the document's. -/
import Derived.Test.YtkbplffckkjbfaaRpl
import Derived.Test.YtkbplffckkjbfaaVu
namespace Go.Proofs.Ytkbplffckkjbfaa
open Go.RowKit
set_option linter.unusedVariables false
set_option linter.unusedSimpArgs false
attribute [local go_sem ↓] Go.wp_at_zero Go.wp_at_succ

/-- It is stored into the box for what is answered. -/
theorem OutV.kept {Q : Nat → Prop} {w w3 : World} {o : V × Int} {ao : Option Addr} {cap : Nat} {g : Nat} (hx : IsW Q w3 o.1 (.slice ao o.1.l.length cap)) (hb : Below w.heap.size w w3) (hg : w.heap.size ≤ g) (hQ : ¬ Q g) (hQ' : ∀ k, Q k → w.heap.size ≤ k) :
    OutV w o (.returned (.tuple #[.agg #[.int .i64 o.1.k, .int .i64 o.1.n, .string ⟨o.1.t.toArray⟩, .slice ao o.1.l.length cap], .int .i64 o.2])) (set4 w3 g (.int .i64 o.1.k) (.int .i64 o.1.n) (.string ⟨o.1.t.toArray⟩) (.slice ao o.1.l.length cap)) :=
  ⟨⟨ao, cap, rfl, (hx.since (since_set4 hQ _ _ _ _)).base (fun k hk _ => hQ' k hk)⟩, below_set4 hb hg _ _ _ _⟩
/-- A value that is put into a new box. -/
theorem rbox_set (w : World) (x0 x1 x2 x3 : Value) : ∃ wz w4, w.alloc (.cells #[.int .i64 0, .int .i64 0, .string ⟨#[]⟩, .slice none 0 0] 24) = wz ∧ set4 wz w.heap.size x0 x1 x2 x3 = w4 ∧ Below w.heap.size w w4 ∧ w4.heap.size = w.heap.size + 1 ∧ wz.heap.size = w.heap.size + 1 ∧ w4.heap[w.heap.size]? = some (.cells #[x0, x1, x2, x3] 24 (0, 0)) ∧
    (wz.cell? ⟨w.heap.size, 0, none⟩ = some (.int .i64 0) ∧ wz.cell? ⟨w.heap.size, 1, none⟩ = some (.int .i64 0) ∧ wz.cell? ⟨w.heap.size, 2, none⟩ = some (.string ⟨#[]⟩) ∧ wz.cell? ⟨w.heap.size, 3, none⟩ = some (.slice none 0 0)) ∧ (wz.frozen? ⟨w.heap.size, 0, none⟩ = false ∧ wz.frozen? ⟨w.heap.size, 1, none⟩ = false ∧ wz.frozen? ⟨w.heap.size, 2, none⟩ = false ∧ wz.frozen? ⟨w.heap.size, 3, none⟩ = false) := by
  obtain ⟨wz, hWz, hbz, hszz, hrz⟩ := rbox w
  obtain ⟨y0, y1, y2, y3, z0, z1, z2, z3, hzz⟩ := hrz wz (Below.refl _ _)
  exact ⟨wz, _, hWz, rfl, below_set4 hbz (Nat.le_refl _) _ _ _ _, by rw [set4_size]; omega, hszz, set4_blk (rbox_blk hWz (Below.refl _ _)) _ _ _ _, ⟨y0, y1, y2, y3⟩, ⟨z0, z1, z2, z3⟩⟩
set_option maxRecDepth 100000 in
set_option maxHeartbeats 4000000 in
theorem rpush_any {B : Nat → Prop} {v x : V} {ao ax : Option Addr} {cap cx : Nat} {w : World} (hv : IsW B w v (.slice ao v.l.length cap)) (hx : IsW B w x (.slice ax x.l.length cx)) (hwv : wt v ≤ 200000) (hwx : wt x ≤ 200000) :
    Calls Try.prog 39 #[.agg #[.int .i64 v.k, .int .i64 v.n, .string ⟨v.t.toArray⟩, .slice ao v.l.length cap], .agg #[.int .i64 x.k, .int .i64 x.n, .string ⟨x.t.toArray⟩, .slice ax x.l.length cx]] w fun r w' => OutV w (pushV v x) r w' := by
  obtain ⟨ao', cap', e, c1, c2⟩ := hv.vs.slice
  simp only [Value.slice.injEq] at e
  obtain ⟨rfl, -, rfl⟩ := e
  have hwts := wt_eq v
  have hlv := wts_len v.l
  obtain ⟨w0, w1, w2, hW, hW1, hW2, hs0, hs1, hs2, hB2, hc, hr⟩ := boxed2r w v (.slice ao v.l.length cap) x (.slice ax x.l.length cx)
  obtain ⟨a0, a1, a2, a3, b0, b1, b2, b3⟩ := hc w2 (Below.refl _ _)
  by_cases hk : v.k = 4
  · have hk' : (v.k != 4) = false := by simp [hk]
    by_cases h64 : 64 ≤ v.l.length
    · have h64I : (64 : Int) ≤ (v.l.length : Int) := by omega
      have hfin : pushV v x = (V.zero, 53) := by unfold pushV; rw [if_neg (by simp [hk]), if_pos h64]
      obtain ⟨r0, r1, r2, r3, s0, s1, s2, s3, hz⟩ := hr w2 (Below.refl _ _)
      have hres := outV_zero (e := 53) (below_set4 hB2 (g := w.heap.size + 2) (by omega) (.int .i64 0) (.int .i64 0) (.string ⟨#[]⟩) (.slice none 0 0))
      rw [← hfin] at hres
      clear hr hc hv hx hk hfin
      go_enter Try.func39, Try.ntmps39
      go_wp2_with fail
      exact bodyPost_ret (v := .tuple #[.agg #[.int .i64 0, .int .i64 0, .string ⟨#[]⟩, .slice none 0 0], .int .i64 53]) (by simp [results, Try.results39, go_sem, hz, r0, r1, r2, r3]) rfl hres
    · have h64I : ¬ (64 : Int) ≤ (v.l.length : Int) := by omega
      obtain ⟨u, HU⟩ : ∃ u : V, Hid (u = .mk v.k v.n v.t (v.l ++ [x])) := ⟨_, rfl⟩
      have hfin : Hid (pushV v x = wgV u) := by show _ = _; unfold pushV; rw [if_neg (by simp [hk]), if_neg h64, HU.out]
      have huw : wt u ≤ 1000000 := by rw [HU.out, wt_mk, wts_append]; simp only [wts]; omega
      have huk : Hid (u.k = v.k ∧ u.n = v.n ∧ u.t = v.t ∧ u.l = v.l ++ [x]) := by rw [HU.out]; exact ⟨rfl, rfl, rfl, rfl⟩
      have hCv := rcopy_any _ v _ B w2 (Nat.lt_succ_self _) (by omega) (hv.below hB2)
      have hCx : ∀ w3, Below w2.heap.size w2 w3 → Calls Try.prog 60 #[.agg #[.int .i64 x.k, .int .i64 x.n, .string ⟨x.t.toArray⟩, .slice ax x.l.length cx]] w3 fun r w' => NewG w3 x r w' := fun w3 hb3 => rcopy_any _ x _ B w3 (Nat.lt_succ_self _) (by omega) ((hx.below hB2).below hb3)
      have hvr := (⟨hv.txt, hv.kr, hv.nr⟩ : v.t.length ≤ maxLen ∧ InR v.k ∧ InR v.n)
      clear hv hx hk HU
      go_enter Try.func39, Try.ntmps39
      go_wp2_with fail
      refine hCv.mono ?_
      rintro e w3 ⟨⟨av, cv, rfl, -, hG3⟩, hb3⟩
      clear hCv
      obtain ⟨wz, w4, hWz, hW4, hb34, hs4, hsz, hblk4, ⟨y0, y1, y2, y3⟩, ⟨z0, z1, z2, z3⟩⟩ := rbox_set w3 (.int .i64 v.k) (.int .i64 v.n) (.string ⟨v.t.toArray⟩) (.slice av v.l.length cv)
      have hs3 := hb3.size
      have hb24 : Below w2.heap.size w2 w4 := hb3.trans (hb34.mono hs3)
      have hG4 : Gv (fun k => w.heap.size + 3 ≤ k ∧ k ≠ w3.heap.size) w4 (.slice av v.l.length cv) v.l := (hG3.base (P' := fun k => w.heap.size + 3 ≤ k ∧ k ≠ w3.heap.size) (fun k h1 h2 => ⟨by have : w2.heap.size ≤ k := h1; omega, by omega⟩)).below hb34
      have hap : (Value.slice av v.l.length cv).ownBlock ≠ some w3.heap.size := hG3.apart (Nat.le_refl _)
      obtain ⟨-, -, -, -, e0, e1, e2, e3⟩ := hc w4 hb24
      obtain ⟨q0, q1, q2, q3, -⟩ := cells_of4 hblk4
      have hCx4 := hCx w4.drew (hb24.trans ((below_drewN w4 1).mono hb24.size))
      clear hG3 hc hCx
      go_wp2_with fail
      refine wpE_begin (S := fun w' => w'.cell? ⟨w3.heap.size, 3, none⟩ = some (.slice av v.l.length cv) ∧ w'.cell? ⟨w.heap.size + 1, 0, none⟩ = some (.int .i64 x.k) ∧ w'.cell? ⟨w.heap.size + 1, 1, none⟩ = some (.int .i64 x.n) ∧ w'.cell? ⟨w.heap.size + 1, 2, none⟩ = some (.string ⟨x.t.toArray⟩) ∧ w'.cell? ⟨w.heap.size + 1, 3, none⟩ = some (.slice ax x.l.length cx)) (N := fun j => decide (j < 5)) (by kernel_rfl) ?_
      have hS0 : w4.drew.cell? ⟨w3.heap.size, 3, none⟩ = some (.slice av v.l.length cv) ∧ w4.drew.cell? ⟨w.heap.size + 1, 0, none⟩ = some (.int .i64 x.k) ∧ w4.drew.cell? ⟨w.heap.size + 1, 1, none⟩ = some (.int .i64 x.n) ∧ w4.drew.cell? ⟨w.heap.size + 1, 2, none⟩ = some (.string ⟨x.t.toArray⟩) ∧ w4.drew.cell? ⟨w.heap.size + 1, 3, none⟩ = some (.slice ax x.l.length cx) := ⟨q3, e0, e1, e2, e3⟩
      refine wpE_takeX (some 18) (fun j => [1, 5, 6, 7].contains j) (i := 0) (v := .pointer (some ⟨w3.heap.size, 3, none⟩)) rfl rfl (by kernel_rfl) (by kernel_rfl) (by kernel_rfl) (by kernel_rfl) (fun j hj => by simp at hj; show j < 8; omega) (fun _ _ _ h => h) rfl (fun w' hS => by obtain ⟨g0, g1, g2, g3, g4⟩ := hS; go_simp) hS0 ?_
      try simp only [Act.put, List.setIfInBounds_toArray, List.set_cons_zero, List.set_cons_succ]
      refine wpE_takeX (some 19) (fun j => [5, 6, 7].contains j) (i := 1) (v := .slice av v.l.length cv) rfl rfl (by kernel_rfl) (by kernel_rfl) (by kernel_rfl) (by kernel_rfl) (fun j hj => by simp at hj; show j < 8; omega) (fun _ _ _ h => h) rfl (fun w' hS => by obtain ⟨g0, g1, g2, g3, g4⟩ := hS; go_simp) hS0 ?_
      try simp only [Act.put, List.setIfInBounds_toArray, List.set_cons_zero, List.set_cons_succ]
      refine wpE_takeX (some 20) (fun j => [3, 4, 5, 6, 7].contains j) (i := 2) (v := .agg #[.int .i64 x.k, .int .i64 x.n, .string ⟨x.t.toArray⟩, .slice ax x.l.length cx]) rfl rfl (by kernel_rfl) (by kernel_rfl) (by kernel_rfl) (by kernel_rfl) (fun j hj => by simp at hj; show j < 8; omega) (fun _ _ _ h => h) rfl (fun w' hS => by obtain ⟨g0, g1, g2, g3, g4⟩ := hS; go_simp) hS0 ?_
      try simp only [Act.put, List.setIfInBounds_toArray, List.set_cons_zero, List.set_cons_succ]
      refine wpE_one (i := 3) (by kernel_rfl) rfl rfl (fun K hK => ?_)
      go_simp
      refine hCx4.mono ?_
      rintro e w6 ⟨⟨ay, cy, rfl, hx6, -⟩, hb6⟩
      replace hb6 : Below w4.heap.size w4 w6 := below_undrew hb6
      replace hx6 : IsW (From w4.heap.size) w6 x (.slice ay x.l.length cy) := hx6
      have hs6 := hb6.size
      have f6 := (bcell hb6).1
      have k0 := (f6 _ 3 (by omega)).trans q3
      have k1 := (f6 _ 0 (by omega)).trans e0
      have k2 := (f6 _ 1 (by omega)).trans e1
      have k3 := (f6 _ 2 (by omega)).trans e2
      have k4 := (f6 _ 3 (by omega)).trans e3
      refine hK _ _ (fun _ => ⟨k0, k1, k2, k3, k4⟩) ?_
      clear hK K
      try simp only [Act.put, List.setIfInBounds_toArray, List.set_cons_zero, List.set_cons_succ]
      clear hCx4
      obtain ⟨wa, hWa⟩ : ∃ wa, w6.alloc (.cells #[.int .i64 x.k, .int .i64 x.n, .string ⟨x.t.toArray⟩, .slice ay x.l.length cy] 24) = wa := ⟨_, rfl⟩
      have hba : Below w6.heap.size w6 wa := by rw [← hWa]; exact (Below.refl _ _).alloc (Nat.le_refl _) _
      have hblka : wa.heap[w6.heap.size]? = some (.cells #[.int .i64 x.k, .int .i64 x.n, .string ⟨x.t.toArray⟩, .slice ay x.l.length cy] 24) := by rw [← hWa]; exact heap_new _ _
      have ka := (bcell hba).1
      have hsa : wa.heap.size = w6.heap.size + 1 := by rw [← hWa]; simp
      refine wpE_one (i := 4) (by kernel_rfl) rfl rfl (fun K hK => ?_)
      go_simp
      refine hK _ _ (fun _ => ⟨(ka _ _ (by omega)).trans k0, (ka _ _ (by omega)).trans k1, (ka _ _ (by omega)).trans k2, (ka _ _ (by omega)).trans k3, (ka _ _ (by omega)).trans k4⟩) ?_
      clear hK K
      try simp only [Act.put, List.setIfInBounds_toArray, List.set_cons_zero, List.set_cons_succ]
      have hGa := (hG4.below hb6).below hba
      obtain ⟨g7, c7, w7, hr7, hG7, hb7, hf7, hs7⟩ := hGa.push (l2 := [x]) (ad := ⟨w6.heap.size, 0, none⟩) (by simp) (by simp) (World.news_of_block hblka) (AllV.one (isV_iff.2 ⟨_, rfl, (hx6.below hba).base (B' := fun k => (w.heap.size + 3 ≤ k ∧ k ≠ w3.heap.size) ∧ (Value.slice av v.l.length cv).ownBlock ≠ some k) (fun k h1 _ => by have h2 : w4.heap.size ≤ k := h1; exact ⟨⟨by omega, by omega⟩, hG4.apart h2⟩)⟩)) (by simp; omega) (fun k hk => ⟨by omega, by omega⟩) 1 22
      replace hb7 : Below (w.heap.size + 3) wa w7 := hb7 _ (by omega) (fun k hk => hk.1)
      have hn7 : v.l.length + [x].length = v.l.length + 1 := rfl
      rw [hn7] at hr7 hG7
      refine wpE_one (i := 5) (by kernel_rfl) rfl rfl (fun K hK => ?_)
      refine wp_append_run _ _ 22 rfl _ _ rfl rfl _ _ hr7 ?_
      refine hK _ _ (fun h => by cases h) ?_
      clear hK K
      try simp only [Act.put, List.setIfInBounds_toArray, List.set_cons_zero, List.set_cons_succ]
      have hbr7 : w7.heap[w3.heap.size]? = some (.cells #[.int .i64 v.k, .int .i64 v.n, .string ⟨v.t.toArray⟩, .slice av v.l.length cv] 24) := by
        rw [hf7 _ (by omega) hap, hba.block _ (by omega), hb6.block _ (by omega)]; exact hblk4
      obtain ⟨m0, m1, m2, m3, n0, n1, n2, n3⟩ := cells_of4 hbr7
      refine wpE_one (i := 6) (by kernel_rfl) rfl rfl (fun K hK => ?_)
      go_simp
      refine hK _ _ (fun h => by cases h) ?_
      clear hK K
      try simp only [Act.put, List.setIfInBounds_toArray, List.set_cons_zero, List.set_cons_succ]
      refine wpE_one (i := 7) (by kernel_rfl) rfl rfl (fun K hK => ?_)
      go_simp
      refine hK _ _ (fun h => by cases h) ?_
      clear hK K
      try simp only [Act.put, List.setIfInBounds_toArray, List.set_cons_zero, List.set_cons_succ]
      refine wpE_done (by kernel_rfl) ?_
      obtain ⟨w8, hW8⟩ : ∃ w8, w7.setCell ⟨w3.heap.size, 3, none⟩ (.slice (some ⟨g7, 0, none⟩) (v.l.length + 1) c7) = w8 := ⟨_, rfl⟩
      have hblk8 : w8.heap[w3.heap.size]? = some (.cells #[.int .i64 v.k, .int .i64 v.n, .string ⟨v.t.toArray⟩, .slice (some ⟨g7, 0, none⟩) (v.l.length + 1) c7] 24) := by rw [← hW8]; exact set_3 hbr7 _
      have hs8 : w8.heap.size = w7.heap.size := by rw [← hW8]; simp [World.setCell]
      have hG8 : Gv (fun k => w.heap.size + 3 ≤ k ∧ k ≠ w3.heap.size) w8 (.slice (some ⟨g7, 0, none⟩) (v.l.length + 1) c7) (v.l ++ [x]) := by
        rw [← hW8]
        exact Gv.since hG7 ⟨by simp [World.setCell], fun k h1 _ => Below.heap_setCell _ _ _ _ h1.2⟩
      have hb28 : Below w2.heap.size w2 w8 := by
        rw [← hW8]
        exact ((hb24.trans ((hb6.trans (hba.mono hb6.size)).mono hb24.size)).trans (hb7.mono (by omega))).setCell (p := ⟨w3.heap.size, 3, none⟩) (by show w2.heap.size ≤ w3.heap.size; omega) _
      obtain ⟨j0, j1, j2, j3, -⟩ := cells_of4 hblk8
      have hlu : u.l.length = v.l.length + 1 := by rw [huk.out.2.2.2]; simp
      have hu8 : IsW (fun k => w.heap.size + 3 ≤ k ∧ k ≠ w3.heap.size) w8 u (.slice (some ⟨g7, 0, none⟩) u.l.length c7) := by
        obtain ⟨q1, q2, q3, q4⟩ := huk.out
        refine ⟨by rw [q3]; exact hvr.1, by rw [q1]; exact hvr.2.1, by rw [q2]; exact hvr.2.2, ?_⟩
        rw [hlu, q4]; exact hG8.vs
      have hL := rlimit_any hu8 huw
      rw [huk.out.1, huk.out.2.1, huk.out.2.2.1, hlu, ← hfin.out] at hL
      obtain ⟨o, HO⟩ : ∃ o, Hid (pushV v x = o) := ⟨_, rfl⟩
      rw [HO.out] at hL
      rw [hW8]
      clear hG8 hG7 hGa hG4 hx6 hb6 hb7 hba hr7 k0 k1 k2 k3 k4 m0 m1 m2 m3 n0 n1 n2 n3 hW8 hu8 hfin huk hf7 ka f6
      simp only [Exit.then]
      refine ‹∀ (a : Act) (w : World), _ → _› _ _ ?_
      go_wp2_with fail
      refine hL.mono ?_
      rintro e w9 ⟨⟨a9, c9, rfl, h9⟩, hb9⟩
      clear hL
      have hb29 : Below w2.heap.size w2 w9 := hb28.trans (hb9.mono hb28.size)
      obtain ⟨r0, r1, r2, r3, s0, s1, s2, s3, hz⟩ := hr w9 hb29
      have hres := OutV.kept h9 (hB2.trans (hb29.mono hB2.size)) (g := w.heap.size + 2) (by omega) (fun h => by have := h.1.1; omega) (fun k h => by have := h.1.1; omega)
      clear hr h9
      go_wp2_with fail
      exact bodyPost_ret (v := .tuple #[.agg #[.int .i64 o.1.k, .int .i64 o.1.n, .string ⟨o.1.t.toArray⟩, .slice a9 o.1.l.length c9], .int .i64 o.2]) (by simp [results, Try.results39, go_sem, hz, r0, r1, r2, r3]) rfl (by rw [HO.out]; exact hres)
  · have hk' : (v.k != 4) = true := by simp [hk]
    have hfin : pushV v x = (V.zero, 40) := by unfold pushV; rw [if_pos hk]
    obtain ⟨r0, r1, r2, r3, s0, s1, s2, s3, hz⟩ := hr w2 (Below.refl _ _)
    have hres := outV_zero (e := 40) (below_set4 hB2 (g := w.heap.size + 2) (by omega) (.int .i64 0) (.int .i64 0) (.string ⟨#[]⟩) (.slice none 0 0))
    rw [← hfin] at hres
    clear hr hc hv hx hk hfin
    go_enter Try.func39, Try.ntmps39
    go_wp2_with fail
    exact bodyPost_ret (v := .tuple #[.agg #[.int .i64 0, .int .i64 0, .string ⟨#[]⟩, .slice none 0 0], .int .i64 40]) (by simp [results, Try.results39, go_sem, hz, r0, r1, r2, r3]) rfl hres
end Go.Proofs.Ytkbplffckkjbfaa
