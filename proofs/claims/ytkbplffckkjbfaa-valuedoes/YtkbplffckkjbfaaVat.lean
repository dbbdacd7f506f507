/- At and Del: the program's. -/
import Derived.Test.YtkbplffckkjbfaaVpl
import Derived.Test.YtkbplffckkjbfaaVpu
namespace Go.Proofs.Ytkbplffckkjbfaa
open Go.RowKit
set_option linter.unusedVariables false
set_option linter.unusedSimpArgs false

set_option maxRecDepth 100000 in
set_option maxHeartbeats 2000000 in
theorem at_any {B : Nat → Prop} {v k : V} {ao ak : Option Addr} {cap ck : Nat} {w : World} (hv : IsW B w v (.slice ao v.l.length cap)) (hk : IsW B w k (.slice ak k.l.length ck)) (hwv : wt v ≤ 400000) (ht : Tidy v) :
    Calls Try.prog 31 #[.agg #[.int .i64 v.k, .int .i64 v.n, .string ⟨v.t.toArray⟩, .slice ao v.l.length cap], .agg #[.int .i64 k.k, .int .i64 k.n, .string ⟨k.t.toArray⟩, .slice ak k.l.length ck]] w fun r w' => OutV w (atV v k) r w' := by
  obtain ⟨ao', cap', e, c1, c2⟩ := hv.vs.slice
  simp only [Value.slice.injEq] at e
  obtain ⟨rfl, -, rfl⟩ := e
  have hwts := wt_eq v
  have hlv := wts_len v.l
  obtain ⟨w0, w1, w2, hW, hW1, hW2, hs0, hs1, hs2, hB2, hc, hr⟩ := boxed2r w v (.slice ao v.l.length cap) k (.slice ak k.l.length ck)
  obtain ⟨a0, a1, a2, a3, b0, b1, b2, b3⟩ := hc w2 (Below.refl _ _)
  have hP := place_any (hv.below hB2) (hk.below hB2) (by omega) ht
  have hlt : (plV v k).2 = 0 → (plV v k).1 < v.l.length := plV_lt ht
  have hfin : Hid (atV v k = if (plV v k).2 = 0 then (v.l.getD (plV v k).1 V.zero, 0) else (V.zero, (plV v k).2)) := rfl
  generalize (plV v k).1 = i at *
  generalize (plV v k).2 = er at *
  by_cases h0 : er = 0
  · subst h0
    have hi : i < v.l.length := hlt rfl
    have hx : v.l[i]? = some v.l[i] := List.getElem?_eq_getElem hi
    have hxd : v.l.getD i V.zero = v.l[i] := by rw [List.getD_eq_getElem?_getD, hx]; rfl
    have hfin' : Hid (atV v k = (v.l[i], 0)) := by show _ = _; rw [hfin.out, if_pos rfl, hxd]
    have hwx := wts_get hx
    have hget : ∀ w3, Below w2.heap.size w2 w3 → ∃ g o ax cx, ao = some ⟨g, o, none⟩ ∧ g < w3.heap.size ∧ w3.cell? ⟨g, o + i * 4, none⟩ = some (.int .i64 v.l[i].k) ∧ w3.cell? ⟨g, o + i * 4 + 1, none⟩ = some (.int .i64 v.l[i].n) ∧ w3.cell? ⟨g, o + i * 4 + 2, none⟩ = some (.string ⟨v.l[i].t.toArray⟩) ∧ w3.cell? ⟨g, o + i * 4 + 3, none⟩ = some (.slice ax v.l[i].l.length cx) ∧ Calls Try.prog 58 #[.agg #[.int .i64 v.l[i].k, .int .i64 v.l[i].n, .string ⟨v.l[i].t.toArray⟩, .slice ax v.l[i].l.length cx]] w3 fun r w' => NewV w3 v.l[i] r w' := by
      intro w3 hb3
      have hbw : Below w.heap.size w w3 := hB2.trans (hb3.mono hB2.size)
      obtain ⟨g, o, ax, cx, e, _, hg, q0, q1, q2, q3, hw⟩ := (hv.vs.below hbw).get hx
      exact ⟨g, o, ax, cx, e, hg, q0, q1, q2, q3, copy_any _ _ _ B w3 (Nat.lt_succ_self _) (by omega) hw⟩
    generalize v.l[i] = x at *
    have hiI : (i : Int) < (v.l.length : Int) := by omega
    clear hfin hv hk hlt hx hxd hwx
    go_enter Try.func31, Try.ntmps31
    go_wp2_with fail
    refine hP.mono ?_
    rintro e w3 ⟨rfl, hb3⟩
    clear hP
    obtain ⟨g, o, ax, cx, rfl, hg, q0, q1, q2, q3, hcp⟩ := hget w3 hb3
    obtain ⟨f0, f1, f2, f3, -⟩ := hc w3 hb3
    clear hget hc
    go_wp2_with fail
    refine hcp.mono ?_
    rintro e w4 ⟨⟨a4, c4, rfl, hx4⟩, hb4⟩
    clear hcp
    have hb24 : Below w2.heap.size w2 w4 := hb3.trans (hb4.mono hb3.size)
    obtain ⟨r0, r1, r2, r3, s0, s1, s2, s3, hz⟩ := hr w4 hb24
    have hs3 := hb3.size
    have hres := OutV.stored (o := (x, 0)) hx4 (hB2.trans (hb24.mono hB2.size)) (g := w.heap.size + 2) (by omega) (by omega)
    clear hr hx4 q0 q1 q2 q3 f0 f1 f2 f3
    go_wp2_with fail
    exact bodyPost_ret (v := .tuple #[.agg #[.int .i64 x.k, .int .i64 x.n, .string ⟨x.t.toArray⟩, .slice a4 x.l.length c4], .int .i64 0]) (by simp [results, Try.results31, go_sem, hz, r0, r1, r2, r3]) rfl (by rw [hfin'.out]; exact hres)
  · have h0' : (er != 0) = true := by simp [h0]
    have hfin' : Hid (atV v k = (V.zero, er)) := by show _ = _; rw [hfin.out, if_neg h0]
    clear hfin hv hk hlt h0 hc
    go_enter Try.func31, Try.ntmps31
    go_wp2_with fail
    refine hP.mono ?_
    rintro e w3 ⟨rfl, hb3⟩
    clear hP
    obtain ⟨r0, r1, r2, r3, s0, s1, s2, s3, hz⟩ := hr w3 hb3
    have hres := outV_zero (e := er) (below_set4 (hB2.trans (hb3.mono hB2.size)) (g := w.heap.size + 2) (by omega) (.int .i64 0) (.int .i64 0) (.string ⟨#[]⟩) (.slice none 0 0))
    clear hr
    go_wp2_with fail
    exact bodyPost_ret (v := .tuple #[.agg #[.int .i64 0, .int .i64 0, .string ⟨#[]⟩, .slice none 0 0], .int .i64 er]) (by simp [results, Try.results31, go_sem, hz, r0, r1, r2, r3]) rfl (by rw [hfin'.out]; exact hres)
theorem nil_vs {B : Nat → Prop} {w : World} : IsVs B w [] (.slice none ([] : List V).length 0) := IsVs.nil
set_option maxRecDepth 100000 in
set_option maxHeartbeats 2000000 in
theorem del_any {B : Nat → Prop} {v k : V} {ao ak : Option Addr} {cap ck : Nat} {w : World} (hv : IsW B w v (.slice ao v.l.length cap)) (hk : IsW B w k (.slice ak k.l.length ck)) (hwv : wt v ≤ 400000) (ht : Tidy v) :
    Calls Try.prog 36 #[.agg #[.int .i64 v.k, .int .i64 v.n, .string ⟨v.t.toArray⟩, .slice ao v.l.length cap], .agg #[.int .i64 k.k, .int .i64 k.n, .string ⟨k.t.toArray⟩, .slice ak k.l.length ck]] w fun r w' => OutV w (delV v k) r w' := by
  obtain ⟨ao', cap', e, c1, c2⟩ := hv.vs.slice
  simp only [Value.slice.injEq] at e
  obtain ⟨rfl, -, rfl⟩ := e
  have hwts := wt_eq v
  have hlv := wts_len v.l
  obtain ⟨w0, w1, w2, hW, hW1, hW2, hs0, hs1, hs2, hB2, hc, hr⟩ := boxed2r w v (.slice ao v.l.length cap) k (.slice ak k.l.length ck)
  obtain ⟨a0, a1, a2, a3, b0, b1, b2, b3⟩ := hc w2 (Below.refl _ _)
  by_cases h5 : v.k = 5
  · have hk5 : (v.k != 5) = false := by simp [h5]
    obtain ⟨t1, t2⟩ := ht h5
    have hF := find_any (hv.below hB2) (hk.below hB2) (by omega) t1 t2
    have hfin : Hid (delV v k = if hit k v.l = true then (.mk v.k v.n v.t (spl v.l (2 * kat k v.l) (2 * kat k v.l + 2) []), 0) else (v, 0)) := by show _ = _; unfold delV; rw [if_neg (by simp [h5])]
    have hh := @hit_some k v.l
    clear h5
    generalize kat k v.l = q at *
    generalize hit k v.l = t at *
    cases t
    · have hfin' : Hid (delV v k = (v, 0)) := by show _ = _; rw [hfin.out, if_neg (by simp)]
      have hcp : ∀ w3, Below w2.heap.size w2 w3 → Calls Try.prog 58 #[.agg #[.int .i64 v.k, .int .i64 v.n, .string ⟨v.t.toArray⟩, .slice ao v.l.length cap]] w3 fun r w' => NewV w3 v r w' := fun w3 hb3 => copy_any _ _ _ B w3 (Nat.lt_succ_self _) (by omega) ((hv.below hB2).below hb3)
      clear hfin hv hk hh
      go_enter Try.func36, Try.ntmps36
      go_wp2_with fail
      refine hF.mono ?_
      rintro e w3 ⟨rfl, hb3⟩
      clear hF
      obtain ⟨f0, f1, f2, f3, -⟩ := hc w3 hb3
      have hcp3 := hcp w3 hb3
      clear hc hcp
      go_wp2_with fail
      refine hcp3.mono ?_
      rintro e w4 ⟨⟨a4, c4, rfl, hx4⟩, hb4⟩
      clear hcp3
      have hb24 : Below w2.heap.size w2 w4 := hb3.trans (hb4.mono hb3.size)
      obtain ⟨r0, r1, r2, r3, s0, s1, s2, s3, hz⟩ := hr w4 hb24
      have hs3 := hb3.size
      have hres := OutV.stored (o := (v, 0)) hx4 (hB2.trans (hb24.mono hB2.size)) (g := w.heap.size + 2) (by omega) (by omega)
      clear hr hx4 f0 f1 f2 f3
      go_wp2_with fail
      exact bodyPost_ret (v := .tuple #[.agg #[.int .i64 v.k, .int .i64 v.n, .string ⟨v.t.toArray⟩, .slice a4 v.l.length c4], .int .i64 0]) (by simp [results, Try.results36, go_sem, hz, r0, r1, r2, r3]) rfl (by rw [hfin'.out]; exact hres)
    · obtain ⟨u, HU⟩ : ∃ u : V, Hid (u = .mk v.k v.n v.t (spl v.l (2 * q) (2 * q + 2) [])) := ⟨_, rfl⟩
      have hfin' : Hid (delV v k = (u, 0)) := by show _ = _; rw [hfin.out, if_pos rfl, HU.out]
      have hq2 : 2 * q < v.l.length := (List.getElem?_eq_some_iff.1 (hh rfl)).1
      have hul : u.l.length ≤ v.l.length := by rw [HU.out]; simp [V.l, spl]; omega
      have huw : wt u ≤ 1000000 := by rw [HU.out, wt_mk]; have := wts_spl v.l (2 * q) (2 * q + 2) []; simp only [wts] at this; omega
      have hS : ∀ w3, Below w2.heap.size w2 w3 → Calls Try.prog 63 #[.agg #[.int .i64 v.k, .int .i64 v.n, .string ⟨v.t.toArray⟩, .slice ao v.l.length cap], .int .i64 (2 * q : Nat), .int .i64 (2 * q + 2 : Nat), .slice none 0 0] w3 fun r w' => (∃ ao' cap', r = .returned (.agg #[.int .i64 u.k, .int .i64 u.n, .string ⟨u.t.toArray⟩, .slice ao' u.l.length cap']) ∧ IsW (fun k => k ≠ w.heap.size) w' u (.slice ao' u.l.length cap')) ∧ Below w3.heap.size w3 w' := by
        intro w3 hb3
        have hs3 := hb3.size
        refine (spliced_any (B := Lob B w.heap.size) (f := 2 * q) (t := 2 * q + 2) (((hv.base (B' := Lob B w.heap.size) (fun k h1 h2 => ⟨h1, h2⟩)).below hB2).below hb3) nil_vs (by omega) (by omega) (by have h9 := hul; rw [HU.out] at h9; exact Nat.le_trans h9 (by omega))).mono ?_
        rintro e w' ⟨⟨x, y, rfl, h2⟩, h3⟩
        rw [HU.out]
        exact ⟨⟨x, y, rfl, hv.txt, hv.kr, hv.nr, h2.base (fun k hk _ => by
          show k ≠ w.heap.size
          rcases hk with hk | hk
          · have := hk.1.2; omega
          · omega)⟩, h3⟩
      clear hfin hv hk hh
      have hz1 : IntKind.i64.wrap (((2 * q : Nat) : Int) + 2) = ((2 * q + 2 : Nat) : Int) := by rw [IntKind.wrap_i64]; omega
      have hz2 : ((2 * q : Nat) : Int) + 2 = ((2 * q + 2 : Nat) : Int) := by omega
      have hz3 : IntKind.i64.wrap ((2 * q + 2 : Nat) : Int) = ((2 * q + 2 : Nat) : Int) := by rw [IntKind.wrap_i64]; omega
      generalize 2 * q + 2 = q2 at *
      generalize 2 * q = q1 at *
      go_enter Try.func36, Try.ntmps36
      go_wp2_with fail
      refine hF.mono ?_
      rintro e w3 ⟨rfl, hb3⟩
      clear hF
      obtain ⟨f0, f1, f2, f3, -⟩ := hc w3 hb3
      have hS3 := hS w3 hb3
      clear hS
      go_wp2_with fail
      refine hS3.mono ?_
      rintro e w4 ⟨⟨a4, c4, rfl, hx4⟩, hb4⟩
      clear hS3 f0 f1 f2 f3
      have hs4 := hb4.size
      have hs3 := hb3.size
      have hb24 : Below w2.heap.size w2 w4 := hb3.trans (hb4.mono hb3.size)
      have hblk4 : w4.heap[w.heap.size]? = some (.cells #[.int .i64 v.k, .int .i64 v.n, .string ⟨v.t.toArray⟩, .slice ao v.l.length cap] 24) := by
        rw [hb24.block _ (by omega), ← hW2, heap_alloc_old _ _ (by omega), ← hW1, heap_alloc_old _ _ (by omega), ← hW]
        exact heap_new _ _
      obtain ⟨g0, g1, g2, g3, z0, z1, z2, z3⟩ := cells_of4 hblk4
      obtain ⟨w5, hW5⟩ : ∃ w5, set4 w4 w.heap.size (.int .i64 u.k) (.int .i64 u.n) (.string ⟨u.t.toArray⟩) (.slice a4 u.l.length c4) = w5 := ⟨_, rfl⟩
      have hblk5 : w5.heap[w.heap.size]? = some (.cells #[.int .i64 u.k, .int .i64 u.n, .string ⟨u.t.toArray⟩, .slice a4 u.l.length c4] 24) := by rw [← hW5]; exact set4_blk hblk4 _ _ _ _
      obtain ⟨y0, y1, y2, y3, -⟩ := cells_of4 hblk5
      have hs5 : w5.heap.size = w4.heap.size := by rw [← hW5, set4_size]
      have hB5 : Below w.heap.size w w5 := by rw [← hW5]; exact below_set4 (hB2.trans (hb24.mono hB2.size)) (Nat.le_refl _) _ _ _ _
      have hx5 : IsW (fun k => k ≠ w.heap.size) w5 u (.slice a4 u.l.length c4) := by rw [← hW5]; exact hx4.since (since_set4 (by simp) _ _ _ _)
      have hcp5 := copy_any _ _ _ _ w5 (Nat.lt_succ_self _) huw hx5
      obtain ⟨r0, r1, r2, r3, s0, s1, s2, s3, hz⟩ := hr w4 hb24
      have hblk6 : ∀ w6, Below w5.heap.size w5 w6 → w6.heap[w.heap.size + 2]? = some (.cells #[.int .i64 0, .int .i64 0, .string ⟨#[]⟩, .slice none 0 0] 24 (0, 0)) := by
        intro w6 hb6
        rw [hb6.block _ (by omega), ← hW5, set4_other (by omega), hb24.block _ (by omega), ← hs1]
        exact rbox_blk hW2 (Below.refl _ _)
      clear hx4 hx5 hr hc
      go_wp2_with fail
      refine hcp5.mono ?_
      rintro e w6 ⟨⟨a6, c6, rfl, hx6⟩, hb6⟩
      clear hcp5
      obtain ⟨r0', r1', r2', r3', s0', s1', s2', s3'⟩ := cells_of4 (hblk6 w6 hb6)
      have hs6 := hb6.size
      have hz6 : w.heap.size + 2 < w6.heap.size := by omega
      have hres := OutV.stored (o := (u, 0)) hx6 (hB5.trans (hb6.mono (by omega))) (g := w.heap.size + 2) (by omega) (by omega)
      clear hx6 hblk6 hblk5 hblk4 y0 y1 y2 y3 g0 g1 g2 g3 z0 z1 z2 z3 r0 r1 r2 r3 s0 s1 s2 s3
      go_wp2_with fail
      exact bodyPost_ret (v := .tuple #[.agg #[.int .i64 u.k, .int .i64 u.n, .string ⟨u.t.toArray⟩, .slice a6 u.l.length c6], .int .i64 0]) (by simp [results, Try.results36, go_sem, hz6, r0', r1', r2', r3']) rfl (by rw [hfin'.out]; exact hres)
  · have hk5 : (v.k != 5) = true := by simp [h5]
    have hfin : delV v k = (V.zero, 40) := by unfold delV; rw [if_pos h5]
    obtain ⟨r0, r1, r2, r3, s0, s1, s2, s3, hz⟩ := hr w2 (Below.refl _ _)
    have hres := outV_zero (e := 40) (below_set4 hB2 (g := w.heap.size + 2) (by omega) (.int .i64 0) (.int .i64 0) (.string ⟨#[]⟩) (.slice none 0 0))
    rw [← hfin] at hres
    clear hr hc hv hk hfin
    go_enter Try.func36, Try.ntmps36
    go_wp2_with fail
    exact bodyPost_ret (v := .tuple #[.agg #[.int .i64 0, .int .i64 0, .string ⟨#[]⟩, .slice none 0 0], .int .i64 40]) (by simp [results, Try.results36, go_sem, hz, r0, r1, r2, r3]) rfl hres
end Go.Proofs.Ytkbplffckkjbfaa
