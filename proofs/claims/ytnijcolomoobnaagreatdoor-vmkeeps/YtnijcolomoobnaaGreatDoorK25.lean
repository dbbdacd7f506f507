/- Texts of ours, joined: Vat. -/
import Derived.Test.YtnijcolomoobnaaGreatDoorK23
import Derived.Test.YtnijcolomoobnaaGreatDoorK14
namespace Go.Proofs.YtnijcolomoobnaaGreatDoor
open Go.RowKit
set_option linter.unusedVariables false
set_option linter.unusedSimpArgs false

set_option maxRecDepth 100000 in
set_option maxHeartbeats 2000000 in
theorem atW_any {B : Nat → Prop} {v k : V} {ao ak : Option Addr} {cap ck : Nat} {w : World} (hv : IsW B w v (.slice ao v.l.length cap)) (hk : IsW B w k (.slice ak k.l.length ck)) (hwv : wt v ≤ 400000) (ht : Tidy v) :
    Calls Tryz.prog 60 #[.agg #[.int .i64 v.k, .int .i64 v.n, .string ⟨v.t.toArray⟩, .slice ao v.l.length cap], .agg #[.int .i64 k.k, .int .i64 k.n, .string ⟨k.t.toArray⟩, .slice ak k.l.length ck]] w fun r w' => OutW w (atV v k) r w' := by
  obtain ⟨ao', cap', e, c1, c2⟩ := hv.vs.slice
  simp only [Value.slice.injEq] at e
  obtain ⟨rfl, -, rfl⟩ := e
  have hwts := wt_eq v
  have hlv := wts_len v.l
  obtain ⟨w0, w1, w2, hW, hW1, hW2, hs0, hs1, hs2, hB2, hc, hr⟩ := boxed2r w v (.slice ao v.l.length cap) k (.slice ak k.l.length ck)
  obtain ⟨a0, a1, a2, a3, b0, b1, b2, b3⟩ := hc w2 (Below.refl _ _)
  have hP := place_any (hv.below hB2) (hk.below hB2) (by omega) ht
  have hlt : (plV v k).2 = 0 → (plV v k).1 < v.l.length := plV_lt ht
  have hfin : Hid (atV v k = if (plV v k).2 = 0 then (v.l.getD (plV v k).1 V.zero, 0) else (V.zero, (plV v k).2)) := rfl
  generalize (plV v k).1 = i at *
  generalize (plV v k).2 = er at *
  by_cases h0 : er = 0
  · subst h0
    have hi : i < v.l.length := hlt rfl
    have hx : v.l[i]? = some v.l[i] := List.getElem?_eq_getElem hi
    have hxd : v.l.getD i V.zero = v.l[i] := by rw [List.getD_eq_getElem?_getD, hx]; rfl
    have hfin' : Hid (atV v k = (v.l[i], 0)) := by show _ = _; rw [hfin.out, if_pos rfl, hxd]
    have hwx := wts_get hx
    have hget : ∀ w3, Below w2.heap.size w2 w3 → ∃ g o ax cx, ao = some ⟨g, o, none⟩ ∧ g < w3.heap.size ∧ w3.cell? ⟨g, o + i * 4, none⟩ = some (.int .i64 v.l[i].k) ∧ w3.cell? ⟨g, o + i * 4 + 1, none⟩ = some (.int .i64 v.l[i].n) ∧ w3.cell? ⟨g, o + i * 4 + 2, none⟩ = some (.string ⟨v.l[i].t.toArray⟩) ∧ w3.cell? ⟨g, o + i * 4 + 3, none⟩ = some (.slice ax v.l[i].l.length cx) ∧ Calls Tryz.prog 32 #[.agg #[.int .i64 v.l[i].k, .int .i64 v.l[i].n, .string ⟨v.l[i].t.toArray⟩, .slice ax v.l[i].l.length cx]] w3 fun r w' => NewW 1000001 w3 v.l[i] r w' := by
      intro w3 hb3
      have hbw : Below w.heap.size w w3 := hB2.trans (hb3.mono hB2.size)
      obtain ⟨g, o, ax, cx, e, _, hg, q0, q1, q2, q3, hw⟩ := (hv.vs.below hbw).get hx
      exact ⟨g, o, ax, cx, e, hg, q0, q1, q2, q3, copyW_any 1000001 _ _ B w3 (by omega) (by omega) hw⟩
    generalize v.l[i] = x at *
    have hiI : (i : Int) < (v.l.length : Int) := by omega
    clear hfin hv hk hlt hx hxd hwx
    go_enter Tryz.func60, Tryz.ntmps60
    go_wp2_with fail
    refine hP.mono ?_
    rintro e w3 ⟨rfl, hb3⟩
    clear hP
    obtain ⟨g, o, ax, cx, rfl, hg, q0, q1, q2, q3, hcp⟩ := hget w3 hb3
    obtain ⟨f0, f1, f2, f3, -⟩ := hc w3 hb3
    clear hget hc
    go_wp2_with fail
    refine hcp.mono ?_
    rintro e w4 ⟨⟨a4, c4, rfl, hx4, hz4⟩, hb4⟩
    clear hcp
    have hb24 : Below w2.heap.size w2 w4 := hb3.trans (hb4.mono hb3.size)
    obtain ⟨r0, r1, r2, r3, s0, s1, s2, s3, hz⟩ := hr w4 hb24
    have hs3 := hb3.size
    have hres := OutW.stored (o := (x, 0)) hx4 (hB2.trans (hb24.mono hB2.size)) (g := w.heap.size + 2) (by omega) (by omega) hz4
    clear hr hx4 hz4 q0 q1 q2 q3 f0 f1 f2 f3
    go_wp2_with fail
    exact bodyPost_ret (v := .tuple #[.agg #[.int .i64 x.k, .int .i64 x.n, .string ⟨x.t.toArray⟩, .slice a4 x.l.length c4], .int .i64 0]) (by simp [results, Tryz.results60, go_sem, hz, r0, r1, r2, r3]) rfl (by rw [hfin'.out]; exact hres)
  · have h0' : (er != 0) = true := by simp [h0]
    have hfin' : Hid (atV v k = (V.zero, er)) := by show _ = _; rw [hfin.out, if_neg h0]
    clear hfin hv hk hlt h0 hc
    go_enter Tryz.func60, Tryz.ntmps60
    go_wp2_with fail
    refine hP.mono ?_
    rintro e w3 ⟨rfl, hb3⟩
    clear hP
    obtain ⟨r0, r1, r2, r3, s0, s1, s2, s3, hz⟩ := hr w3 hb3
    have hres := outW_zero (e := er) (below_set4 (hB2.trans (hb3.mono hB2.size)) (g := w.heap.size + 2) (by omega) (.int .i64 0) (.int .i64 0) (.string ⟨#[]⟩) (.slice none 0 0))
    clear hr
    go_wp2_with fail
    exact bodyPost_ret (v := .tuple #[.agg #[.int .i64 0, .int .i64 0, .string ⟨#[]⟩, .slice none 0 0], .int .i64 er]) (by simp [results, Tryz.results60, go_sem, hz, r0, r1, r2, r3]) rfl (by rw [hfin'.out]; exact hres)
theorem at_any {B : Nat → Prop} {v k : V} {ao ak : Option Addr} {cap ck : Nat} {w : World} (hv : IsW B w v (.slice ao v.l.length cap)) (hk : IsW B w k (.slice ak k.l.length ck)) (hwv : wt v ≤ 400000) (ht : Tidy v) :
    Calls Tryz.prog 60 #[.agg #[.int .i64 v.k, .int .i64 v.n, .string ⟨v.t.toArray⟩, .slice ao v.l.length cap], .agg #[.int .i64 k.k, .int .i64 k.n, .string ⟨k.t.toArray⟩, .slice ak k.l.length ck]] w fun r w' => OutV w (atV v k) r w' := (atW_any hv hk hwv ht).mono fun e w' h => h.out
theorem nil_vs {B : Nat → Prop} {w : World} : IsVs B w [] (.slice none ([] : List V).length 0) := IsVs.nil
set_option maxRecDepth 100000 in
set_option maxHeartbeats 2000000 in
theorem delW_any {B : Nat → Prop} {v k : V} {ao ak : Option Addr} {cap ck : Nat} {w : World} (hv : IsW B w v (.slice ao v.l.length cap)) (hk : IsW B w k (.slice ak k.l.length ck)) (hwv : wt v ≤ 400000) (ht : Tidy v) :
    Calls Tryz.prog 63 #[.agg #[.int .i64 v.k, .int .i64 v.n, .string ⟨v.t.toArray⟩, .slice ao v.l.length cap], .agg #[.int .i64 k.k, .int .i64 k.n, .string ⟨k.t.toArray⟩, .slice ak k.l.length ck]] w fun r w' => OutW w (delV v k) r w' := by
  obtain ⟨ao', cap', e, c1, c2⟩ := hv.vs.slice
  simp only [Value.slice.injEq] at e
  obtain ⟨rfl, -, rfl⟩ := e
  have hwts := wt_eq v
  have hlv := wts_len v.l
  obtain ⟨w0, w1, w2, hW, hW1, hW2, hs0, hs1, hs2, hB2, hc, hr⟩ := boxed2r w v (.slice ao v.l.length cap) k (.slice ak k.l.length ck)
  obtain ⟨a0, a1, a2, a3, b0, b1, b2, b3⟩ := hc w2 (Below.refl _ _)
  by_cases h5 : v.k = 5
  · have hk5 : (v.k != 5) = false := by simp [h5]
    obtain ⟨t1, t2⟩ := ht h5
    have hF := find_any (hv.below hB2) (hk.below hB2) (by omega) t1 t2
    have hfin : Hid (delV v k = if hit k v.l = true then (.mk v.k v.n v.t (spl v.l (2 * kat k v.l) (2 * kat k v.l + 2) []), 0) else (v, 0)) := by show _ = _; unfold delV; rw [if_neg (by simp [h5])]
    have hh := @hit_some k v.l
    clear h5
    generalize kat k v.l = q at *
    generalize hit k v.l = t at *
    cases t
    · have hfin' : Hid (delV v k = (v, 0)) := by show _ = _; rw [hfin.out, if_neg (by simp)]
      have hcp : ∀ w3, Below w2.heap.size w2 w3 → Calls Tryz.prog 32 #[.agg #[.int .i64 v.k, .int .i64 v.n, .string ⟨v.t.toArray⟩, .slice ao v.l.length cap]] w3 fun r w' => NewW 1000001 w3 v r w' := fun w3 hb3 => copyW_any 1000001 _ _ B w3 (by omega) (by omega) ((hv.below hB2).below hb3)
      clear hfin hv hk hh
      go_enter Tryz.func63, Tryz.ntmps63
      go_wp2_with fail
      refine hF.mono ?_
      rintro e w3 ⟨rfl, hb3⟩
      clear hF
      obtain ⟨f0, f1, f2, f3, -⟩ := hc w3 hb3
      have hcp3 := hcp w3 hb3
      clear hc hcp
      go_wp2_with fail
      refine hcp3.mono ?_
      rintro e w4 ⟨⟨a4, c4, rfl, hx4, hz4⟩, hb4⟩
      clear hcp3
      have hb24 : Below w2.heap.size w2 w4 := hb3.trans (hb4.mono hb3.size)
      obtain ⟨r0, r1, r2, r3, s0, s1, s2, s3, hz⟩ := hr w4 hb24
      have hs3 := hb3.size
      have hres := OutW.stored (o := (v, 0)) hx4 (hB2.trans (hb24.mono hB2.size)) (g := w.heap.size + 2) (by omega) (by omega) hz4
      clear hr hx4 hz4 f0 f1 f2 f3
      go_wp2_with fail
      exact bodyPost_ret (v := .tuple #[.agg #[.int .i64 v.k, .int .i64 v.n, .string ⟨v.t.toArray⟩, .slice a4 v.l.length c4], .int .i64 0]) (by simp [results, Tryz.results63, go_sem, hz, r0, r1, r2, r3]) rfl (by rw [hfin'.out]; exact hres)
    · obtain ⟨u, HU⟩ : ∃ u : V, Hid (u = .mk v.k v.n v.t (spl v.l (2 * q) (2 * q + 2) [])) := ⟨_, rfl⟩
      have hfin' : Hid (delV v k = (u, 0)) := by show _ = _; rw [hfin.out, if_pos rfl, HU.out]
      have hq2 : 2 * q < v.l.length := (List.getElem?_eq_some_iff.1 (hh rfl)).1
      have hul : u.l.length ≤ v.l.length := by rw [HU.out]; simp [V.l, spl]; omega
      have huw : wt u ≤ 1000000 := by rw [HU.out, wt_mk]; have := wts_spl v.l (2 * q) (2 * q + 2) []; simp only [wts] at this; omega
      have hS : ∀ w3, Below w2.heap.size w2 w3 → Calls Tryz.prog 97 #[.agg #[.int .i64 v.k, .int .i64 v.n, .string ⟨v.t.toArray⟩, .slice ao v.l.length cap], .int .i64 (2 * q : Nat), .int .i64 (2 * q + 2 : Nat), .slice none 0 0] w3 fun r w' => (∃ ao' cap', r = .returned (.agg #[.int .i64 u.k, .int .i64 u.n, .string ⟨u.t.toArray⟩, .slice ao' u.l.length cap']) ∧ IsW (fun k => k ≠ w.heap.size) w' u (.slice ao' u.l.length cap')) ∧ Below w3.heap.size w3 w' := by
        intro w3 hb3
        have hs3 := hb3.size
        refine (spliced_any (B := Lob B w.heap.size) (f := 2 * q) (t := 2 * q + 2) (((hv.base (B' := Lob B w.heap.size) (fun k h1 h2 => ⟨h1, h2⟩)).below hB2).below hb3) nil_vs (by omega) (by omega) (by have h9 := hul; rw [HU.out] at h9; exact Nat.le_trans h9 (by omega))).mono ?_
        rintro e w' ⟨⟨x, y, rfl, h2⟩, h3⟩
        rw [HU.out]
        exact ⟨⟨x, y, rfl, hv.txt, hv.kr, hv.nr, h2.base (fun k hk _ => by
          show k ≠ w.heap.size
          rcases hk with hk | hk
          · have := hk.1.2; omega
          · omega)⟩, h3⟩
      clear hfin hv hk hh
      have hz1 : IntKind.i64.wrap (((2 * q : Nat) : Int) + 2) = ((2 * q + 2 : Nat) : Int) := by rw [IntKind.wrap_i64]; omega
      have hz2 : ((2 * q : Nat) : Int) + 2 = ((2 * q + 2 : Nat) : Int) := by omega
      have hz3 : IntKind.i64.wrap ((2 * q + 2 : Nat) : Int) = ((2 * q + 2 : Nat) : Int) := by rw [IntKind.wrap_i64]; omega
      generalize 2 * q + 2 = q2 at *
      generalize 2 * q = q1 at *
      go_enter Tryz.func63, Tryz.ntmps63
      go_wp2_with fail
      refine hF.mono ?_
      rintro e w3 ⟨rfl, hb3⟩
      clear hF
      obtain ⟨f0, f1, f2, f3, -⟩ := hc w3 hb3
      have hS3 := hS w3 hb3
      clear hS
      go_wp2_with fail
      refine hS3.mono ?_
      rintro e w4 ⟨⟨a4, c4, rfl, hx4⟩, hb4⟩
      clear hS3 f0 f1 f2 f3
      have hs4 := hb4.size
      have hs3 := hb3.size
      have hb24 : Below w2.heap.size w2 w4 := hb3.trans (hb4.mono hb3.size)
      have hblk4 : w4.heap[w.heap.size]? = some (.cells #[.int .i64 v.k, .int .i64 v.n, .string ⟨v.t.toArray⟩, .slice ao v.l.length cap] 31) := by
        rw [hb24.block _ (by omega), ← hW2, heap_alloc_old _ _ (by omega), ← hW1, heap_alloc_old _ _ (by omega), ← hW]
        exact heap_new _ _
      obtain ⟨g0, g1, g2, g3, z0, z1, z2, z3⟩ := cells_of4 hblk4
      obtain ⟨w5, hW5⟩ : ∃ w5, set4 w4 w.heap.size (.int .i64 u.k) (.int .i64 u.n) (.string ⟨u.t.toArray⟩) (.slice a4 u.l.length c4) = w5 := ⟨_, rfl⟩
      have hblk5 : w5.heap[w.heap.size]? = some (.cells #[.int .i64 u.k, .int .i64 u.n, .string ⟨u.t.toArray⟩, .slice a4 u.l.length c4] 31) := by rw [← hW5]; exact set4_blk hblk4 _ _ _ _
      obtain ⟨y0, y1, y2, y3, -⟩ := cells_of4 hblk5
      have hs5 : w5.heap.size = w4.heap.size := by rw [← hW5, set4_size]
      have hB5 : Below w.heap.size w w5 := by rw [← hW5]; exact below_set4 (hB2.trans (hb24.mono hB2.size)) (Nat.le_refl _) _ _ _ _
      have hx5 : IsW (fun k => k ≠ w.heap.size) w5 u (.slice a4 u.l.length c4) := by rw [← hW5]; exact hx4.since (since_set4 (by simp) _ _ _ _)
      have hcp5 := copyW_any 1000001 _ _ _ w5 (by omega) huw hx5
      obtain ⟨r0, r1, r2, r3, s0, s1, s2, s3, hz⟩ := hr w4 hb24
      have hblk6 : ∀ w6, Below w5.heap.size w5 w6 → w6.heap[w.heap.size + 2]? = some (.cells #[.int .i64 0, .int .i64 0, .string ⟨#[]⟩, .slice none 0 0] 31 (0, 0)) := by
        intro w6 hb6
        rw [hb6.block _ (by omega), ← hW5, set4_other (by omega), hb24.block _ (by omega), ← hs1]
        exact rbox_blk hW2 (Below.refl _ _)
      clear hx4 hx5 hr hc
      go_wp2_with fail
      refine hcp5.mono ?_
      rintro e w6 ⟨⟨a6, c6, rfl, hx6, hzw6⟩, hb6⟩
      clear hcp5
      obtain ⟨r0', r1', r2', r3', s0', s1', s2', s3'⟩ := cells_of4 (hblk6 w6 hb6)
      have hs6 := hb6.size
      have hz6 : w.heap.size + 2 < w6.heap.size := by omega
      have hres := OutW.stored (o := (u, 0)) hx6 (hB5.trans (hb6.mono (by omega))) (g := w.heap.size + 2) (by omega) (by omega) hzw6
      clear hx6 hzw6 hblk6 hblk5 hblk4 y0 y1 y2 y3 g0 g1 g2 g3 z0 z1 z2 z3 r0 r1 r2 r3 s0 s1 s2 s3
      go_wp2_with fail
      exact bodyPost_ret (v := .tuple #[.agg #[.int .i64 u.k, .int .i64 u.n, .string ⟨u.t.toArray⟩, .slice a6 u.l.length c6], .int .i64 0]) (by simp [results, Tryz.results63, go_sem, hz6, r0', r1', r2', r3']) rfl (by rw [hfin'.out]; exact hres)
  · have hk5 : (v.k != 5) = true := by simp [h5]
    have hfin : delV v k = (V.zero, 40) := by unfold delV; rw [if_pos h5]
    obtain ⟨r0, r1, r2, r3, s0, s1, s2, s3, hz⟩ := hr w2 (Below.refl _ _)
    have hres := outW_zero (e := 40) (below_set4 hB2 (g := w.heap.size + 2) (by omega) (.int .i64 0) (.int .i64 0) (.string ⟨#[]⟩) (.slice none 0 0))
    rw [← hfin] at hres
    clear hr hc hv hk hfin
    go_enter Tryz.func63, Tryz.ntmps63
    go_wp2_with fail
    exact bodyPost_ret (v := .tuple #[.agg #[.int .i64 0, .int .i64 0, .string ⟨#[]⟩, .slice none 0 0], .int .i64 40]) (by simp [results, Tryz.results63, go_sem, hz, r0, r1, r2, r3]) rfl hres
theorem del_any {B : Nat → Prop} {v k : V} {ao ak : Option Addr} {cap ck : Nat} {w : World} (hv : IsW B w v (.slice ao v.l.length cap)) (hk : IsW B w k (.slice ak k.l.length ck)) (hwv : wt v ≤ 400000) (ht : Tidy v) :
    Calls Tryz.prog 63 #[.agg #[.int .i64 v.k, .int .i64 v.n, .string ⟨v.t.toArray⟩, .slice ao v.l.length cap], .agg #[.int .i64 k.k, .int .i64 k.n, .string ⟨k.t.toArray⟩, .slice ak k.l.length ck]] w fun r w' => OutV w (delV v k) r w' := (delW_any hv hk hwv ht).mono fun e w' h => h.out
end Go.Proofs.YtnijcolomoobnaaGreatDoor
namespace Go.Proofs.YtnijcolomoobnaaGreatDoor
open Go.RowKit
set_option linter.unusedVariables false
set_option linter.unusedSimpArgs false

theorem boxed3r (w : World) (a : V) (sa : Value) (b : V) (sb : Value) (c : V) (sc : Value) : ∃ w0 w1 w2 w3, w.alloc (.cells #[.int .i64 a.k, .int .i64 a.n, .string ⟨a.t.toArray⟩, sa] 31) = w0 ∧ w0.alloc (.cells #[.int .i64 b.k, .int .i64 b.n, .string ⟨b.t.toArray⟩, sb] 31) = w1 ∧ w1.alloc (.cells #[.int .i64 c.k, .int .i64 c.n, .string ⟨c.t.toArray⟩, sc] 31) = w2 ∧ w2.alloc (.cells #[.int .i64 0, .int .i64 0, .string ⟨#[]⟩, .slice none 0 0] 31) = w3 ∧ w0.heap.size = w.heap.size + 1 ∧ w1.heap.size = w.heap.size + 2 ∧ w2.heap.size = w.heap.size + 3 ∧ w3.heap.size = w.heap.size + 4 ∧ Below w.heap.size w w3 ∧
    (∀ w4, Below w3.heap.size w3 w4 → (w4.cell? ⟨w.heap.size, 0, none⟩ = some (.int .i64 a.k) ∧ w4.cell? ⟨w.heap.size, 1, none⟩ = some (.int .i64 a.n) ∧ w4.cell? ⟨w.heap.size, 2, none⟩ = some (.string ⟨a.t.toArray⟩) ∧ w4.cell? ⟨w.heap.size, 3, none⟩ = some sa) ∧
      (w4.cell? ⟨w.heap.size + 1, 0, none⟩ = some (.int .i64 b.k) ∧ w4.cell? ⟨w.heap.size + 1, 1, none⟩ = some (.int .i64 b.n) ∧ w4.cell? ⟨w.heap.size + 1, 2, none⟩ = some (.string ⟨b.t.toArray⟩) ∧ w4.cell? ⟨w.heap.size + 1, 3, none⟩ = some sb) ∧
      (w4.cell? ⟨w.heap.size + 2, 0, none⟩ = some (.int .i64 c.k) ∧ w4.cell? ⟨w.heap.size + 2, 1, none⟩ = some (.int .i64 c.n) ∧ w4.cell? ⟨w.heap.size + 2, 2, none⟩ = some (.string ⟨c.t.toArray⟩) ∧ w4.cell? ⟨w.heap.size + 2, 3, none⟩ = some sc)) ∧
    (∀ w4, Below w3.heap.size w3 w4 → w4.cell? ⟨w.heap.size + 3, 0, none⟩ = some (.int .i64 0) ∧ w4.cell? ⟨w.heap.size + 3, 1, none⟩ = some (.int .i64 0) ∧ w4.cell? ⟨w.heap.size + 3, 2, none⟩ = some (.string ⟨#[]⟩) ∧ w4.cell? ⟨w.heap.size + 3, 3, none⟩ = some (.slice none 0 0) ∧
      w4.frozen? ⟨w.heap.size + 3, 0, none⟩ = false ∧ w4.frozen? ⟨w.heap.size + 3, 1, none⟩ = false ∧ w4.frozen? ⟨w.heap.size + 3, 2, none⟩ = false ∧ w4.frozen? ⟨w.heap.size + 3, 3, none⟩ = false ∧ w.heap.size + 3 < w4.heap.size) := by
  obtain ⟨w0, w1, hW, hW1, hs0, hs1, hB, d0, d1, d2, d3, e0, e1, e2, e3⟩ := boxed2 w a sa b sb
  obtain ⟨w2, hW2, hb2, hsz2, q0, q1, q2, q3⟩ := boxed w1 c sc
  obtain ⟨w3, hW3, hb3, hsz3, hr⟩ := rbox w2
  have hs2 : w2.heap.size = w.heap.size + 3 := by omega
  rw [hs2] at hr
  rw [hs1] at q0 q1 q2 q3
  have h2 : ∀ w4, Below w3.heap.size w3 w4 → ∀ b o, b < w2.heap.size → w4.cell? ⟨b, o, none⟩ = w2.cell? ⟨b, o, none⟩ := fun w4 h b o hb => ((bcell h).1 b o (by omega)).trans ((bcell hb3).1 b o hb)
  have h1 : ∀ w4, Below w3.heap.size w3 w4 → ∀ b o, b < w1.heap.size → w4.cell? ⟨b, o, none⟩ = w1.cell? ⟨b, o, none⟩ := fun w4 h b o hb => (h2 w4 h b o (by omega)).trans ((bcell hb2).1 b o hb)
  refine ⟨w0, w1, w2, w3, hW, hW1, hW2, hW3, hs0, hs1, hs2, by omega, hB.trans ((hb2.trans (hb3.mono hb2.size)).mono hB.size), fun w4 h => ?_, hr⟩
  have c1 := h1 w4 h
  have c2 := h2 w4 h
  exact ⟨⟨(c1 _ _ (by omega)).trans d0, (c1 _ _ (by omega)).trans d1, (c1 _ _ (by omega)).trans d2, (c1 _ _ (by omega)).trans d3⟩, ⟨(c1 _ _ (by omega)).trans e0, (c1 _ _ (by omega)).trans e1, (c1 _ _ (by omega)).trans e2, (c1 _ _ (by omega)).trans e3⟩, ⟨(c2 _ _ (by omega)).trans q0, (c2 _ _ (by omega)).trans q1, (c2 _ _ (by omega)).trans q2, (c2 _ _ (by omega)).trans q3⟩⟩
theorem splw_any {B B' : Nat → Prop} {v : V} {ao ax : Option Addr} {cap cx f t : Nat} {xs : List V} {w : World} (hv : IsW B w v (.slice ao v.l.length cap)) (hx : IsVs B w xs (.slice ax xs.length cx)) (hf : f ≤ v.l.length) (ht : t ≤ v.l.length) (hw : 1 + v.t.length + (wts v.l + wts xs + wts v.l) ≤ 1000000) {u : V} (hu : u = .mk v.k v.n v.t (spl v.l f t xs)) :
    Calls Tryz.prog 97 #[.agg #[.int .i64 v.k, .int .i64 v.n, .string ⟨v.t.toArray⟩, .slice ao v.l.length cap], .int .i64 f, .int .i64 t, .slice ax xs.length cx] w fun r w' => (∃ ao' cap', r = .returned (.agg #[.int .i64 u.k, .int .i64 u.n, .string ⟨u.t.toArray⟩, .slice ao' u.l.length cap']) ∧ Calls Tryz.prog 96 #[.agg #[.int .i64 u.k, .int .i64 u.n, .string ⟨u.t.toArray⟩, .slice ao' u.l.length cap']] w' fun r w'' => OutW w' (wgV u) r w'') ∧ Below w.heap.size w w' := by
  have h1 := wts_spl v.l f t xs
  have h2 := wts_len (spl v.l f t xs)
  refine (spliced_any hv hx hf ht (by omega)).mono ?_
  rintro e w' ⟨⟨x, y, rfl, h3⟩, h4⟩
  subst hu
  refine ⟨⟨x, y, rfl, weighedW_any (B := Up B w.heap.size) ⟨hv.txt, hv.kr, hv.nr, h3⟩ (by rw [wt_mk]; omega)⟩, h4⟩
set_option maxRecDepth 100000 in
set_option maxHeartbeats 4000000 in
theorem putW_any {B : Nat → Prop} {v k x : V} {ao ak ax : Option Addr} {cap ck cx : Nat} {w : World} (hv : IsW B w v (.slice ao v.l.length cap)) (hk : IsW B w k (.slice ak k.l.length ck)) (hx : IsW B w x (.slice ax x.l.length cx)) (hwv : wt v ≤ 200000) (hwk : wt k ≤ 200000) (hwx : wt x ≤ 200000) (ht : Tidy v) :
    Calls Tryz.prog 98 #[.agg #[.int .i64 v.k, .int .i64 v.n, .string ⟨v.t.toArray⟩, .slice ao v.l.length cap], .agg #[.int .i64 k.k, .int .i64 k.n, .string ⟨k.t.toArray⟩, .slice ak k.l.length ck], .agg #[.int .i64 x.k, .int .i64 x.n, .string ⟨x.t.toArray⟩, .slice ax x.l.length cx]] w fun r w' => OutW w (putV v k x) r w' := by
  obtain ⟨ao', cap', e, c1, c2⟩ := hv.vs.slice
  simp only [Value.slice.injEq] at e
  obtain ⟨rfl, -, rfl⟩ := e
  have hwts := wt_eq v
  have hlv := wts_len v.l
  obtain ⟨w0, w1, w2, w3, hW, hW1, hW2, hW3, hs0, hs1, hs2, hs3, hB3, hc, hr⟩ := boxed3r w v (.slice ao v.l.length cap) k (.slice ak k.l.length ck) x (.slice ax x.l.length cx)
  obtain ⟨⟨a0, a1, a2, a3⟩, ⟨b0, b1, b2, b3⟩, ⟨x0, x1, x2, x3⟩⟩ := hc w3 (Below.refl _ _)
  have hP := place_any (hv.below hB3) (hk.below hB3) (by omega) ht
  have hlt : (plV v k).2 = 0 → (plV v k).1 < v.l.length := plV_lt ht
  obtain ⟨o, HO⟩ : ∃ o, Hid (putV v k x = o) := ⟨_, rfl⟩
  rw [HO.out]
  have hput : Hid (o = if (plV v k).2 = 0 then wgV (.mk v.k v.n v.t (spl v.l (plV v k).1 ((plV v k).1 + 1) [x])) else if v.k ≠ 5 then (V.zero, (plV v k).2) else if 64 ≤ v.l.length / 2 then (V.zero, 53) else wgV (.mk v.k v.n v.t (spl v.l (2 * kat k v.l) (2 * kat k v.l) [k, x]))) := HO.out.symm
  clear HO
  generalize (plV v k).1 = i at *
  generalize (plV v k).2 = er at *
  by_cases h0 : er = 0
  · subst h0
    have hi : i < v.l.length := hlt rfl
    obtain ⟨u, HU⟩ : ∃ u : V, Hid (u = .mk v.k v.n v.t (spl v.l i (i + 1) [x])) := ⟨_, rfl⟩
    have hfin : Hid (o = wgV u) := by show _ = _; rw [hput.out, if_pos rfl, HU.out]
    have hS : ∀ w4, Below w3.heap.size w3 w4 → Calls Tryz.prog 97 #[.agg #[.int .i64 v.k, .int .i64 v.n, .string ⟨v.t.toArray⟩, .slice ao v.l.length cap], .int .i64 i, .int .i64 (i + 1 : Nat), .slice (some ⟨w4.heap.size, 0, none⟩) 1 1] (w4.alloc (.cells #[.int .i64 x.k, .int .i64 x.n, .string ⟨x.t.toArray⟩, .slice ax x.l.length cx] 31)) fun r w' => (∃ ao' cap', r = .returned (.agg #[.int .i64 u.k, .int .i64 u.n, .string ⟨u.t.toArray⟩, .slice ao' u.l.length cap']) ∧ Calls Tryz.prog 96 #[.agg #[.int .i64 u.k, .int .i64 u.n, .string ⟨u.t.toArray⟩, .slice ao' u.l.length cap']] w' fun r w'' => OutW w' (wgV u) r w'') ∧ Below w3.heap.size w3 w' := by
      intro w4 hb4
      have hba : Below w4.heap.size w4 (w4.alloc (.cells #[.int .i64 x.k, .int .i64 x.n, .string ⟨x.t.toArray⟩, .slice ax x.l.length cx] 31)) := (Below.refl _ _).alloc (Nat.le_refl _) _
      have hb34 : Below w3.heap.size w3 (w4.alloc (.cells #[.int .i64 x.k, .int .i64 x.n, .string ⟨x.t.toArray⟩, .slice ax x.l.length cx] 31)) := hb4.trans (hba.mono hb4.size)
      have hbw : Below w.heap.size w (w4.alloc (.cells #[.int .i64 x.k, .int .i64 x.n, .string ⟨x.t.toArray⟩, .slice ax x.l.length cx] 31)) := hB3.trans (hb34.mono hB3.size)
      have hone : IsVs (fun k => B k ∨ k = w4.heap.size) (w4.alloc (.cells #[.int .i64 x.k, .int .i64 x.n, .string ⟨x.t.toArray⟩, .slice ax x.l.length cx] 31)) [x] (.slice (some ⟨w4.heap.size, 0, none⟩) 1 1) := one_vs (heap_new w4 _) (hx.below hbw) (fun k h _ => Or.inl h) (Or.inr rfl)
      refine (splw_any (B' := B) ((hv.below hbw).base (B' := fun k => B k ∨ k = w4.heap.size) (fun k h _ => Or.inl h)) hone (by omega) (by omega) (by simp only [wts]; omega) HU.out).mono ?_
      rintro e w' ⟨h1, h2⟩
      exact ⟨h1, hb34.trans (h2.mono hb34.size)⟩
    clear hput hv hk hx HU
    have hz1 : IntKind.i64.wrap ((i : Int) + 1) = ((i + 1 : Nat) : Int) := by rw [IntKind.wrap_i64]; omega
    have hz2 : (i : Int) + 1 = ((i + 1 : Nat) : Int) := by omega
    have hz3 : IntKind.i64.wrap ((i + 1 : Nat) : Int) = ((i + 1 : Nat) : Int) := by rw [IntKind.wrap_i64]; omega
    generalize i + 1 = i1 at *
    go_enter Tryz.func98, Tryz.ntmps98
    go_wp2_with fail
    refine hP.mono ?_
    rintro e w4 ⟨rfl, hb4⟩
    clear hP
    obtain ⟨⟨a0', a1', a2', a3'⟩, -, ⟨x0', x1', x2', x3'⟩⟩ := hc w4 hb4
    have hS4 := hS w4 hb4
    clear hS hc a0 a1 a2 a3 b0 b1 b2 b3 x0 x1 x2 x3
    go_wp2_with fail
    refine hS4.mono ?_
    rintro e w5 ⟨⟨a5, c5, rfl, hWg⟩, hb5⟩
    clear hS4
    rw [← hfin.out] at hWg
    go_wp2_with fail
    refine hWg.mono ?_
    rintro e w6 ⟨⟨a6, c6, rfl, h6, hz6⟩, hb6⟩
    clear hWg
    have hb36 : Below w3.heap.size w3 w6 := hb5.trans (hb6.mono hb5.size)
    obtain ⟨r0, r1, r2, r3, s0, s1, s2, s3, hz⟩ := hr w6 hb36
    have hs5 := hb5.size
    have hres := OutW.stored h6 (hB3.trans (hb36.mono hB3.size)) (g := w.heap.size + 3) (by omega) (by omega) hz6
    clear hr h6 hz6
    go_wp2_with fail
    exact bodyPost_ret (v := .tuple #[.agg #[.int .i64 o.1.k, .int .i64 o.1.n, .string ⟨o.1.t.toArray⟩, .slice a6 o.1.l.length c6], .int .i64 o.2]) (by simp [results, Tryz.results98, go_sem, hz, r0, r1, r2, r3]) rfl hres
  · have h0' : (er == 0) = false := by simp [h0]
    by_cases h5 : v.k = 5
    · have hk5 : (v.k != 5) = false := by simp [h5]
      obtain ⟨t1, t2⟩ := ht h5
      have hPr : ∀ w4, Below w3.heap.size w3 w4 → Calls Tryz.prog 128 #[.agg #[.int .i64 v.k, .int .i64 v.n, .string ⟨v.t.toArray⟩, .slice ao v.l.length cap]] w4 fun r w' => r = .returned (.int .i64 ((v.l.length / 2 : Nat) : Int)) ∧ Below w4.heap.size w4 w' := fun w4 hb4 => prs_any ((hv.below hB3).below hb4)
      by_cases h64 : 64 ≤ v.l.length / 2
      · have hfin : Hid (o = (V.zero, 53)) := by show _ = _; rw [hput.out, if_neg h0, if_neg (by simp [h5]), if_pos h64]
        have h64I : (64 : Int) ≤ ((v.l.length / 2 : Nat) : Int) := by omega
        clear hput hv hk hx hlt h5 h0
        generalize hL : v.l.length / 2 = m at *
        go_enter Tryz.func98, Tryz.ntmps98
        go_wp2_with fail
        refine hP.mono ?_
        rintro e w4 ⟨rfl, hb4⟩
        clear hP
        obtain ⟨⟨a0', a1', a2', a3'⟩, -⟩ := hc w4 hb4
        have hPr4 := hPr w4 hb4
        clear hPr hc a0 a1 a2 a3 b0 b1 b2 b3 x0 x1 x2 x3
        go_wp2_with fail
        refine hPr4.mono ?_
        rintro e w5 ⟨rfl, hb5⟩
        clear hPr4
        have hb35 : Below w3.heap.size w3 w5 := hb4.trans (hb5.mono hb4.size)
        obtain ⟨r0, r1, r2, r3, s0, s1, s2, s3, hz⟩ := hr w5 hb35
        have hres := outW_zero (e := 53) (below_set4 (hB3.trans (hb35.mono hB3.size)) (g := w.heap.size + 3) (by omega) (.int .i64 0) (.int .i64 0) (.string ⟨#[]⟩) (.slice none 0 0))
        rw [← hfin.out] at hres
        clear hr
        go_wp2_with fail
        exact bodyPost_ret (v := .tuple #[.agg #[.int .i64 0, .int .i64 0, .string ⟨#[]⟩, .slice none 0 0], .int .i64 53]) (by simp [results, Tryz.results98, go_sem, hz, r0, r1, r2, r3]) rfl hres
      · have h64I : ¬ (64 : Int) ≤ ((v.l.length / 2 : Nat) : Int) := by omega
        have hF : ∀ w4, Below w3.heap.size w3 w4 → Calls Tryz.prog 99 #[.agg #[.int .i64 v.k, .int .i64 v.n, .string ⟨v.t.toArray⟩, .slice ao v.l.length cap], .agg #[.int .i64 k.k, .int .i64 k.n, .string ⟨k.t.toArray⟩, .slice ak k.l.length ck]] w4 fun r w' => r = .returned (.tuple #[.int .i64 (2 * kat k v.l : Nat), .bool (hit k v.l)]) ∧ Below w4.heap.size w4 w' := fun w4 hb4 => find_any ((hv.below hB3).below hb4) ((hk.below hB3).below hb4) (by omega) t1 t2
        have hle := kat_le k v.l
        obtain ⟨q, hq⟩ : ∃ q, 2 * kat k v.l = q := ⟨_, rfl⟩
        rw [hq] at hle
        simp only [hq] at hF
        obtain ⟨u, HU⟩ : ∃ u : V, Hid (u = .mk v.k v.n v.t (spl v.l q q [k, x])) := ⟨_, rfl⟩
        have hfin : Hid (o = wgV u) := by show _ = _; rw [hput.out, if_neg h0, if_neg (by simp [h5]), if_neg h64, HU.out, hq]
        have hS : ∀ w4, Below w3.heap.size w3 w4 → Calls Tryz.prog 97 #[.agg #[.int .i64 v.k, .int .i64 v.n, .string ⟨v.t.toArray⟩, .slice ao v.l.length cap], .int .i64 q, .int .i64 q, .slice (some ⟨w4.heap.size, 0, none⟩) 2 2] (w4.alloc (.cells #[.int .i64 k.k, .int .i64 k.n, .string ⟨k.t.toArray⟩, .slice ak k.l.length ck, .int .i64 x.k, .int .i64 x.n, .string ⟨x.t.toArray⟩, .slice ax x.l.length cx] 31)) fun r w' => (∃ ao' cap', r = .returned (.agg #[.int .i64 u.k, .int .i64 u.n, .string ⟨u.t.toArray⟩, .slice ao' u.l.length cap']) ∧ Calls Tryz.prog 96 #[.agg #[.int .i64 u.k, .int .i64 u.n, .string ⟨u.t.toArray⟩, .slice ao' u.l.length cap']] w' fun r w'' => OutW w' (wgV u) r w'') ∧ Below w3.heap.size w3 w' := by
          intro w4 hb4
          obtain ⟨wa, hWa⟩ : ∃ wa, w4.alloc (.cells #[.int .i64 k.k, .int .i64 k.n, .string ⟨k.t.toArray⟩, .slice ak k.l.length ck, .int .i64 x.k, .int .i64 x.n, .string ⟨x.t.toArray⟩, .slice ax x.l.length cx] 31) = wa := ⟨_, rfl⟩
          have hblk := heap_new w4 (.cells #[.int .i64 k.k, .int .i64 k.n, .string ⟨k.t.toArray⟩, .slice ak k.l.length ck, .int .i64 x.k, .int .i64 x.n, .string ⟨x.t.toArray⟩, .slice ax x.l.length cx] 31)
          rw [hWa] at hblk ⊢
          have hba : Below w4.heap.size w4 wa := by rw [← hWa]; exact (Below.refl _ _).alloc (Nat.le_refl _) _
          have hb34 : Below w3.heap.size w3 wa := hb4.trans (hba.mono hb4.size)
          have hbw : Below w.heap.size w wa := hB3.trans (hb34.mono hB3.size)
          have htwo : IsVs (fun k => B k ∨ k = w4.heap.size) wa [k, x] (.slice (some ⟨w4.heap.size, 0, none⟩) 2 2) := by
            refine ⟨[.int .i64 k.k, .int .i64 k.n, .string ⟨k.t.toArray⟩, .slice ak k.l.length ck, .int .i64 x.k, .int .i64 x.n, .string ⟨x.t.toArray⟩, .slice ax x.l.length cx], ⟨rfl, Or.inr ⟨w4.heap.size, 0, 2, rfl, Nat.le_refl _, by unfold maxLen; omega, Or.inr rfl, (Array.getElem?_eq_some_iff.1 hblk).1, fun j u hj => ?_⟩⟩, ?_⟩
            · rw [cell_block hblk, Nat.zero_add]
              simpa using hj
            · exact AllV.append (l := [k]) (row := [.int .i64 k.k, .int .i64 k.n, .string ⟨k.t.toArray⟩, .slice ak k.l.length ck]) (AllV.one (isV_iff.2 ⟨_, rfl, (hk.below hbw).base (fun k h _ => Or.inl h)⟩)) (AllV.one (isV_iff.2 ⟨_, rfl, (hx.below hbw).base (fun k h _ => Or.inl h)⟩))
          refine (splw_any (B' := B) ((hv.below hbw).base (B' := fun k => B k ∨ k = w4.heap.size) (fun k h _ => Or.inl h)) htwo (by omega) (by omega) (by simp only [wts]; omega) HU.out).mono ?_
          rintro e w' ⟨h1, h2⟩
          exact ⟨h1, hb34.trans (h2.mono hb34.size)⟩
        clear hput hv hk hx hlt h5 h0 HU hq
        generalize hit k v.l = t at *
        generalize hL : v.l.length / 2 = m at *
        go_enter Tryz.func98, Tryz.ntmps98
        go_wp2_with fail
        refine hP.mono ?_
        rintro e w4 ⟨rfl, hb4⟩
        clear hP
        obtain ⟨⟨a0', a1', a2', a3'⟩, -⟩ := hc w4 hb4
        have hPr4 := hPr w4 hb4
        clear hPr a0 a1 a2 a3 b0 b1 b2 b3 x0 x1 x2 x3
        go_wp2_with fail
        refine hPr4.mono ?_
        rintro e w5 ⟨rfl, hb5⟩
        clear hPr4 a0' a1' a2' a3'
        have hb35 : Below w3.heap.size w3 w5 := hb4.trans (hb5.mono hb4.size)
        obtain ⟨⟨a0', a1', a2', a3'⟩, ⟨b0', b1', b2', b3'⟩, -⟩ := hc w5 hb35
        have hF5 := hF w5 hb35
        clear hF
        go_wp2_with fail
        refine hF5.mono ?_
        rintro e w6 ⟨rfl, hb6⟩
        clear hF5 a0' a1' a2' a3' b0' b1' b2' b3'
        have hb36 : Below w3.heap.size w3 w6 := hb35.trans (hb6.mono hb35.size)
        obtain ⟨⟨a0', a1', a2', a3'⟩, ⟨b0', b1', b2', b3'⟩, ⟨x0', x1', x2', x3'⟩⟩ := hc w6 hb36
        have hS6 := hS w6 hb36
        clear hS hc
        go_wp2_with fail
        refine hS6.mono ?_
        rintro e w7 ⟨⟨a7, c7, rfl, hWg⟩, hb7⟩
        clear hS6 a0' a1' a2' a3' b0' b1' b2' b3' x0' x1' x2' x3'
        rw [← hfin.out] at hWg
        go_wp2_with fail
        refine hWg.mono ?_
        rintro e w8 ⟨⟨a8, c8, rfl, h8, hz8⟩, hb8⟩
        clear hWg
        have hb38 : Below w3.heap.size w3 w8 := hb7.trans (hb8.mono hb7.size)
        obtain ⟨r0, r1, r2, r3, s0, s1, s2, s3, hz⟩ := hr w8 hb38
        have hs7 := hb7.size
        have hres := OutW.stored h8 (hB3.trans (hb38.mono hB3.size)) (g := w.heap.size + 3) (by omega) (by omega) hz8
        clear hr h8 hz8
        go_wp2_with fail
        exact bodyPost_ret (v := .tuple #[.agg #[.int .i64 o.1.k, .int .i64 o.1.n, .string ⟨o.1.t.toArray⟩, .slice a8 o.1.l.length c8], .int .i64 o.2]) (by simp [results, Tryz.results98, go_sem, hz, r0, r1, r2, r3]) rfl hres
    · have hk5 : (v.k != 5) = true := by simp [h5]
      have hfin : Hid (o = (V.zero, er)) := by show _ = _; rw [hput.out, if_neg h0, if_pos h5]
      clear hput hv hk hx hlt
      go_enter Tryz.func98, Tryz.ntmps98
      go_wp2_with fail
      refine hP.mono ?_
      rintro e w4 ⟨rfl, hb4⟩
      clear hP
      obtain ⟨⟨a0', a1', a2', a3'⟩, -⟩ := hc w4 hb4
      clear hc a0 a1 a2 a3 b0 b1 b2 b3 x0 x1 x2 x3
      obtain ⟨r0, r1, r2, r3, s0, s1, s2, s3, hz⟩ := hr w4 hb4
      have hres := outW_zero (e := er) (below_set4 (hB3.trans (hb4.mono hB3.size)) (g := w.heap.size + 3) (by omega) (.int .i64 0) (.int .i64 0) (.string ⟨#[]⟩) (.slice none 0 0))
      rw [← hfin.out] at hres
      clear hr h0
      go_wp2_with fail
      exact bodyPost_ret (v := .tuple #[.agg #[.int .i64 0, .int .i64 0, .string ⟨#[]⟩, .slice none 0 0], .int .i64 er]) (by simp [results, Tryz.results98, go_sem, hz, r0, r1, r2, r3]) rfl hres
theorem put_any {B : Nat → Prop} {v k x : V} {ao ak ax : Option Addr} {cap ck cx : Nat} {w : World} (hv : IsW B w v (.slice ao v.l.length cap)) (hk : IsW B w k (.slice ak k.l.length ck)) (hx : IsW B w x (.slice ax x.l.length cx)) (hwv : wt v ≤ 200000) (hwk : wt k ≤ 200000) (hwx : wt x ≤ 200000) (ht : Tidy v) :
    Calls Tryz.prog 98 #[.agg #[.int .i64 v.k, .int .i64 v.n, .string ⟨v.t.toArray⟩, .slice ao v.l.length cap], .agg #[.int .i64 k.k, .int .i64 k.n, .string ⟨k.t.toArray⟩, .slice ak k.l.length ck], .agg #[.int .i64 x.k, .int .i64 x.n, .string ⟨x.t.toArray⟩, .slice ax x.l.length cx]] w fun r w' => OutV w (putV v k x) r w' := (putW_any hv hk hx hwv hwk hwx ht).mono fun e w' h => h.out
end Go.Proofs.YtnijcolomoobnaaGreatDoor
