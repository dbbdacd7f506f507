/- Texts of ours, joined: Ecl, Kb0. -/
import Derived.Test.YtndahpcjkcihlaaGreatG30
import Derived.Test.YtndahpcjkcihlaaGreatG13
import Derived.Test.YtndahpcjkcihlaaGreatG16
/- Bytes of lists and maps, Encode: the document's. -/
namespace Go.Proofs.YtndahpcjkcihlaaGreat
open Go.RowKit
set_option linter.unusedVariables false
set_option linter.unusedSimpArgs false

set_option maxRecDepth 100000 in
set_option maxHeartbeats 2000000 in
theorem rb_list {v : V} (hk : v.k = 4) (hok : ∀ x ∈ v.l, BytesOk x) (hlen : (enc v).length ≤ 800000) : BytesOk v := by
  intro ao cap B w hv
  obtain ⟨ao', cap', e, hc1, hc2⟩ := hv.vs.slice
  simp only [Value.slice.injEq] at e
  obtain ⟨rfl, -, rfl⟩ := e
  obtain ⟨w0, hW, hb0, hsz, d0, d1, d2, d3⟩ := boxed w v (.slice ao v.l.length cap)
  have hH : encH v = num v.l.length := by unfold encH; rw [if_neg (by omega), if_neg (by omega), if_neg (by omega), if_pos hk]
  have henc := enc_eq v
  have hP : Calls Tryz.prog 33 #[.slice none 0 0, .int .i64 v.l.length] w0 fun r w' => OutB w0.heap.size w0 (encH v) r w' := by
    have := rput_nil w0 (x := v.l.length) (by omega)
    rw [← hH] at this
    exact this
  have hround : ∀ (q : Nat) (wr : World) (ar : Option Addr) (cr : Nat), q < v.l.length → Below w.heap.size w wr → Own8 wr w0.heap.size ar cr (encH v ++ encs (v.l.take q)) → w0.heap.size ≤ wr.heap.size →
      ∃ (x : V) (g o : Nat) (ax : Option Addr) (cx : Nat) (wz w4 : World), ao = some ⟨g, o, none⟩ ∧ g < wr.heap.size ∧ wr.cell? ⟨g, o + q * 4, none⟩ = some (.int .i64 x.k) ∧ wr.cell? ⟨g, o + q * 4 + 1, none⟩ = some (.int .i64 x.n) ∧ wr.cell? ⟨g, o + q * 4 + 2, none⟩ = some (.string ⟨x.t.toArray⟩) ∧ wr.cell? ⟨g, o + q * 4 + 3, none⟩ = some (.slice ax x.l.length cx) ∧
        wr.alloc (.cells #[.int .i64 0, .int .i64 0, .string ⟨#[]⟩, .slice none 0 0] 44) = wz ∧ set4 wz wr.heap.size (.int .i64 x.k) (.int .i64 x.n) (.string ⟨x.t.toArray⟩) (.slice ax x.l.length cx) = w4 ∧ wr.heap.size < wz.heap.size ∧ wr.heap.size < w4.heap.size ∧
        (wz.cell? ⟨wr.heap.size, 0, none⟩ = some (.int .i64 0) ∧ wz.cell? ⟨wr.heap.size, 1, none⟩ = some (.int .i64 0) ∧ wz.cell? ⟨wr.heap.size, 2, none⟩ = some (.string ⟨#[]⟩) ∧ wz.cell? ⟨wr.heap.size, 3, none⟩ = some (.slice none 0 0)) ∧ (wz.frozen? ⟨wr.heap.size, 0, none⟩ = false ∧ wz.frozen? ⟨wr.heap.size, 1, none⟩ = false ∧ wz.frozen? ⟨wr.heap.size, 2, none⟩ = false ∧ wz.frozen? ⟨wr.heap.size, 3, none⟩ = false) ∧
        (w4.cell? ⟨wr.heap.size, 0, none⟩ = some (.int .i64 x.k) ∧ w4.cell? ⟨wr.heap.size, 1, none⟩ = some (.int .i64 x.n) ∧ w4.cell? ⟨wr.heap.size, 2, none⟩ = some (.string ⟨x.t.toArray⟩) ∧ w4.cell? ⟨wr.heap.size, 3, none⟩ = some (.slice ax x.l.length cx)) ∧
        Calls Tryz.prog 34 #[.agg #[.int .i64 x.k, .int .i64 x.n, .string ⟨x.t.toArray⟩, .slice ax x.l.length cx]] w4 fun r w5 => ∃ a5 n5 c5, r = .returned (.slice a5 n5 c5) ∧ ∃ a6 c6 w6, (Builtin.append_ #[26, 26] 26 #[.slice ar (encH v ++ encs (v.l.take q)).length cr, .slice a5 n5 c5]).run Tryz.prog w5 = .ok (.slice a6 (encH v ++ encs (v.l.take (q + 1))).length c6) w6 ∧ Own8 w6 w0.heap.size a6 c6 (encH v ++ encs (v.l.take (q + 1))) ∧ Below w.heap.size w w6 ∧ w0.heap.size ≤ w6.heap.size := by
    intro q wr ar cr hq hB ho hwr
    have hx : v.l[q]? = some v.l[q] := List.getElem?_eq_getElem hq
    obtain ⟨g, o, ax, cx, e, _, hg, c0, c1, c2, c3, hw⟩ := (hv.vs.below hB).get hx
    obtain ⟨wz, w4, hWz, hW4, hb4, hs4, hszz, hblk4, hz1, hz2⟩ := rdbox wr (.int .i64 v.l[q].k) (.int .i64 v.l[q].n) (.string ⟨v.l[q].t.toArray⟩) (.slice ax v.l[q].l.length cx)
    obtain ⟨t0, t1, t2, t3, -⟩ := cells_of4 hblk4
    refine ⟨v.l[q], g, o, ax, cx, wz, w4, e, hg, c0, c1, c2, c3, hWz, hW4, by omega, by omega, hz1, hz2, ⟨t0, t1, t2, t3⟩, ?_⟩
    have e1 := encs_take_succ hx
    have hle : (encs (v.l.take (q + 1))).length ≤ (encs v.l).length := by
      have := congrArg List.length (congrArg encs (List.take_append_drop (q + 1) v.l))
      rw [encs_append, List.length_append] at this; omega
    have hl2 : (encH v).length + (encs v.l).length ≤ 800000 := by have := congrArg List.length henc; rw [List.length_append] at this; omega
    have e2 : (encs (v.l.take (q + 1))).length = (encs (v.l.take q)).length + (enc v.l[q]).length := by rw [e1]; simp
    refine (hok _ (List.getElem_mem hq) ax cx B w4 (hw.below hb4)).mono ?_
    rintro r w5 ⟨⟨a5, c5, rfl, h5⟩, hb5⟩
    refine ⟨a5, _, c5, rfl, ?_⟩
    obtain ⟨n1, n2⟩ := owns_news h5
    obtain ⟨a6, c6, w6, h1, h2, h3, h4, h7⟩ := app_run_at (news := c8 (enc v.l[q])) Tryz.underlying26 byteInfo rfl (by decide) 26 (owns_below (owns_below ho hb4) hb5) n1 (by rw [c8_len]; omega) n2 (c8_one _) (by rw [List.length_append]; omega) (by decide) (by have := hb5.size; omega)
    rw [← c8_append] at h2
    rw [← List.length_append] at h1 h2
    rw [List.append_assoc, ← e1] at h1 h2
    have hw0 : w.heap.size ≤ w0.heap.size := by omega
    exact ⟨a6, c6, w6, h1, h2, hB.trans ((hb4.mono (by omega)).trans ((hb5.mono (by omega)).trans (h3.mono hw0))), by have := hb5.size; have := h3.size; omega⟩
  have hw0 : w.heap.size ≤ w0.heap.size := by omega
  have hgb : w.heap.size < w0.heap.size := by omega
  have q1 : (v.k == 1) = false := by simp [hk]
  have q2 : (v.k == 2) = false := by simp [hk]
  have q3 : (v.k == 3) = false := by simp [hk]
  have q4 : (v.k == 4) = true := by simp [hk]
  clear hv hk hok hH
  go_enter Tryz.func34, Tryz.ntmps34
  go_wp2_with fail
  refine hP.mono ?_
  rintro e w1 ⟨⟨a1, c1, rfl, h1⟩, hb1⟩
  have d3' : w1.cell? ⟨w.heap.size, 3, none⟩ = some (.slice ao v.l.length cap) := ((bcell hb1).1 _ _ hgb).trans d3
  have hs1 := hb1.size
  obtain ⟨N1, HN1⟩ : ∃ N1, Hid ((encH v).length = N1) := ⟨_, rfl⟩
  rw [HN1.out]
  clear hP d0 d1 d2 d3 hW
  go_wp2_with fail
  go_loopg [3, 51] v.l.length (fun gh s i wr => ∃ (q : Nat) (ar : Option Addr) (cr : Nat), q ≤ v.l.length ∧ gh = v.l.length - q ∧ i = .int .i64 q ∧ s = .slice ar (encH v ++ encs (v.l.take q)).length cr ∧ Hid (Own8 wr w0.heap.size ar cr (encH v ++ encs (v.l.take q)) ∧ Below w.heap.size w wr ∧ w0.heap.size ≤ wr.heap.size))
  case atStart => exact ⟨0, a1, c1, Nat.zero_le _, rfl, rfl, by rw [← HN1.out]; simp [encs], ⟨by simpa [encs] using h1, hb0.trans (hb1.mono hw0), hs1⟩⟩
  case round =>
    clear h1 hb1 d3' hs1 HN1
    obtain ⟨q, ar, cr, hq, rfl, rfl, rfl, HO⟩ := hrel
    obtain ⟨ho, hB, hwr⟩ := HO.out
    clear HO
    by_cases hlt : q < v.l.length
    · obtain ⟨x, g, o, ax, cx, wz, w4, rfl, hg, k0, k1, k2, k3, hWz, hW4, hz0, hz4, ⟨y0, y1, y2, y3⟩, ⟨z0, z1, z2, z3⟩, ⟨t0, t1, t2, t3⟩, hcall⟩ := hround q wr ar cr hlt hB ho hwr
      have hltI : (q : Int) < (v.l.length : Int) := by omega
      have hq0 : (0 : Int) ≤ (q : Int) := by omega
      generalize (encH v ++ encs (v.l.take q)).length = N at *
      obtain ⟨N5, HN5⟩ : ∃ N5, Hid ((encH v ++ encs (v.l.take (q + 1))).length = N5) := ⟨_, rfl⟩
      rw [HN5.out] at hcall
      have hcall' : Calls Tryz.prog 34 #[.agg #[.int .i64 x.k, .int .i64 x.n, .string ⟨x.t.toArray⟩, .slice ax x.l.length cx]] w4 fun r w5 => ∃ a5 n5 c5, r = .returned (.slice a5 n5 c5) ∧ ∃ a6 c6 w6, (Builtin.append_ #[26, 26] 26 #[.slice ar N cr, .slice a5 n5 c5]).run Tryz.prog w5 = .ok (.slice a6 N5 c6) w6 ∧ Hid (Own8 w6 w0.heap.size a6 c6 (encH v ++ encs (v.l.take (q + 1))) ∧ Below w.heap.size w w6 ∧ w0.heap.size ≤ w6.heap.size) := hcall.mono (fun r w5 h => by obtain ⟨a5, n5, c5, h1, a6, c6, w6, h2, h3⟩ := h; exact ⟨a5, n5, c5, h1, a6, c6, w6, h2, h3⟩)
      clear hround ho hcall hB
      go_wp2_with fail
      refine hcall'.mono ?_
      rintro e w5 ⟨a5, n5, c5, rfl, a6, c6, w6, hr6, HO6⟩
      clear hcall' y0 y1 y2 y3 z0 z1 z2 z3 t0 t1 t2 t3 k0 k1 k2 k3 hWz hW4
      go_wp2_with (at_builtin; refine Lib.wpList_append_run _ rfl _ _ 26 26 rfl _ _ rfl rfl _ _ hr6 ?_)
      go_roundg (v.l.length - (q + 1))
      case measure => omega
      case rel => exact ⟨q + 1, a6, c6, by omega, rfl, by go_num, by rw [HN5.out], HO6⟩
    · have hltI : ¬ (q : Int) < (v.l.length : Int) := by omega
      have hqe : q = v.l.length := by omega
      have hle : encH v ++ encs (v.l.take q) = enc v := by rw [hqe, List.take_length, ← henc]
      rw [hle] at ho
      rw [hle]
      have hfin : OutB w.heap.size w (enc v) (.returned (.slice ar (enc v).length cr)) wr := ⟨⟨ar, cr, rfl, owns_base ho hw0⟩, hB⟩
      clear hround ho hle hqe henc hlen
      generalize (enc v).length = N at *
      go_wp2
      go_ret
      exact hfin
set_option maxRecDepth 100000 in
set_option maxHeartbeats 2000000 in
theorem rb_map {v : V} (hk : v.k = 5) (hok : ∀ x ∈ v.l, BytesOk x) (hlen : (enc v).length ≤ 800000) : BytesOk v := by
  intro ao cap B w hv
  obtain ⟨ao', cap', e, hc1, hc2⟩ := hv.vs.slice
  simp only [Value.slice.injEq] at e
  obtain ⟨rfl, -, rfl⟩ := e
  obtain ⟨w0, hW, hb0, hsz, d0, d1, d2, d3⟩ := boxed w v (.slice ao v.l.length cap)
  have hH : encH v = num (v.l.length / 2) := by unfold encH; rw [if_neg (by omega), if_neg (by omega), if_neg (by omega), if_neg (by omega), if_pos hk]
  have henc := enc_eq v
  have hP : Calls Tryz.prog 33 #[.slice none 0 0, .int .i64 ((v.l.length : Int) / 2)] w0 fun r w' => OutB w0.heap.size w0 (encH v) r w' := by
    have := rput_nil w0 (x := (v.l.length / 2)) (by omega)
    rw [← hH] at this
    exact this
  have hround : ∀ (q : Nat) (wr : World) (ar : Option Addr) (cr : Nat), q < v.l.length → Below w.heap.size w wr → Own8 wr w0.heap.size ar cr (encH v ++ encs (v.l.take q)) → w0.heap.size ≤ wr.heap.size →
      ∃ (x : V) (g o : Nat) (ax : Option Addr) (cx : Nat) (wz w4 : World), ao = some ⟨g, o, none⟩ ∧ g < wr.heap.size ∧ wr.cell? ⟨g, o + q * 4, none⟩ = some (.int .i64 x.k) ∧ wr.cell? ⟨g, o + q * 4 + 1, none⟩ = some (.int .i64 x.n) ∧ wr.cell? ⟨g, o + q * 4 + 2, none⟩ = some (.string ⟨x.t.toArray⟩) ∧ wr.cell? ⟨g, o + q * 4 + 3, none⟩ = some (.slice ax x.l.length cx) ∧
        wr.alloc (.cells #[.int .i64 0, .int .i64 0, .string ⟨#[]⟩, .slice none 0 0] 44) = wz ∧ set4 wz wr.heap.size (.int .i64 x.k) (.int .i64 x.n) (.string ⟨x.t.toArray⟩) (.slice ax x.l.length cx) = w4 ∧ wr.heap.size < wz.heap.size ∧ wr.heap.size < w4.heap.size ∧
        (wz.cell? ⟨wr.heap.size, 0, none⟩ = some (.int .i64 0) ∧ wz.cell? ⟨wr.heap.size, 1, none⟩ = some (.int .i64 0) ∧ wz.cell? ⟨wr.heap.size, 2, none⟩ = some (.string ⟨#[]⟩) ∧ wz.cell? ⟨wr.heap.size, 3, none⟩ = some (.slice none 0 0)) ∧ (wz.frozen? ⟨wr.heap.size, 0, none⟩ = false ∧ wz.frozen? ⟨wr.heap.size, 1, none⟩ = false ∧ wz.frozen? ⟨wr.heap.size, 2, none⟩ = false ∧ wz.frozen? ⟨wr.heap.size, 3, none⟩ = false) ∧
        (w4.cell? ⟨wr.heap.size, 0, none⟩ = some (.int .i64 x.k) ∧ w4.cell? ⟨wr.heap.size, 1, none⟩ = some (.int .i64 x.n) ∧ w4.cell? ⟨wr.heap.size, 2, none⟩ = some (.string ⟨x.t.toArray⟩) ∧ w4.cell? ⟨wr.heap.size, 3, none⟩ = some (.slice ax x.l.length cx)) ∧
        Calls Tryz.prog 34 #[.agg #[.int .i64 x.k, .int .i64 x.n, .string ⟨x.t.toArray⟩, .slice ax x.l.length cx]] w4 fun r w5 => ∃ a5 n5 c5, r = .returned (.slice a5 n5 c5) ∧ ∃ a6 c6 w6, (Builtin.append_ #[26, 26] 26 #[.slice ar (encH v ++ encs (v.l.take q)).length cr, .slice a5 n5 c5]).run Tryz.prog w5 = .ok (.slice a6 (encH v ++ encs (v.l.take (q + 1))).length c6) w6 ∧ Own8 w6 w0.heap.size a6 c6 (encH v ++ encs (v.l.take (q + 1))) ∧ Below w.heap.size w w6 ∧ w0.heap.size ≤ w6.heap.size := by
    intro q wr ar cr hq hB ho hwr
    have hx : v.l[q]? = some v.l[q] := List.getElem?_eq_getElem hq
    obtain ⟨g, o, ax, cx, e, _, hg, c0, c1, c2, c3, hw⟩ := (hv.vs.below hB).get hx
    obtain ⟨wz, w4, hWz, hW4, hb4, hs4, hszz, hblk4, hz1, hz2⟩ := rdbox wr (.int .i64 v.l[q].k) (.int .i64 v.l[q].n) (.string ⟨v.l[q].t.toArray⟩) (.slice ax v.l[q].l.length cx)
    obtain ⟨t0, t1, t2, t3, -⟩ := cells_of4 hblk4
    refine ⟨v.l[q], g, o, ax, cx, wz, w4, e, hg, c0, c1, c2, c3, hWz, hW4, by omega, by omega, hz1, hz2, ⟨t0, t1, t2, t3⟩, ?_⟩
    have e1 := encs_take_succ hx
    have hle : (encs (v.l.take (q + 1))).length ≤ (encs v.l).length := by
      have := congrArg List.length (congrArg encs (List.take_append_drop (q + 1) v.l))
      rw [encs_append, List.length_append] at this; omega
    have hl2 : (encH v).length + (encs v.l).length ≤ 800000 := by have := congrArg List.length henc; rw [List.length_append] at this; omega
    have e2 : (encs (v.l.take (q + 1))).length = (encs (v.l.take q)).length + (enc v.l[q]).length := by rw [e1]; simp
    refine (hok _ (List.getElem_mem hq) ax cx B w4 (hw.below hb4)).mono ?_
    rintro r w5 ⟨⟨a5, c5, rfl, h5⟩, hb5⟩
    refine ⟨a5, _, c5, rfl, ?_⟩
    obtain ⟨n1, n2⟩ := owns_news h5
    obtain ⟨a6, c6, w6, h1, h2, h3, h4, h7⟩ := app_run_at (news := c8 (enc v.l[q])) Tryz.underlying26 byteInfo rfl (by decide) 26 (owns_below (owns_below ho hb4) hb5) n1 (by rw [c8_len]; omega) n2 (c8_one _) (by rw [List.length_append]; omega) (by decide) (by have := hb5.size; omega)
    rw [← c8_append] at h2
    rw [← List.length_append] at h1 h2
    rw [List.append_assoc, ← e1] at h1 h2
    have hw0 : w.heap.size ≤ w0.heap.size := by omega
    exact ⟨a6, c6, w6, h1, h2, hB.trans ((hb4.mono (by omega)).trans ((hb5.mono (by omega)).trans (h3.mono hw0))), by have := hb5.size; have := h3.size; omega⟩
  have hw0 : w.heap.size ≤ w0.heap.size := by omega
  have hgb : w.heap.size < w0.heap.size := by omega
  have q1 : (v.k == 1) = false := by simp [hk]
  have q2 : (v.k == 2) = false := by simp [hk]
  have q3 : (v.k == 3) = false := by simp [hk]
  have q4 : (v.k == 4) = false := by simp [hk]
  clear hv hk hok hH
  go_enter Tryz.func34, Tryz.ntmps34
  go_wp2_with fail
  refine hP.mono ?_
  rintro e w1 ⟨⟨a1, c1, rfl, h1⟩, hb1⟩
  have d3' : w1.cell? ⟨w.heap.size, 3, none⟩ = some (.slice ao v.l.length cap) := ((bcell hb1).1 _ _ hgb).trans d3
  have hs1 := hb1.size
  obtain ⟨N1, HN1⟩ : ∃ N1, Hid ((encH v).length = N1) := ⟨_, rfl⟩
  rw [HN1.out]
  clear hP d0 d1 d2 d3 hW
  go_wp2_with fail
  go_loopg [3, 51] v.l.length (fun gh s i wr => ∃ (q : Nat) (ar : Option Addr) (cr : Nat), q ≤ v.l.length ∧ gh = v.l.length - q ∧ i = .int .i64 q ∧ s = .slice ar (encH v ++ encs (v.l.take q)).length cr ∧ Hid (Own8 wr w0.heap.size ar cr (encH v ++ encs (v.l.take q)) ∧ Below w.heap.size w wr ∧ w0.heap.size ≤ wr.heap.size))
  case atStart => exact ⟨0, a1, c1, Nat.zero_le _, rfl, rfl, by rw [← HN1.out]; simp [encs], ⟨by simpa [encs] using h1, hb0.trans (hb1.mono hw0), hs1⟩⟩
  case round =>
    clear h1 hb1 d3' hs1 HN1
    obtain ⟨q, ar, cr, hq, rfl, rfl, rfl, HO⟩ := hrel
    obtain ⟨ho, hB, hwr⟩ := HO.out
    clear HO
    by_cases hlt : q < v.l.length
    · obtain ⟨x, g, o, ax, cx, wz, w4, rfl, hg, k0, k1, k2, k3, hWz, hW4, hz0, hz4, ⟨y0, y1, y2, y3⟩, ⟨z0, z1, z2, z3⟩, ⟨t0, t1, t2, t3⟩, hcall⟩ := hround q wr ar cr hlt hB ho hwr
      have hltI : (q : Int) < (v.l.length : Int) := by omega
      have hq0 : (0 : Int) ≤ (q : Int) := by omega
      generalize (encH v ++ encs (v.l.take q)).length = N at *
      obtain ⟨N5, HN5⟩ : ∃ N5, Hid ((encH v ++ encs (v.l.take (q + 1))).length = N5) := ⟨_, rfl⟩
      rw [HN5.out] at hcall
      have hcall' : Calls Tryz.prog 34 #[.agg #[.int .i64 x.k, .int .i64 x.n, .string ⟨x.t.toArray⟩, .slice ax x.l.length cx]] w4 fun r w5 => ∃ a5 n5 c5, r = .returned (.slice a5 n5 c5) ∧ ∃ a6 c6 w6, (Builtin.append_ #[26, 26] 26 #[.slice ar N cr, .slice a5 n5 c5]).run Tryz.prog w5 = .ok (.slice a6 N5 c6) w6 ∧ Hid (Own8 w6 w0.heap.size a6 c6 (encH v ++ encs (v.l.take (q + 1))) ∧ Below w.heap.size w w6 ∧ w0.heap.size ≤ w6.heap.size) := hcall.mono (fun r w5 h => by obtain ⟨a5, n5, c5, h1, a6, c6, w6, h2, h3⟩ := h; exact ⟨a5, n5, c5, h1, a6, c6, w6, h2, h3⟩)
      clear hround ho hcall hB
      go_wp2_with fail
      refine hcall'.mono ?_
      rintro e w5 ⟨a5, n5, c5, rfl, a6, c6, w6, hr6, HO6⟩
      clear hcall' y0 y1 y2 y3 z0 z1 z2 z3 t0 t1 t2 t3 k0 k1 k2 k3 hWz hW4
      go_wp2_with (at_builtin; refine Lib.wpList_append_run _ rfl _ _ 26 26 rfl _ _ rfl rfl _ _ hr6 ?_)
      go_roundg (v.l.length - (q + 1))
      case measure => omega
      case rel => exact ⟨q + 1, a6, c6, by omega, rfl, by go_num, by rw [HN5.out], HO6⟩
    · have hltI : ¬ (q : Int) < (v.l.length : Int) := by omega
      have hqe : q = v.l.length := by omega
      have hle : encH v ++ encs (v.l.take q) = enc v := by rw [hqe, List.take_length, ← henc]
      rw [hle] at ho
      rw [hle]
      have hfin : OutB w.heap.size w (enc v) (.returned (.slice ar (enc v).length cr)) wr := ⟨⟨ar, cr, rfl, owns_base ho hw0⟩, hB⟩
      clear hround ho hle hqe henc hlen
      generalize (enc v).length = N at *
      go_wp2
      go_ret
      exact hfin
theorem rbytes_all : ∀ (N : Nat) (v : V), wt v < N → wt v ≤ 16384 → OkV v → Tm v → BytesOk v := by
  intro N
  induction N with
  | zero => intro v h; omega
  | succ N ih =>
    intro v h hw ho ht
    have hen := enc_len v ho
    obtain ⟨hc, hm⟩ := ht.cases
    have hok : ∀ x ∈ v.l, BytesOk x := fun x hx => ih x (by have := wts_mem hx; have := wt_eq v; omega) (by have := wts_mem hx; have := wt_eq v; omega) (by obtain ⟨k, n, t, l⟩ := v; rw [OkV] at ho; exact okVs_mem ho.2.2.2.2 hx) (hm x hx)
    rcases hc with ⟨h1, h2⟩ | ⟨h1, h2, h3⟩ | ⟨h1, h2⟩ | h1 | h1
    · by_cases hn : v.n < 0
      · exact rb_neg h1 h2 hn
      · exact rb_pos h1 h2 hn
    · exact rb_bool h1 h3 h2
    · exact rb_text h1 h2 (by have := wt_eq v; omega)
    · exact rb_list h1 hok (by omega)
    · exact rb_map h1 hok (by omega)
end Go.Proofs.YtndahpcjkcihlaaGreat
/- A module's bytes, in plain mathematics; rows of bytes under way. -/
namespace Go.Proofs.YtndahpcjkcihlaaGreat
open Go.RowKit
set_option linter.unusedVariables false
set_option linter.unusedSimpArgs false

def eI (i : In) : List UInt8 := num i.op.toNat ++ num i.a.toNat
def xsF (f : Fu) : List Int := [f.params, f.locals, f.zero, f.stack, f.code.length]
def nInt (x : Int) : List UInt8 := num x.toNat
def eF (f : Fu) : List UInt8 := (xsF f).flatMap nInt ++ f.code.flatMap eI
def eC (v : V) : List UInt8 := num v.k.toNat ++ enc v
/-- A module's bytes. -/
def encM (m : Md) : List UInt8 := num m.consts.length ++ num m.funcs.length ++ m.consts.flatMap eC ++ m.funcs.flatMap eF
theorem flat_take {α : Type} {l : List α} {q : Nat} {x : α} (g : α → List UInt8) (h : l[q]? = some x) : (l.take (q + 1)).flatMap g = (l.take q).flatMap g ++ g x := by
  rw [List.take_add_one, h, List.flatMap_append]; simp
theorem flat_take_le {α : Type} (l : List α) (q : Nat) (g : α → List UInt8) : ((l.take q).flatMap g).length ≤ (l.flatMap g).length := by
  have h : l.flatMap g = (l.take q).flatMap g ++ (l.drop q).flatMap g := by rw [← List.flatMap_append, List.take_append_drop]
  rw [h]; simp
theorem flat_mem_le {α : Type} {l : List α} {q : Nat} {x : α} (g : α → List UInt8) (h : l[q]? = some x) : ((l.take q).flatMap g).length + (g x).length ≤ (l.flatMap g).length := by
  have := flat_take_le l (q + 1) g
  rw [flat_take g h] at this
  simpa using this
/-- A row of bytes of one's own, so and so long. -/
def OwnN (w : World) (base : Nat) (a : Option Addr) (N c : Nat) (bs : List UInt8) : Prop := N = bs.length ∧ Own8 w base a c bs
def OutN (w : World) (bs : List UInt8) (r : Ending) (w' : World) : Prop := (∃ a N c, r = .returned (.slice a N c) ∧ OwnN w' w.heap.size a N c bs) ∧ Below w.heap.size w w'
theorem OwnN.low {w : World} {base base' : Nat} {a : Option Addr} {N c : Nat} {bs : List UInt8} (h : OwnN w base a N c bs) (hb : base' ≤ base) : OwnN w base' a N c bs := ⟨h.1, owns_base h.2 hb⟩
theorem OwnN.keep {w w' : World} {base : Nat} {a : Option Addr} {N c : Nat} {bs : List UInt8} (h : OwnN w base a N c bs) (hb : Below w.heap.size w w') : OwnN w' base a N c bs := by
  refine ⟨h.1, h.2.1, ?_⟩
  rcases h.2.2 with q | ⟨g, cap, cur, q1, q2, q3, q4⟩
  · exact Or.inl q
  · exact Or.inr ⟨g, cap, cur, q1, q2, by rw [hb.block g (Array.getElem?_eq_some_iff.1 q3).1]; exact q3, q4⟩
theorem putN {w : World} {base : Nat} {a : Option Addr} {N c : Nat} {bs : List UInt8} (h : OwnN w base a N c bs) (hl : bs.length ≤ 900000) {x : Int} (h0 : 0 ≤ x) (hx : InR x) : Calls Tryz.prog 33 #[.slice a N c, .int .i64 x] w fun r w' => OutN w (bs ++ nInt x) r w' := by
  obtain ⟨rfl, ho⟩ := h
  have hc := rput_any (owns_b ho) hl (x := x.toNat) (by unfold InR at hx; omega)
  rw [show ((x.toNat : Nat) : Int) = x by omega] at hc
  refine hc.mono fun e w' hP => ?_
  obtain ⟨⟨a', c', h1, h2⟩, h3⟩ := hP
  exact ⟨⟨a', _, c', h1, rfl, h2⟩, h3⟩
/-- Bytes behind those of one's own. -/
theorem appN {w : World} {base : Nat} {a : Option Addr} {N c : Nat} {bs ys : List UInt8} {B : Nat → Prop} {a5 : Option Addr} {n5 c5 : Nat} (h : OwnN w base a N c bs) (hy : IsB B w (.slice a5 n5 c5) ys) (hb : base ≤ w.heap.size) (hl : bs.length + ys.length ≤ 900000) : ∃ a6 N6 c6 w6, (Builtin.append_ #[26, 26] 26 #[.slice a N c, .slice a5 n5 c5]).run Tryz.prog w = .ok (.slice a6 N6 c6) w6 ∧ OwnN w6 base a6 N6 c6 (bs ++ ys) ∧ Below base w w6 := by
  obtain ⟨rfl, ho⟩ := h
  have hn5 := hy.len
  subst hn5
  obtain ⟨n1, n2⟩ := hy.news
  obtain ⟨a6, c6, w6, hr, ho6, hb6, _⟩ := app_run Tryz.underlying26 byteInfo rfl (by decide) 26 (news := c8 ys) ho n1 (by rw [c8_len]; omega) n2 (c8_one _) (by omega) (by decide) hb
  refine ⟨a6, bs.length + ys.length, c6, w6, hr, ⟨by simp, ?_⟩, hb6⟩
  show w6.ownsRow base _ 1 (.slice a6 (bs ++ ys).length c6) (bs ++ ys).length (c8 (bs ++ ys))
  rw [List.length_append, c8_append]
  exact ho6
/-- What a constant is. -/
theorem ctype_shp {v : V} (h : ctype v ≠ []) : v.l = [] ∧ wt v ≤ 16384 ∧ ∃ T, Shp T v := by
  refine ⟨?_, ?_⟩
  · unfold ctype at h
    split at h
    · assumption
    · exact absurd rfl h
  · have hl : v.l = [] := by
      unfold ctype at h
      split at h
      · assumption
      · exact absurd rfl h
    unfold ctype at h
    rw [if_pos hl] at h
    rcases hf : tys.find? (fun t => fitS t v) with _ | t
    · rw [hf] at h; exact absurd rfl h
    · have h1 := List.find?_some hf
      have h1' : fitS t v = true := h1
      obtain ⟨T, -, hS⟩ := fit_shp h1'
      exact ⟨fit_wt h1', T, hS⟩
theorem shp_kpos {T : Ty} {v : V} (h : Shp T v) : 0 ≤ v.k := by
  have := h.kind
  rw [this]
  cases T <;> simp [kd]
end Go.Proofs.YtndahpcjkcihlaaGreat
