/- Put: the program's. -/
import Derived.Test.YtkbplffckkjbfaaVat
namespace Go.Proofs.Ytkbplffckkjbfaa
open Go.RowKit
set_option linter.unusedVariables false
set_option linter.unusedSimpArgs false

/-- Three parameters in their boxes, and the box for what is answered. -/
theorem boxed3r (w : World) (a : V) (sa : Value) (b : V) (sb : Value) (c : V) (sc : Value) : ∃ w0 w1 w2 w3, w.alloc (.cells #[.int .i64 a.k, .int .i64 a.n, .string ⟨a.t.toArray⟩, sa] 24) = w0 ∧ w0.alloc (.cells #[.int .i64 b.k, .int .i64 b.n, .string ⟨b.t.toArray⟩, sb] 24) = w1 ∧ w1.alloc (.cells #[.int .i64 c.k, .int .i64 c.n, .string ⟨c.t.toArray⟩, sc] 24) = w2 ∧ w2.alloc (.cells #[.int .i64 0, .int .i64 0, .string ⟨#[]⟩, .slice none 0 0] 24) = w3 ∧ w0.heap.size = w.heap.size + 1 ∧ w1.heap.size = w.heap.size + 2 ∧ w2.heap.size = w.heap.size + 3 ∧ w3.heap.size = w.heap.size + 4 ∧ Below w.heap.size w w3 ∧
    (∀ w4, Below w3.heap.size w3 w4 → (w4.cell? ⟨w.heap.size, 0, none⟩ = some (.int .i64 a.k) ∧ w4.cell? ⟨w.heap.size, 1, none⟩ = some (.int .i64 a.n) ∧ w4.cell? ⟨w.heap.size, 2, none⟩ = some (.string ⟨a.t.toArray⟩) ∧ w4.cell? ⟨w.heap.size, 3, none⟩ = some sa) ∧
      (w4.cell? ⟨w.heap.size + 1, 0, none⟩ = some (.int .i64 b.k) ∧ w4.cell? ⟨w.heap.size + 1, 1, none⟩ = some (.int .i64 b.n) ∧ w4.cell? ⟨w.heap.size + 1, 2, none⟩ = some (.string ⟨b.t.toArray⟩) ∧ w4.cell? ⟨w.heap.size + 1, 3, none⟩ = some sb) ∧
      (w4.cell? ⟨w.heap.size + 2, 0, none⟩ = some (.int .i64 c.k) ∧ w4.cell? ⟨w.heap.size + 2, 1, none⟩ = some (.int .i64 c.n) ∧ w4.cell? ⟨w.heap.size + 2, 2, none⟩ = some (.string ⟨c.t.toArray⟩) ∧ w4.cell? ⟨w.heap.size + 2, 3, none⟩ = some sc)) ∧
    (∀ w4, Below w3.heap.size w3 w4 → w4.cell? ⟨w.heap.size + 3, 0, none⟩ = some (.int .i64 0) ∧ w4.cell? ⟨w.heap.size + 3, 1, none⟩ = some (.int .i64 0) ∧ w4.cell? ⟨w.heap.size + 3, 2, none⟩ = some (.string ⟨#[]⟩) ∧ w4.cell? ⟨w.heap.size + 3, 3, none⟩ = some (.slice none 0 0) ∧
      w4.frozen? ⟨w.heap.size + 3, 0, none⟩ = false ∧ w4.frozen? ⟨w.heap.size + 3, 1, none⟩ = false ∧ w4.frozen? ⟨w.heap.size + 3, 2, none⟩ = false ∧ w4.frozen? ⟨w.heap.size + 3, 3, none⟩ = false ∧ w.heap.size + 3 < w4.heap.size) := by
  obtain ⟨w0, w1, hW, hW1, hs0, hs1, hB, d0, d1, d2, d3, e0, e1, e2, e3⟩ := boxed2 w a sa b sb
  obtain ⟨w2, hW2, hb2, hsz2, q0, q1, q2, q3⟩ := boxed w1 c sc
  obtain ⟨w3, hW3, hb3, hsz3, hr⟩ := rbox w2
  have hs2 : w2.heap.size = w.heap.size + 3 := by omega
  rw [hs2] at hr
  rw [hs1] at q0 q1 q2 q3
  have h2 : ∀ w4, Below w3.heap.size w3 w4 → ∀ b o, b < w2.heap.size → w4.cell? ⟨b, o, none⟩ = w2.cell? ⟨b, o, none⟩ := fun w4 h b o hb => ((bcell h).1 b o (by omega)).trans ((bcell hb3).1 b o hb)
  have h1 : ∀ w4, Below w3.heap.size w3 w4 → ∀ b o, b < w1.heap.size → w4.cell? ⟨b, o, none⟩ = w1.cell? ⟨b, o, none⟩ := fun w4 h b o hb => (h2 w4 h b o (by omega)).trans ((bcell hb2).1 b o hb)
  refine ⟨w0, w1, w2, w3, hW, hW1, hW2, hW3, hs0, hs1, hs2, by omega, hB.trans ((hb2.trans (hb3.mono hb2.size)).mono hB.size), fun w4 h => ?_, hr⟩
  have c1 := h1 w4 h
  have c2 := h2 w4 h
  exact ⟨⟨(c1 _ _ (by omega)).trans d0, (c1 _ _ (by omega)).trans d1, (c1 _ _ (by omega)).trans d2, (c1 _ _ (by omega)).trans d3⟩, ⟨(c1 _ _ (by omega)).trans e0, (c1 _ _ (by omega)).trans e1, (c1 _ _ (by omega)).trans e2, (c1 _ _ (by omega)).trans e3⟩, ⟨(c2 _ _ (by omega)).trans q0, (c2 _ _ (by omega)).trans q1, (c2 _ _ (by omega)).trans q2, (c2 _ _ (by omega)).trans q3⟩⟩
/-- Others in the place of some, weighed: as one. -/
theorem splw_any {B B' : Nat → Prop} {v : V} {ao ax : Option Addr} {cap cx f t : Nat} {xs : List V} {w : World} (hv : IsW B w v (.slice ao v.l.length cap)) (hx : IsVs B w xs (.slice ax xs.length cx)) (hf : f ≤ v.l.length) (ht : t ≤ v.l.length) (hw : 1 + v.t.length + (wts v.l + wts xs + wts v.l) ≤ 1000000) {u : V} (hu : u = .mk v.k v.n v.t (spl v.l f t xs)) :
    Calls Try.prog 63 #[.agg #[.int .i64 v.k, .int .i64 v.n, .string ⟨v.t.toArray⟩, .slice ao v.l.length cap], .int .i64 f, .int .i64 t, .slice ax xs.length cx] w fun r w' => (∃ ao' cap', r = .returned (.agg #[.int .i64 u.k, .int .i64 u.n, .string ⟨u.t.toArray⟩, .slice ao' u.l.length cap']) ∧ Calls Try.prog 62 #[.agg #[.int .i64 u.k, .int .i64 u.n, .string ⟨u.t.toArray⟩, .slice ao' u.l.length cap']] w' fun r w'' => OutV w' (wgV u) r w'') ∧ Below w.heap.size w w' := by
  have h1 := wts_spl v.l f t xs
  have h2 := wts_len (spl v.l f t xs)
  refine (spliced_any hv hx hf ht (by omega)).mono ?_
  rintro e w' ⟨⟨x, y, rfl, h3⟩, h4⟩
  subst hu
  refine ⟨⟨x, y, rfl, weighed_any (B := Up B w.heap.size) ⟨hv.txt, hv.kr, hv.nr, h3⟩ (by rw [wt_mk]; omega)⟩, h4⟩
set_option maxRecDepth 100000 in
set_option maxHeartbeats 4000000 in
theorem put_any {B : Nat → Prop} {v k x : V} {ao ak ax : Option Addr} {cap ck cx : Nat} {w : World} (hv : IsW B w v (.slice ao v.l.length cap)) (hk : IsW B w k (.slice ak k.l.length ck)) (hx : IsW B w x (.slice ax x.l.length cx)) (hwv : wt v ≤ 200000) (hwk : wt k ≤ 200000) (hwx : wt x ≤ 200000) (ht : Tidy v) :
    Calls Try.prog 34 #[.agg #[.int .i64 v.k, .int .i64 v.n, .string ⟨v.t.toArray⟩, .slice ao v.l.length cap], .agg #[.int .i64 k.k, .int .i64 k.n, .string ⟨k.t.toArray⟩, .slice ak k.l.length ck], .agg #[.int .i64 x.k, .int .i64 x.n, .string ⟨x.t.toArray⟩, .slice ax x.l.length cx]] w fun r w' => OutV w (putV v k x) r w' := by
  obtain ⟨ao', cap', e, c1, c2⟩ := hv.vs.slice
  simp only [Value.slice.injEq] at e
  obtain ⟨rfl, -, rfl⟩ := e
  have hwts := wt_eq v
  have hlv := wts_len v.l
  obtain ⟨w0, w1, w2, w3, hW, hW1, hW2, hW3, hs0, hs1, hs2, hs3, hB3, hc, hr⟩ := boxed3r w v (.slice ao v.l.length cap) k (.slice ak k.l.length ck) x (.slice ax x.l.length cx)
  obtain ⟨⟨a0, a1, a2, a3⟩, ⟨b0, b1, b2, b3⟩, ⟨x0, x1, x2, x3⟩⟩ := hc w3 (Below.refl _ _)
  have hP := place_any (hv.below hB3) (hk.below hB3) (by omega) ht
  have hlt : (plV v k).2 = 0 → (plV v k).1 < v.l.length := plV_lt ht
  obtain ⟨o, HO⟩ : ∃ o, Hid (putV v k x = o) := ⟨_, rfl⟩
  rw [HO.out]
  have hput : Hid (o = if (plV v k).2 = 0 then wgV (.mk v.k v.n v.t (spl v.l (plV v k).1 ((plV v k).1 + 1) [x])) else if v.k ≠ 5 then (V.zero, (plV v k).2) else if 64 ≤ v.l.length / 2 then (V.zero, 53) else wgV (.mk v.k v.n v.t (spl v.l (2 * kat k v.l) (2 * kat k v.l) [k, x]))) := HO.out.symm
  clear HO
  generalize (plV v k).1 = i at *
  generalize (plV v k).2 = er at *
  by_cases h0 : er = 0
  · subst h0
    have hi : i < v.l.length := hlt rfl
    obtain ⟨u, HU⟩ : ∃ u : V, Hid (u = .mk v.k v.n v.t (spl v.l i (i + 1) [x])) := ⟨_, rfl⟩
    have hfin : Hid (o = wgV u) := by show _ = _; rw [hput.out, if_pos rfl, HU.out]
    have hS : ∀ w4, Below w3.heap.size w3 w4 → Calls Try.prog 63 #[.agg #[.int .i64 v.k, .int .i64 v.n, .string ⟨v.t.toArray⟩, .slice ao v.l.length cap], .int .i64 i, .int .i64 (i + 1 : Nat), .slice (some ⟨w4.heap.size, 0, none⟩) 1 1] (w4.alloc (.cells #[.int .i64 x.k, .int .i64 x.n, .string ⟨x.t.toArray⟩, .slice ax x.l.length cx] 24)) fun r w' => (∃ ao' cap', r = .returned (.agg #[.int .i64 u.k, .int .i64 u.n, .string ⟨u.t.toArray⟩, .slice ao' u.l.length cap']) ∧ Calls Try.prog 62 #[.agg #[.int .i64 u.k, .int .i64 u.n, .string ⟨u.t.toArray⟩, .slice ao' u.l.length cap']] w' fun r w'' => OutV w' (wgV u) r w'') ∧ Below w3.heap.size w3 w' := by
      intro w4 hb4
      have hba : Below w4.heap.size w4 (w4.alloc (.cells #[.int .i64 x.k, .int .i64 x.n, .string ⟨x.t.toArray⟩, .slice ax x.l.length cx] 24)) := (Below.refl _ _).alloc (Nat.le_refl _) _
      have hb34 : Below w3.heap.size w3 (w4.alloc (.cells #[.int .i64 x.k, .int .i64 x.n, .string ⟨x.t.toArray⟩, .slice ax x.l.length cx] 24)) := hb4.trans (hba.mono hb4.size)
      have hbw : Below w.heap.size w (w4.alloc (.cells #[.int .i64 x.k, .int .i64 x.n, .string ⟨x.t.toArray⟩, .slice ax x.l.length cx] 24)) := hB3.trans (hb34.mono hB3.size)
      have hone : IsVs (fun k => B k ∨ k = w4.heap.size) (w4.alloc (.cells #[.int .i64 x.k, .int .i64 x.n, .string ⟨x.t.toArray⟩, .slice ax x.l.length cx] 24)) [x] (.slice (some ⟨w4.heap.size, 0, none⟩) 1 1) := one_vs (heap_new w4 _) (hx.below hbw) (fun k h _ => Or.inl h) (Or.inr rfl)
      refine (splw_any (B' := B) ((hv.below hbw).base (B' := fun k => B k ∨ k = w4.heap.size) (fun k h _ => Or.inl h)) hone (by omega) (by omega) (by simp only [wts]; omega) HU.out).mono ?_
      rintro e w' ⟨h1, h2⟩
      exact ⟨h1, hb34.trans (h2.mono hb34.size)⟩
    clear hput hv hk hx HU
    have hz1 : IntKind.i64.wrap ((i : Int) + 1) = ((i + 1 : Nat) : Int) := by rw [IntKind.wrap_i64]; omega
    have hz2 : (i : Int) + 1 = ((i + 1 : Nat) : Int) := by omega
    have hz3 : IntKind.i64.wrap ((i + 1 : Nat) : Int) = ((i + 1 : Nat) : Int) := by rw [IntKind.wrap_i64]; omega
    generalize i + 1 = i1 at *
    go_enter Try.func34, Try.ntmps34
    go_wp2_with fail
    refine hP.mono ?_
    rintro e w4 ⟨rfl, hb4⟩
    clear hP
    obtain ⟨⟨a0', a1', a2', a3'⟩, -, ⟨x0', x1', x2', x3'⟩⟩ := hc w4 hb4
    have hS4 := hS w4 hb4
    clear hS hc a0 a1 a2 a3 b0 b1 b2 b3 x0 x1 x2 x3
    go_wp2_with fail
    refine hS4.mono ?_
    rintro e w5 ⟨⟨a5, c5, rfl, hWg⟩, hb5⟩
    clear hS4
    rw [← hfin.out] at hWg
    go_wp2_with fail
    refine hWg.mono ?_
    rintro e w6 ⟨⟨a6, c6, rfl, h6⟩, hb6⟩
    clear hWg
    have hb36 : Below w3.heap.size w3 w6 := hb5.trans (hb6.mono hb5.size)
    obtain ⟨r0, r1, r2, r3, s0, s1, s2, s3, hz⟩ := hr w6 hb36
    have hs5 := hb5.size
    have hres := OutV.stored h6 (hB3.trans (hb36.mono hB3.size)) (g := w.heap.size + 3) (by omega) (by omega)
    clear hr h6
    go_wp2_with fail
    exact bodyPost_ret (v := .tuple #[.agg #[.int .i64 o.1.k, .int .i64 o.1.n, .string ⟨o.1.t.toArray⟩, .slice a6 o.1.l.length c6], .int .i64 o.2]) (by simp [results, Try.results34, go_sem, hz, r0, r1, r2, r3]) rfl hres
  · have h0' : (er == 0) = false := by simp [h0]
    by_cases h5 : v.k = 5
    · have hk5 : (v.k != 5) = false := by simp [h5]
      obtain ⟨t1, t2⟩ := ht h5
      have hPr : ∀ w4, Below w3.heap.size w3 w4 → Calls Try.prog 56 #[.agg #[.int .i64 v.k, .int .i64 v.n, .string ⟨v.t.toArray⟩, .slice ao v.l.length cap]] w4 fun r w' => r = .returned (.int .i64 ((v.l.length / 2 : Nat) : Int)) ∧ Below w4.heap.size w4 w' := fun w4 hb4 => prs_any ((hv.below hB3).below hb4)
      by_cases h64 : 64 ≤ v.l.length / 2
      · have hfin : Hid (o = (V.zero, 53)) := by show _ = _; rw [hput.out, if_neg h0, if_neg (by simp [h5]), if_pos h64]
        have h64I : (64 : Int) ≤ ((v.l.length / 2 : Nat) : Int) := by omega
        clear hput hv hk hx hlt h5 h0
        generalize hL : v.l.length / 2 = m at *
        go_enter Try.func34, Try.ntmps34
        go_wp2_with fail
        refine hP.mono ?_
        rintro e w4 ⟨rfl, hb4⟩
        clear hP
        obtain ⟨⟨a0', a1', a2', a3'⟩, -⟩ := hc w4 hb4
        have hPr4 := hPr w4 hb4
        clear hPr hc a0 a1 a2 a3 b0 b1 b2 b3 x0 x1 x2 x3
        go_wp2_with fail
        refine hPr4.mono ?_
        rintro e w5 ⟨rfl, hb5⟩
        clear hPr4
        have hb35 : Below w3.heap.size w3 w5 := hb4.trans (hb5.mono hb4.size)
        obtain ⟨r0, r1, r2, r3, s0, s1, s2, s3, hz⟩ := hr w5 hb35
        have hres := outV_zero (e := 53) (below_set4 (hB3.trans (hb35.mono hB3.size)) (g := w.heap.size + 3) (by omega) (.int .i64 0) (.int .i64 0) (.string ⟨#[]⟩) (.slice none 0 0))
        rw [← hfin.out] at hres
        clear hr
        go_wp2_with fail
        exact bodyPost_ret (v := .tuple #[.agg #[.int .i64 0, .int .i64 0, .string ⟨#[]⟩, .slice none 0 0], .int .i64 53]) (by simp [results, Try.results34, go_sem, hz, r0, r1, r2, r3]) rfl hres
      · have h64I : ¬ (64 : Int) ≤ ((v.l.length / 2 : Nat) : Int) := by omega
        have hF : ∀ w4, Below w3.heap.size w3 w4 → Calls Try.prog 61 #[.agg #[.int .i64 v.k, .int .i64 v.n, .string ⟨v.t.toArray⟩, .slice ao v.l.length cap], .agg #[.int .i64 k.k, .int .i64 k.n, .string ⟨k.t.toArray⟩, .slice ak k.l.length ck]] w4 fun r w' => r = .returned (.tuple #[.int .i64 (2 * kat k v.l : Nat), .bool (hit k v.l)]) ∧ Below w4.heap.size w4 w' := fun w4 hb4 => find_any ((hv.below hB3).below hb4) ((hk.below hB3).below hb4) (by omega) t1 t2
        have hle := kat_le k v.l
        obtain ⟨q, hq⟩ : ∃ q, 2 * kat k v.l = q := ⟨_, rfl⟩
        rw [hq] at hle
        simp only [hq] at hF
        obtain ⟨u, HU⟩ : ∃ u : V, Hid (u = .mk v.k v.n v.t (spl v.l q q [k, x])) := ⟨_, rfl⟩
        have hfin : Hid (o = wgV u) := by show _ = _; rw [hput.out, if_neg h0, if_neg (by simp [h5]), if_neg h64, HU.out, hq]
        have hS : ∀ w4, Below w3.heap.size w3 w4 → Calls Try.prog 63 #[.agg #[.int .i64 v.k, .int .i64 v.n, .string ⟨v.t.toArray⟩, .slice ao v.l.length cap], .int .i64 q, .int .i64 q, .slice (some ⟨w4.heap.size, 0, none⟩) 2 2] (w4.alloc (.cells #[.int .i64 k.k, .int .i64 k.n, .string ⟨k.t.toArray⟩, .slice ak k.l.length ck, .int .i64 x.k, .int .i64 x.n, .string ⟨x.t.toArray⟩, .slice ax x.l.length cx] 24)) fun r w' => (∃ ao' cap', r = .returned (.agg #[.int .i64 u.k, .int .i64 u.n, .string ⟨u.t.toArray⟩, .slice ao' u.l.length cap']) ∧ Calls Try.prog 62 #[.agg #[.int .i64 u.k, .int .i64 u.n, .string ⟨u.t.toArray⟩, .slice ao' u.l.length cap']] w' fun r w'' => OutV w' (wgV u) r w'') ∧ Below w3.heap.size w3 w' := by
          intro w4 hb4
          obtain ⟨wa, hWa⟩ : ∃ wa, w4.alloc (.cells #[.int .i64 k.k, .int .i64 k.n, .string ⟨k.t.toArray⟩, .slice ak k.l.length ck, .int .i64 x.k, .int .i64 x.n, .string ⟨x.t.toArray⟩, .slice ax x.l.length cx] 24) = wa := ⟨_, rfl⟩
          have hblk := heap_new w4 (.cells #[.int .i64 k.k, .int .i64 k.n, .string ⟨k.t.toArray⟩, .slice ak k.l.length ck, .int .i64 x.k, .int .i64 x.n, .string ⟨x.t.toArray⟩, .slice ax x.l.length cx] 24)
          rw [hWa] at hblk ⊢
          have hba : Below w4.heap.size w4 wa := by rw [← hWa]; exact (Below.refl _ _).alloc (Nat.le_refl _) _
          have hb34 : Below w3.heap.size w3 wa := hb4.trans (hba.mono hb4.size)
          have hbw : Below w.heap.size w wa := hB3.trans (hb34.mono hB3.size)
          have htwo : IsVs (fun k => B k ∨ k = w4.heap.size) wa [k, x] (.slice (some ⟨w4.heap.size, 0, none⟩) 2 2) := by
            refine ⟨[.int .i64 k.k, .int .i64 k.n, .string ⟨k.t.toArray⟩, .slice ak k.l.length ck, .int .i64 x.k, .int .i64 x.n, .string ⟨x.t.toArray⟩, .slice ax x.l.length cx], ⟨rfl, Or.inr ⟨w4.heap.size, 0, 2, rfl, Nat.le_refl _, by unfold maxLen; omega, Or.inr rfl, (Array.getElem?_eq_some_iff.1 hblk).1, fun j u hj => ?_⟩⟩, ?_⟩
            · rw [cell_block hblk, Nat.zero_add]
              simpa using hj
            · exact AllV.append (l := [k]) (row := [.int .i64 k.k, .int .i64 k.n, .string ⟨k.t.toArray⟩, .slice ak k.l.length ck]) (AllV.one (isV_iff.2 ⟨_, rfl, (hk.below hbw).base (fun k h _ => Or.inl h)⟩)) (AllV.one (isV_iff.2 ⟨_, rfl, (hx.below hbw).base (fun k h _ => Or.inl h)⟩))
          refine (splw_any (B' := B) ((hv.below hbw).base (B' := fun k => B k ∨ k = w4.heap.size) (fun k h _ => Or.inl h)) htwo (by omega) (by omega) (by simp only [wts]; omega) HU.out).mono ?_
          rintro e w' ⟨h1, h2⟩
          exact ⟨h1, hb34.trans (h2.mono hb34.size)⟩
        clear hput hv hk hx hlt h5 h0 HU hq
        generalize hit k v.l = t at *
        generalize hL : v.l.length / 2 = m at *
        go_enter Try.func34, Try.ntmps34
        go_wp2_with fail
        refine hP.mono ?_
        rintro e w4 ⟨rfl, hb4⟩
        clear hP
        obtain ⟨⟨a0', a1', a2', a3'⟩, -⟩ := hc w4 hb4
        have hPr4 := hPr w4 hb4
        clear hPr a0 a1 a2 a3 b0 b1 b2 b3 x0 x1 x2 x3
        go_wp2_with fail
        refine hPr4.mono ?_
        rintro e w5 ⟨rfl, hb5⟩
        clear hPr4 a0' a1' a2' a3'
        have hb35 : Below w3.heap.size w3 w5 := hb4.trans (hb5.mono hb4.size)
        obtain ⟨⟨a0', a1', a2', a3'⟩, ⟨b0', b1', b2', b3'⟩, -⟩ := hc w5 hb35
        have hF5 := hF w5 hb35
        clear hF
        go_wp2_with fail
        refine hF5.mono ?_
        rintro e w6 ⟨rfl, hb6⟩
        clear hF5 a0' a1' a2' a3' b0' b1' b2' b3'
        have hb36 : Below w3.heap.size w3 w6 := hb35.trans (hb6.mono hb35.size)
        obtain ⟨⟨a0', a1', a2', a3'⟩, ⟨b0', b1', b2', b3'⟩, ⟨x0', x1', x2', x3'⟩⟩ := hc w6 hb36
        have hS6 := hS w6 hb36
        clear hS hc
        go_wp2_with fail
        refine hS6.mono ?_
        rintro e w7 ⟨⟨a7, c7, rfl, hWg⟩, hb7⟩
        clear hS6 a0' a1' a2' a3' b0' b1' b2' b3' x0' x1' x2' x3'
        rw [← hfin.out] at hWg
        go_wp2_with fail
        refine hWg.mono ?_
        rintro e w8 ⟨⟨a8, c8, rfl, h8⟩, hb8⟩
        clear hWg
        have hb38 : Below w3.heap.size w3 w8 := hb7.trans (hb8.mono hb7.size)
        obtain ⟨r0, r1, r2, r3, s0, s1, s2, s3, hz⟩ := hr w8 hb38
        have hs7 := hb7.size
        have hres := OutV.stored h8 (hB3.trans (hb38.mono hB3.size)) (g := w.heap.size + 3) (by omega) (by omega)
        clear hr h8
        go_wp2_with fail
        exact bodyPost_ret (v := .tuple #[.agg #[.int .i64 o.1.k, .int .i64 o.1.n, .string ⟨o.1.t.toArray⟩, .slice a8 o.1.l.length c8], .int .i64 o.2]) (by simp [results, Try.results34, go_sem, hz, r0, r1, r2, r3]) rfl hres
    · have hk5 : (v.k != 5) = true := by simp [h5]
      have hfin : Hid (o = (V.zero, er)) := by show _ = _; rw [hput.out, if_neg h0, if_pos h5]
      clear hput hv hk hx hlt
      go_enter Try.func34, Try.ntmps34
      go_wp2_with fail
      refine hP.mono ?_
      rintro e w4 ⟨rfl, hb4⟩
      clear hP
      obtain ⟨⟨a0', a1', a2', a3'⟩, -⟩ := hc w4 hb4
      clear hc a0 a1 a2 a3 b0 b1 b2 b3 x0 x1 x2 x3
      obtain ⟨r0, r1, r2, r3, s0, s1, s2, s3, hz⟩ := hr w4 hb4
      have hres := outV_zero (e := er) (below_set4 (hB3.trans (hb4.mono hB3.size)) (g := w.heap.size + 3) (by omega) (.int .i64 0) (.int .i64 0) (.string ⟨#[]⟩) (.slice none 0 0))
      rw [← hfin.out] at hres
      clear hr h0
      go_wp2_with fail
      exact bodyPost_ret (v := .tuple #[.agg #[.int .i64 0, .int .i64 0, .string ⟨#[]⟩, .slice none 0 0], .int .i64 er]) (by simp [results, Try.results34, go_sem, hz, r0, r1, r2, r3]) rfl hres
end Go.Proofs.Ytkbplffckkjbfaa
