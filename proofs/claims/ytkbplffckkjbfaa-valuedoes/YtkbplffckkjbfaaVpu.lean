/- Push: the program's. -/
import Derived.Test.YtkbplffckkjbfaaVu
namespace Go.Proofs.Ytkbplffckkjbfaa
open Go.RowKit
set_option linter.unusedVariables false
set_option linter.unusedSimpArgs false

/-- Two parameters in their boxes, and the box for what is answered. -/
theorem boxed2r (w : World) (a : V) (sa : Value) (b : V) (sb : Value) : ∃ w0 w1 w2, w.alloc (.cells #[.int .i64 a.k, .int .i64 a.n, .string ⟨a.t.toArray⟩, sa] 24) = w0 ∧ w0.alloc (.cells #[.int .i64 b.k, .int .i64 b.n, .string ⟨b.t.toArray⟩, sb] 24) = w1 ∧ w1.alloc (.cells #[.int .i64 0, .int .i64 0, .string ⟨#[]⟩, .slice none 0 0] 24) = w2 ∧ w0.heap.size = w.heap.size + 1 ∧ w1.heap.size = w.heap.size + 2 ∧ w2.heap.size = w.heap.size + 3 ∧ Below w.heap.size w w2 ∧
    (∀ w3, Below w2.heap.size w2 w3 → w3.cell? ⟨w.heap.size, 0, none⟩ = some (.int .i64 a.k) ∧ w3.cell? ⟨w.heap.size, 1, none⟩ = some (.int .i64 a.n) ∧ w3.cell? ⟨w.heap.size, 2, none⟩ = some (.string ⟨a.t.toArray⟩) ∧ w3.cell? ⟨w.heap.size, 3, none⟩ = some sa ∧
      w3.cell? ⟨w.heap.size + 1, 0, none⟩ = some (.int .i64 b.k) ∧ w3.cell? ⟨w.heap.size + 1, 1, none⟩ = some (.int .i64 b.n) ∧ w3.cell? ⟨w.heap.size + 1, 2, none⟩ = some (.string ⟨b.t.toArray⟩) ∧ w3.cell? ⟨w.heap.size + 1, 3, none⟩ = some sb) ∧
    (∀ w3, Below w2.heap.size w2 w3 → w3.cell? ⟨w.heap.size + 2, 0, none⟩ = some (.int .i64 0) ∧ w3.cell? ⟨w.heap.size + 2, 1, none⟩ = some (.int .i64 0) ∧ w3.cell? ⟨w.heap.size + 2, 2, none⟩ = some (.string ⟨#[]⟩) ∧ w3.cell? ⟨w.heap.size + 2, 3, none⟩ = some (.slice none 0 0) ∧
      w3.frozen? ⟨w.heap.size + 2, 0, none⟩ = false ∧ w3.frozen? ⟨w.heap.size + 2, 1, none⟩ = false ∧ w3.frozen? ⟨w.heap.size + 2, 2, none⟩ = false ∧ w3.frozen? ⟨w.heap.size + 2, 3, none⟩ = false ∧ w.heap.size + 2 < w3.heap.size) := by
  obtain ⟨w0, w1, hW, hW1, hs0, hs1, hB, d0, d1, d2, d3, e0, e1, e2, e3⟩ := boxed2 w a sa b sb
  obtain ⟨w2, hW2, hb2, hsz2, hr⟩ := rbox w1
  rw [hs1] at hr
  have hc : ∀ w3, Below w2.heap.size w2 w3 → ∀ b o, b < w1.heap.size → w3.cell? ⟨b, o, none⟩ = w1.cell? ⟨b, o, none⟩ := fun w3 h b o hb => ((bcell h).1 b o (by omega)).trans ((bcell hb2).1 b o hb)
  refine ⟨w0, w1, w2, hW, hW1, hW2, hs0, hs1, by omega, hB.trans (hb2.mono hB.size), fun w3 h => ?_, hr⟩
  have c := hc w3 h
  exact ⟨(c _ _ (by omega)).trans d0, (c _ _ (by omega)).trans d1, (c _ _ (by omega)).trans d2, (c _ _ (by omega)).trans d3, (c _ _ (by omega)).trans e0, (c _ _ (by omega)).trans e1, (c _ _ (by omega)).trans e2, (c _ _ (by omega)).trans e3⟩
theorem OutV.trans {w w2 w3 : World} {o : V × Int} {r : Ending} (h : OutV w2 o r w3) (hb : Below w.heap.size w w2) : OutV w o r w3 := by
  obtain ⟨⟨ao, cap, e, hx⟩, hb3⟩ := h
  have hs := hb.size
  exact ⟨⟨ao, cap, e, hx.base (fun k hk _ => by show w.heap.size ≤ k; have : w2.heap.size ≤ k := hk; omega)⟩, hb.trans (hb3.mono hs)⟩
/-- It is stored into the box for what is answered. -/
theorem OutV.stored {w w2 w3 : World} {o : V × Int} {ao : Option Addr} {cap : Nat} {g : Nat} (hx : IsW (From w2.heap.size) w3 o.1 (.slice ao o.1.l.length cap)) (hb : Below w.heap.size w w3) (hg : w.heap.size ≤ g) (hg2 : g < w2.heap.size) :
    OutV w o (.returned (.tuple #[.agg #[.int .i64 o.1.k, .int .i64 o.1.n, .string ⟨o.1.t.toArray⟩, .slice ao o.1.l.length cap], .int .i64 o.2])) (set4 w3 g (.int .i64 o.1.k) (.int .i64 o.1.n) (.string ⟨o.1.t.toArray⟩) (.slice ao o.1.l.length cap)) :=
  ⟨⟨ao, cap, rfl, (hx.since (since_set4 (by show ¬ (w2.heap.size ≤ g); omega) _ _ _ _)).base (fun k hk _ => by show w.heap.size ≤ k; have : w2.heap.size ≤ k := hk; omega)⟩, below_set4 hb hg _ _ _ _⟩
theorem spl_push (l : List V) (x : V) : spl l l.length l.length [x] = l ++ [x] := by simp [spl]
set_option maxRecDepth 100000 in
set_option maxHeartbeats 2000000 in
theorem push_any {B : Nat → Prop} {v x : V} {ao ax : Option Addr} {cap cx : Nat} {w : World} (hv : IsW B w v (.slice ao v.l.length cap)) (hx : IsW B w x (.slice ax x.l.length cx)) (hwv : wt v ≤ 400000) (hwx : wt x ≤ 400000) :
    Calls Try.prog 38 #[.agg #[.int .i64 v.k, .int .i64 v.n, .string ⟨v.t.toArray⟩, .slice ao v.l.length cap], .agg #[.int .i64 x.k, .int .i64 x.n, .string ⟨x.t.toArray⟩, .slice ax x.l.length cx]] w fun r w' => OutV w (pushV v x) r w' := by
  obtain ⟨ao', cap', e, c1, c2⟩ := hv.vs.slice
  simp only [Value.slice.injEq] at e
  obtain ⟨rfl, -, rfl⟩ := e
  obtain ⟨w0, w1, w2, hW, hW1, hW2, hs0, hs1, hs2, hB2, hc, hr⟩ := boxed2r w v (.slice ao v.l.length cap) x (.slice ax x.l.length cx)
  obtain ⟨a0, a1, a2, a3, b0, b1, b2, b3⟩ := hc w2 (Below.refl _ _)
  by_cases hk : v.k = 4
  · have hk' : (v.k != 4) = false := by simp [hk]
    by_cases h64 : 64 ≤ v.l.length
    · have h64I : (64 : Int) ≤ (v.l.length : Int) := by omega
      have hfin : pushV v x = (V.zero, 53) := by unfold pushV; rw [if_neg (by simp [hk]), if_pos h64]
      obtain ⟨r0, r1, r2, r3, s0, s1, s2, s3, hz⟩ := hr w2 (Below.refl _ _)
      have hres := outV_zero (e := 53) (below_set4 hB2 (g := w.heap.size + 2) (by omega) (.int .i64 0) (.int .i64 0) (.string ⟨#[]⟩) (.slice none 0 0))
      rw [← hfin] at hres
      clear hr hc hv hx hk hfin
      go_enter Try.func38, Try.ntmps38
      go_wp2_with fail
      exact bodyPost_ret (v := .tuple #[.agg #[.int .i64 0, .int .i64 0, .string ⟨#[]⟩, .slice none 0 0], .int .i64 53]) (by simp [results, Try.results38, go_sem, hz, r0, r1, r2, r3]) rfl hres
    · have h64I : ¬ (64 : Int) ≤ (v.l.length : Int) := by omega
      have hfin : Hid (pushV v x = wgV (.mk v.k v.n v.t (v.l ++ [x]))) := by show _ = _; unfold pushV; rw [if_neg (by simp [hk]), if_neg h64]
      obtain ⟨wa, hWa⟩ : ∃ wa, w2.alloc (.cells #[.int .i64 x.k, .int .i64 x.n, .string ⟨x.t.toArray⟩, .slice ax x.l.length cx] 24) = wa := ⟨_, rfl⟩
      have hba : Below w2.heap.size w2 wa := by rw [← hWa]; exact (Below.refl _ _).alloc (Nat.le_refl _) _
      have hblk : wa.heap[w.heap.size + 3]? = some (.cells #[.int .i64 x.k, .int .i64 x.n, .string ⟨x.t.toArray⟩, .slice ax x.l.length cx] 24) := by rw [← hWa, ← hs2]; exact heap_new _ _
      have hsa : wa.heap.size = w.heap.size + 4 := by rw [← hWa]; simp [hs2]
      have hBa : Below w.heap.size w wa := hB2.trans (hba.mono hB2.size)
      have hone : IsVs (fun k => B k ∨ k = w.heap.size + 3) wa [x] (.slice (some ⟨w.heap.size + 3, 0, none⟩) 1 1) := one_vs hblk (hx.below hBa) (fun k h _ => Or.inl h) (Or.inr rfl)
      have hwts := wt_eq v
      have hlv := wts_len v.l
      have hSp := spliced_any (f := v.l.length) (t := v.l.length) ((hv.below hBa).base (B' := fun k => B k ∨ k = w.heap.size + 3) (fun k h _ => Or.inl h)) hone (Nat.le_refl _) (Nat.le_refl _) (by rw [spl_push]; simp; omega)
      rw [spl_push] at hSp
      have hwt2 : wt (.mk v.k v.n v.t (v.l ++ [x])) ≤ 1000000 := by
        rw [wt_mk, wts_append]; simp only [wts]; omega
      have hvr := (⟨hv.txt, hv.kr, hv.nr⟩ : v.t.length ≤ maxLen ∧ InR v.k ∧ InR v.n)
      clear hc hv hx hk hone
      go_enter Try.func38, Try.ntmps38
      go_wp2_with fail
      refine hSp.mono ?_
      rintro e w4 ⟨⟨a4, c4, rfl, h4⟩, hb4⟩
      have hWg := weighed_any (v := .mk v.k v.n v.t (v.l ++ [x])) (w := w4) (ao := a4) (cap := c4) ⟨hvr.1, hvr.2.1, hvr.2.2, h4⟩ hwt2
      clear hSp
      replace hWg : Calls Try.prog 62 #[.agg #[.int .i64 v.k, .int .i64 v.n, .string ⟨v.t.toArray⟩, .slice a4 (v.l.length + 1) c4]] w4 fun r w' => OutV w4 (pushV v x) r w' := by
        rw [hfin.out]
        have e : ((V.mk v.k v.n v.t (v.l ++ [x])).l).length = v.l.length + 1 := by simp [V.l]
        rw [e] at hWg
        exact hWg
      clear hfin h4
      go_wp2_with fail
      refine hWg.mono ?_
      rintro e w5 ⟨⟨a5, c5, rfl, h5⟩, hb5⟩
      clear hWg
      obtain ⟨o, HO⟩ : ∃ o, Hid (pushV v x = o) := ⟨_, rfl⟩
      rw [HO.out] at h5
      rw [HO.out]
      have hb25 : Below w2.heap.size w2 w5 := (hba.trans (hb4.mono hba.size)).trans (hb5.mono (by have := hba.size; have := hb4.size; omega))
      obtain ⟨r0, r1, r2, r3, s0, s1, s2, s3, hz⟩ := hr w5 hb25
      have hs4 := hb4.size
      have hres := OutV.stored h5 (hB2.trans (hb25.mono hB2.size)) (g := w.heap.size + 2) (by omega) (by omega)
      clear hr h5
      go_wp2_with fail
      exact bodyPost_ret (v := .tuple #[.agg #[.int .i64 o.1.k, .int .i64 o.1.n, .string ⟨o.1.t.toArray⟩, .slice a5 o.1.l.length c5], .int .i64 o.2]) (by simp [results, Try.results38, go_sem, hz, r0, r1, r2, r3]) rfl (by rw [HO.out]; exact hres)
  · have hk' : (v.k != 4) = true := by simp [hk]
    have hfin : pushV v x = (V.zero, 40) := by unfold pushV; rw [if_pos hk]
    obtain ⟨r0, r1, r2, r3, s0, s1, s2, s3, hz⟩ := hr w2 (Below.refl _ _)
    have hres := outV_zero (e := 40) (below_set4 hB2 (g := w.heap.size + 2) (by omega) (.int .i64 0) (.int .i64 0) (.string ⟨#[]⟩) (.slice none 0 0))
    rw [← hfin] at hres
    clear hr hc hv hx hk hfin
    go_enter Try.func38, Try.ntmps38
    go_wp2_with fail
    exact bodyPost_ret (v := .tuple #[.agg #[.int .i64 0, .int .i64 0, .string ⟨#[]⟩, .slice none 0 0], .int .i64 40]) (by simp [results, Try.results38, go_sem, hz, r0, r1, r2, r3]) rfl hres
end Go.Proofs.Ytkbplffckkjbfaa
