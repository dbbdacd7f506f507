/- Texts of ours, joined: Vu, Dvc, Ec, Kb0. -/
import Derived.Test.YtnijcolomoobnaaGreatDoorK13
import Derived.Test.YtnijcolomoobnaaGreatDoorK12
import Derived.Test.YtnijcolomoobnaaGreatDoorK07
import Derived.Test.YtnijcolomoobnaaGreatDoorK11
import Derived.Lib.AppendStr
namespace Go.Proofs.YtnijcolomoobnaaGreatDoor
open Go.RowKit
set_option linter.unusedVariables false
set_option linter.unusedSimpArgs false

def OutV (w : World) (o : V × Int) (r : Ending) (w' : World) : Prop := (∃ ao cap, r = .returned (.tuple #[.agg #[.int .i64 o.1.k, .int .i64 o.1.n, .string ⟨o.1.t.toArray⟩, .slice ao o.1.l.length cap], .int .i64 o.2]) ∧ IsW (From w.heap.size) w' o.1 (.slice ao o.1.l.length cap)) ∧ Below w.heap.size w w'
def OutW (w : World) (o : V × Int) (r : Ending) (w' : World) : Prop := (∃ ao cap, r = .returned (.tuple #[.agg #[.int .i64 o.1.k, .int .i64 o.1.n, .string ⟨o.1.t.toArray⟩, .slice ao o.1.l.length cap], .int .i64 o.2]) ∧ IsW (From w.heap.size) w' o.1 (.slice ao o.1.l.length cap) ∧ Wf (From w.heap.size) 1000001 w' (.slice ao o.1.l.length cap)) ∧ Below w.heap.size w w'
theorem OutW.out {w w' : World} {o : V × Int} {r : Ending} (h : OutW w o r w') : OutV w o r w' := by
  obtain ⟨⟨a, c, h1, h2, _⟩, h3⟩ := h
  exact ⟨⟨a, c, h1, h2⟩, h3⟩
theorem zero_isW {B : Nat → Prop} {w : World} : IsW B w V.zero (.slice none 0 0) := ⟨Nat.zero_le _, by constructor <;> decide, by constructor <;> decide, IsVs.nil⟩
theorem outW_zero {w w' : World} {e : Int} (hb : Below w.heap.size w w') : OutW w (V.zero, e) (.returned (.tuple #[.agg #[.int .i64 0, .int .i64 0, .string ⟨#[]⟩, .slice none 0 0], .int .i64 e])) w' := ⟨⟨none, 0, rfl, zero_isW, Wf.nil (by unfold maxLen; omega)⟩, hb⟩
set_option maxRecDepth 100000 in
set_option maxHeartbeats 1000000 in
theorem weighedW_any {B : Nat → Prop} {v : V} {ao : Option Addr} {cap : Nat} {w : World} (hv : IsW B w v (.slice ao v.l.length cap)) (hw : wt v ≤ 1000000) :
    Calls Tryz.prog 96 #[.agg #[.int .i64 v.k, .int .i64 v.n, .string ⟨v.t.toArray⟩, .slice ao v.l.length cap]] w fun r w' => OutW w (wgV v) r w' := by
  obtain ⟨w0, hW, hb0, hsz, d0, d1, d2, d3⟩ := boxed w v (.slice ao v.l.length cap)
  obtain ⟨w1, hW1, hb1, hsz1, hr⟩ := rbox w0
  rw [hsz] at hr
  have hs1 : w1.heap.size = w.heap.size + 2 := by omega
  have hB1 : Below w.heap.size w w1 := hb0.trans (hb1.mono (by omega))
  obtain ⟨f1, -⟩ := bcell hb1
  rw [← f1 w.heap.size _ (by omega)] at d0 d1 d2 d3
  clear f1 hsz1
  have hWt := weight_any _ v _ B w1 (Nat.lt_succ_self _) (by omega) (hv.below hB1)
  have hCp : ∀ w2, Below w1.heap.size w1 w2 → Calls Tryz.prog 32 #[.agg #[.int .i64 v.k, .int .i64 v.n, .string ⟨v.t.toArray⟩, .slice ao v.l.length cap]] w2 fun r w' => NewW 1000001 w2 v r w' := fun w2 hb2 => copyW_any 1000001 v _ B w2 (by omega) hw ((hv.below hB1).below hb2)
  clear hv
  have hgb : w.heap.size < w1.heap.size := by omega
  by_cases hle : wt v ≤ 16384
  · have hI : ¬ (16384 : Int) < (wt v : Int) := by omega
    have hfin : Hid (wgV v = (v, 0)) := by show _ = _; unfold wgV; rw [if_pos hle]
    generalize wt v = n at *
    go_enter Tryz.func96, Tryz.ntmps96
    go_wp2_with fail
    refine hWt.mono ?_
    rintro e w2 ⟨rfl, hb2⟩
    have e0 := ((bcell hb2).1 _ 0 hgb).trans d0
    have e1 := ((bcell hb2).1 _ 1 hgb).trans d1
    have e2 := ((bcell hb2).1 _ 2 hgb).trans d2
    have e3 := ((bcell hb2).1 _ 3 hgb).trans d3
    clear hWt hW hW1 d0 d1 d2 d3
    go_wp2_with fail
    refine (hCp w2 hb2).mono ?_
    rintro e w3 ⟨⟨a3, c3, rfl, hx3, hz3⟩, hb3⟩
    have hw13 : Below w1.heap.size w1 w3 := hb2.trans (hb3.mono hb2.size)
    obtain ⟨r0, r1, r2, r3, s0, s1, s2, s3, hz⟩ := hr w3 hw13
    have hsz2 := hb2.size
    have hres : OutW w (wgV v) (.returned (.tuple #[.agg #[.int .i64 v.k, .int .i64 v.n, .string ⟨v.t.toArray⟩, .slice a3 v.l.length c3], .int .i64 0])) (set4 w3 (w.heap.size + 1) (.int .i64 v.k) (.int .i64 v.n) (.string ⟨v.t.toArray⟩) (.slice a3 v.l.length c3)) := by
      rw [hfin.out]
      exact ⟨⟨a3, c3, rfl, (hx3.since (since_set4 (by show ¬ (w2.heap.size ≤ w.heap.size + 1); omega) _ _ _ _)).base (fun k hk _ => by show w.heap.size ≤ k; have : w2.heap.size ≤ k := hk; omega), (hz3.since (since_set4 (by show ¬ (w2.heap.size ≤ w.heap.size + 1); omega) _ _ _ _)).base (fun k hk _ => by show w.heap.size ≤ k; have : w2.heap.size ≤ k := hk; omega)⟩, below_set4 (hB1.trans (hw13.mono (by omega))) (by omega) _ _ _ _⟩
    clear hr hCp hx3 hz3 e0 e1 e2 e3
    go_wp2_with fail
    exact bodyPost_ret (v := .tuple #[.agg #[.int .i64 v.k, .int .i64 v.n, .string ⟨v.t.toArray⟩, .slice a3 v.l.length c3], .int .i64 0]) (by simp [results, Tryz.results96, go_sem, hz, r0, r1, r2, r3]) rfl hres
  · have hI : (16384 : Int) < (wt v : Int) := by omega
    have hfin : Hid (wgV v = (V.zero, 53)) := by show _ = _; unfold wgV; rw [if_neg hle]
    generalize wt v = n at *
    go_enter Tryz.func96, Tryz.ntmps96
    go_wp2_with fail
    refine hWt.mono ?_
    rintro e w2 ⟨rfl, hb2⟩
    obtain ⟨r0, r1, r2, r3, s0, s1, s2, s3, hz⟩ := hr w2 hb2
    have hres := outW_zero (e := 53) (below_set4 (hB1.trans (hb2.mono (by omega))) (g := w.heap.size + 1) (by omega) (.int .i64 0) (.int .i64 0) (.string ⟨#[]⟩) (.slice none 0 0))
    rw [← hfin.out] at hres
    clear hr hCp hWt hW hW1
    go_wp2_with fail
    exact bodyPost_ret (v := .tuple #[.agg #[.int .i64 0, .int .i64 0, .string ⟨#[]⟩, .slice none 0 0], .int .i64 53]) (by simp [results, Tryz.results96, go_sem, hz, r0, r1, r2, r3]) rfl hres
theorem one_vs {B B' : Nat → Prop} {w : World} {g : Nat} {x : V} {sx : Value} (h : w.heap[g]? = some (.cells #[.int .i64 x.k, .int .i64 x.n, .string ⟨x.t.toArray⟩, sx] 31)) (hx : IsW B w x sx) (hb : ∀ k, B k → k < w.heap.size → B' k) (hg : B' g) : IsVs B' w [x] (.slice (some ⟨g, 0, none⟩) 1 1) := by
  refine ⟨_, ⟨?_, Or.inr ⟨g, 0, 1, rfl, Nat.le_refl _, by unfold maxLen; omega, hg, (Array.getElem?_eq_some_iff.1 h).1, fun j u hj => ?_⟩⟩, AllV.one (isV_iff.2 ⟨sx, rfl, hx.base hb⟩)⟩
  · rfl
  · rw [cell_block h, Nat.zero_add]
    simpa using hj
end Go.Proofs.YtnijcolomoobnaaGreatDoor
namespace Go.Proofs.YtnijcolomoobnaaGreatDoor
open Go.RowKit
set_option linter.unusedVariables false
set_option linter.unusedSimpArgs false

theorem boxed2r (w : World) (a : V) (sa : Value) (b : V) (sb : Value) : ∃ w0 w1 w2, w.alloc (.cells #[.int .i64 a.k, .int .i64 a.n, .string ⟨a.t.toArray⟩, sa] 31) = w0 ∧ w0.alloc (.cells #[.int .i64 b.k, .int .i64 b.n, .string ⟨b.t.toArray⟩, sb] 31) = w1 ∧ w1.alloc (.cells #[.int .i64 0, .int .i64 0, .string ⟨#[]⟩, .slice none 0 0] 31) = w2 ∧ w0.heap.size = w.heap.size + 1 ∧ w1.heap.size = w.heap.size + 2 ∧ w2.heap.size = w.heap.size + 3 ∧ Below w.heap.size w w2 ∧
    (∀ w3, Below w2.heap.size w2 w3 → w3.cell? ⟨w.heap.size, 0, none⟩ = some (.int .i64 a.k) ∧ w3.cell? ⟨w.heap.size, 1, none⟩ = some (.int .i64 a.n) ∧ w3.cell? ⟨w.heap.size, 2, none⟩ = some (.string ⟨a.t.toArray⟩) ∧ w3.cell? ⟨w.heap.size, 3, none⟩ = some sa ∧
      w3.cell? ⟨w.heap.size + 1, 0, none⟩ = some (.int .i64 b.k) ∧ w3.cell? ⟨w.heap.size + 1, 1, none⟩ = some (.int .i64 b.n) ∧ w3.cell? ⟨w.heap.size + 1, 2, none⟩ = some (.string ⟨b.t.toArray⟩) ∧ w3.cell? ⟨w.heap.size + 1, 3, none⟩ = some sb) ∧
    (∀ w3, Below w2.heap.size w2 w3 → w3.cell? ⟨w.heap.size + 2, 0, none⟩ = some (.int .i64 0) ∧ w3.cell? ⟨w.heap.size + 2, 1, none⟩ = some (.int .i64 0) ∧ w3.cell? ⟨w.heap.size + 2, 2, none⟩ = some (.string ⟨#[]⟩) ∧ w3.cell? ⟨w.heap.size + 2, 3, none⟩ = some (.slice none 0 0) ∧
      w3.frozen? ⟨w.heap.size + 2, 0, none⟩ = false ∧ w3.frozen? ⟨w.heap.size + 2, 1, none⟩ = false ∧ w3.frozen? ⟨w.heap.size + 2, 2, none⟩ = false ∧ w3.frozen? ⟨w.heap.size + 2, 3, none⟩ = false ∧ w.heap.size + 2 < w3.heap.size) := by
  obtain ⟨w0, w1, hW, hW1, hs0, hs1, hB, d0, d1, d2, d3, e0, e1, e2, e3⟩ := boxed2 w a sa b sb
  obtain ⟨w2, hW2, hb2, hsz2, hr⟩ := rbox w1
  rw [hs1] at hr
  have hc : ∀ w3, Below w2.heap.size w2 w3 → ∀ b o, b < w1.heap.size → w3.cell? ⟨b, o, none⟩ = w1.cell? ⟨b, o, none⟩ := fun w3 h b o hb => ((bcell h).1 b o (by omega)).trans ((bcell hb2).1 b o hb)
  refine ⟨w0, w1, w2, hW, hW1, hW2, hs0, hs1, by omega, hB.trans (hb2.mono hB.size), fun w3 h => ?_, hr⟩
  have c := hc w3 h
  exact ⟨(c _ _ (by omega)).trans d0, (c _ _ (by omega)).trans d1, (c _ _ (by omega)).trans d2, (c _ _ (by omega)).trans d3, (c _ _ (by omega)).trans e0, (c _ _ (by omega)).trans e1, (c _ _ (by omega)).trans e2, (c _ _ (by omega)).trans e3⟩
theorem OutV.trans {w w2 w3 : World} {o : V × Int} {r : Ending} (h : OutV w2 o r w3) (hb : Below w.heap.size w w2) : OutV w o r w3 := by
  obtain ⟨⟨ao, cap, e, hx⟩, hb3⟩ := h
  have hs := hb.size
  exact ⟨⟨ao, cap, e, hx.base (fun k hk _ => by show w.heap.size ≤ k; have : w2.heap.size ≤ k := hk; omega)⟩, hb.trans (hb3.mono hs)⟩
theorem OutV.stored {w w2 w3 : World} {o : V × Int} {ao : Option Addr} {cap : Nat} {g : Nat} (hx : IsW (From w2.heap.size) w3 o.1 (.slice ao o.1.l.length cap)) (hb : Below w.heap.size w w3) (hg : w.heap.size ≤ g) (hg2 : g < w2.heap.size) :
    OutV w o (.returned (.tuple #[.agg #[.int .i64 o.1.k, .int .i64 o.1.n, .string ⟨o.1.t.toArray⟩, .slice ao o.1.l.length cap], .int .i64 o.2])) (set4 w3 g (.int .i64 o.1.k) (.int .i64 o.1.n) (.string ⟨o.1.t.toArray⟩) (.slice ao o.1.l.length cap)) :=
  ⟨⟨ao, cap, rfl, (hx.since (since_set4 (by show ¬ (w2.heap.size ≤ g); omega) _ _ _ _)).base (fun k hk _ => by show w.heap.size ≤ k; have : w2.heap.size ≤ k := hk; omega)⟩, below_set4 hb hg _ _ _ _⟩
theorem OutW.stored {w w2 w3 : World} {o : V × Int} {ao : Option Addr} {cap : Nat} {g : Nat} (hx : IsW (From w2.heap.size) w3 o.1 (.slice ao o.1.l.length cap)) (hb : Below w.heap.size w w3) (hg : w.heap.size ≤ g) (hg2 : g < w2.heap.size) (hz : Wf (From w2.heap.size) 1000001 w3 (.slice ao o.1.l.length cap)) :
    OutW w o (.returned (.tuple #[.agg #[.int .i64 o.1.k, .int .i64 o.1.n, .string ⟨o.1.t.toArray⟩, .slice ao o.1.l.length cap], .int .i64 o.2])) (set4 w3 g (.int .i64 o.1.k) (.int .i64 o.1.n) (.string ⟨o.1.t.toArray⟩) (.slice ao o.1.l.length cap)) :=
  ⟨⟨ao, cap, rfl, (hx.since (since_set4 (by show ¬ (w2.heap.size ≤ g); omega) _ _ _ _)).base (fun k hk _ => by show w.heap.size ≤ k; have : w2.heap.size ≤ k := hk; omega), (hz.since (since_set4 (by show ¬ (w2.heap.size ≤ g); omega) _ _ _ _)).base (fun k hk _ => by show w.heap.size ≤ k; have : w2.heap.size ≤ k := hk; omega)⟩, below_set4 hb hg _ _ _ _⟩
theorem spl_push (l : List V) (x : V) : spl l l.length l.length [x] = l ++ [x] := by simp [spl]
set_option maxRecDepth 100000 in
set_option maxHeartbeats 2000000 in
theorem pushW_any {B : Nat → Prop} {v x : V} {ao ax : Option Addr} {cap cx : Nat} {w : World} (hv : IsW B w v (.slice ao v.l.length cap)) (hx : IsW B w x (.slice ax x.l.length cx)) (hwv : wt v ≤ 400000) (hwx : wt x ≤ 400000) :
    Calls Tryz.prog 61 #[.agg #[.int .i64 v.k, .int .i64 v.n, .string ⟨v.t.toArray⟩, .slice ao v.l.length cap], .agg #[.int .i64 x.k, .int .i64 x.n, .string ⟨x.t.toArray⟩, .slice ax x.l.length cx]] w fun r w' => OutW w (pushV v x) r w' := by
  obtain ⟨ao', cap', e, c1, c2⟩ := hv.vs.slice
  simp only [Value.slice.injEq] at e
  obtain ⟨rfl, -, rfl⟩ := e
  obtain ⟨w0, w1, w2, hW, hW1, hW2, hs0, hs1, hs2, hB2, hc, hr⟩ := boxed2r w v (.slice ao v.l.length cap) x (.slice ax x.l.length cx)
  obtain ⟨a0, a1, a2, a3, b0, b1, b2, b3⟩ := hc w2 (Below.refl _ _)
  by_cases hk : v.k = 4
  · have hk' : (v.k != 4) = false := by simp [hk]
    by_cases h64 : 64 ≤ v.l.length
    · have h64I : (64 : Int) ≤ (v.l.length : Int) := by omega
      have hfin : pushV v x = (V.zero, 53) := by unfold pushV; rw [if_neg (by simp [hk]), if_pos h64]
      obtain ⟨r0, r1, r2, r3, s0, s1, s2, s3, hz⟩ := hr w2 (Below.refl _ _)
      have hres := outW_zero (e := 53) (below_set4 hB2 (g := w.heap.size + 2) (by omega) (.int .i64 0) (.int .i64 0) (.string ⟨#[]⟩) (.slice none 0 0))
      rw [← hfin] at hres
      clear hr hc hv hx hk hfin
      go_enter Tryz.func61, Tryz.ntmps61
      go_wp2_with fail
      exact bodyPost_ret (v := .tuple #[.agg #[.int .i64 0, .int .i64 0, .string ⟨#[]⟩, .slice none 0 0], .int .i64 53]) (by simp [results, Tryz.results61, go_sem, hz, r0, r1, r2, r3]) rfl hres
    · have h64I : ¬ (64 : Int) ≤ (v.l.length : Int) := by omega
      have hfin : Hid (pushV v x = wgV (.mk v.k v.n v.t (v.l ++ [x]))) := by show _ = _; unfold pushV; rw [if_neg (by simp [hk]), if_neg h64]
      obtain ⟨wa, hWa⟩ : ∃ wa, w2.alloc (.cells #[.int .i64 x.k, .int .i64 x.n, .string ⟨x.t.toArray⟩, .slice ax x.l.length cx] 31) = wa := ⟨_, rfl⟩
      have hba : Below w2.heap.size w2 wa := by rw [← hWa]; exact (Below.refl _ _).alloc (Nat.le_refl _) _
      have hblk : wa.heap[w.heap.size + 3]? = some (.cells #[.int .i64 x.k, .int .i64 x.n, .string ⟨x.t.toArray⟩, .slice ax x.l.length cx] 31) := by rw [← hWa, ← hs2]; exact heap_new _ _
      have hsa : wa.heap.size = w.heap.size + 4 := by rw [← hWa]; simp [hs2]
      have hBa : Below w.heap.size w wa := hB2.trans (hba.mono hB2.size)
      have hone : IsVs (fun k => B k ∨ k = w.heap.size + 3) wa [x] (.slice (some ⟨w.heap.size + 3, 0, none⟩) 1 1) := one_vs hblk (hx.below hBa) (fun k h _ => Or.inl h) (Or.inr rfl)
      have hwts := wt_eq v
      have hlv := wts_len v.l
      have hSp := spliced_any (f := v.l.length) (t := v.l.length) ((hv.below hBa).base (B' := fun k => B k ∨ k = w.heap.size + 3) (fun k h _ => Or.inl h)) hone (Nat.le_refl _) (Nat.le_refl _) (by rw [spl_push]; simp; omega)
      rw [spl_push] at hSp
      have hwt2 : wt (.mk v.k v.n v.t (v.l ++ [x])) ≤ 1000000 := by
        rw [wt_mk, wts_append]; simp only [wts]; omega
      have hvr := (⟨hv.txt, hv.kr, hv.nr⟩ : v.t.length ≤ maxLen ∧ InR v.k ∧ InR v.n)
      clear hc hv hx hk hone
      go_enter Tryz.func61, Tryz.ntmps61
      go_wp2_with fail
      refine hSp.mono ?_
      rintro e w4 ⟨⟨a4, c4, rfl, h4⟩, hb4⟩
      have hWg := weighedW_any (v := .mk v.k v.n v.t (v.l ++ [x])) (w := w4) (ao := a4) (cap := c4) ⟨hvr.1, hvr.2.1, hvr.2.2, h4⟩ hwt2
      clear hSp
      replace hWg : Calls Tryz.prog 96 #[.agg #[.int .i64 v.k, .int .i64 v.n, .string ⟨v.t.toArray⟩, .slice a4 (v.l.length + 1) c4]] w4 fun r w' => OutW w4 (pushV v x) r w' := by
        rw [hfin.out]
        have e : ((V.mk v.k v.n v.t (v.l ++ [x])).l).length = v.l.length + 1 := by simp [V.l]
        rw [e] at hWg
        exact hWg
      clear hfin h4
      go_wp2_with fail
      refine hWg.mono ?_
      rintro e w5 ⟨⟨a5, c5, rfl, h5, hz5⟩, hb5⟩
      clear hWg
      obtain ⟨o, HO⟩ : ∃ o, Hid (pushV v x = o) := ⟨_, rfl⟩
      rw [HO.out] at h5 hz5
      rw [HO.out]
      have hb25 : Below w2.heap.size w2 w5 := (hba.trans (hb4.mono hba.size)).trans (hb5.mono (by have := hba.size; have := hb4.size; omega))
      obtain ⟨r0, r1, r2, r3, s0, s1, s2, s3, hz⟩ := hr w5 hb25
      have hs4 := hb4.size
      have hres := OutW.stored h5 (hB2.trans (hb25.mono hB2.size)) (g := w.heap.size + 2) (by omega) (by omega) hz5
      clear hr h5 hz5
      go_wp2_with fail
      exact bodyPost_ret (v := .tuple #[.agg #[.int .i64 o.1.k, .int .i64 o.1.n, .string ⟨o.1.t.toArray⟩, .slice a5 o.1.l.length c5], .int .i64 o.2]) (by simp [results, Tryz.results61, go_sem, hz, r0, r1, r2, r3]) rfl (by rw [HO.out]; exact hres)
  · have hk' : (v.k != 4) = true := by simp [hk]
    have hfin : pushV v x = (V.zero, 40) := by unfold pushV; rw [if_pos hk]
    obtain ⟨r0, r1, r2, r3, s0, s1, s2, s3, hz⟩ := hr w2 (Below.refl _ _)
    have hres := outW_zero (e := 40) (below_set4 hB2 (g := w.heap.size + 2) (by omega) (.int .i64 0) (.int .i64 0) (.string ⟨#[]⟩) (.slice none 0 0))
    rw [← hfin] at hres
    clear hr hc hv hx hk hfin
    go_enter Tryz.func61, Tryz.ntmps61
    go_wp2_with fail
    exact bodyPost_ret (v := .tuple #[.agg #[.int .i64 0, .int .i64 0, .string ⟨#[]⟩, .slice none 0 0], .int .i64 40]) (by simp [results, Tryz.results61, go_sem, hz, r0, r1, r2, r3]) rfl hres
theorem push_any {B : Nat → Prop} {v x : V} {ao ax : Option Addr} {cap cx : Nat} {w : World} (hv : IsW B w v (.slice ao v.l.length cap)) (hx : IsW B w x (.slice ax x.l.length cx)) (hwv : wt v ≤ 400000) (hwx : wt x ≤ 400000) :
    Calls Tryz.prog 61 #[.agg #[.int .i64 v.k, .int .i64 v.n, .string ⟨v.t.toArray⟩, .slice ao v.l.length cap], .agg #[.int .i64 x.k, .int .i64 x.n, .string ⟨x.t.toArray⟩, .slice ax x.l.length cx]] w fun r w' => OutV w (pushV v x) r w' := (pushW_any hv hx hwv hwx).mono fun e w' h => h.out
end Go.Proofs.YtnijcolomoobnaaGreatDoor
namespace Go.Proofs.YtnijcolomoobnaaGreatDoor
set_option linter.unusedVariables false
set_option linter.unusedSimpArgs false

theorem fit_shp {y : List UInt8} {v : V} (h : fitS y v = true) : ∃ T, tyOf y = some T ∧ Shp T v := by
  unfold fitS at h
  rw [Bool.and_eq_true] at h
  have h1 := h.1
  unfold shpS at h1
  rcases hT : tyOf y with _ | T
  · rw [hT] at h1; simp at h1
  · rw [hT] at h1; exact ⟨T, rfl, shpB_iff.1 h1⟩
end Go.Proofs.YtnijcolomoobnaaGreatDoor
namespace Go.Proofs.YtnijcolomoobnaaGreatDoor
open Go.RowKit
set_option linter.unusedVariables false
set_option linter.unusedSimpArgs false
attribute [local go_sem ↓] Go.wp_at_zero Go.wp_at_succ

mutual
def Tm : V → Prop
  | .mk k n t l => ((k = 1 ∧ l = []) ∨ (k = 2 ∧ 0 ≤ n ∧ l = []) ∨ (k = 3 ∧ l = []) ∨ k = 4 ∨ k = 5) ∧ Tms l
def Tms : List V → Prop
  | [] => True
  | v :: r => Tm v ∧ Tms r
end
theorem tms_mem : ∀ {l : List V} {x : V}, Tms l → x ∈ l → Tm x
  | [], x, _, h => by cases h
  | y :: r, x, h, hx => by
    rw [Tms] at h
    rcases List.mem_cons.1 hx with rfl | hx
    · exact h.1
    · exact tms_mem h.2 hx
theorem Tm.cases {v : V} (h : Tm v) : ((v.k = 1 ∧ v.l = []) ∨ (v.k = 2 ∧ 0 ≤ v.n ∧ v.l = []) ∨ (v.k = 3 ∧ v.l = []) ∨ v.k = 4 ∨ v.k = 5) ∧ ∀ x ∈ v.l, Tm x := by
  obtain ⟨k, n, t, l⟩ := v
  rw [Tm] at h
  exact ⟨h.1, fun x hx => tms_mem h.2 hx⟩
theorem OutB.of {base base' : Nat} {w w1 : World} {bs bs' : List UInt8} {r : Ending} {w' : World} (h : OutB base w1 bs r w') (e : bs = bs') (hb : Below base' w w1) (hm : base' ≤ base) : OutB base' w bs' r w' := by
  obtain ⟨⟨a, c, h1, h2⟩, h3⟩ := h
  subst e
  exact ⟨⟨a, c, h1, owns_base h2 hm⟩, hb.trans (h3.mono hm)⟩
end Go.Proofs.YtnijcolomoobnaaGreatDoor
namespace Go.Proofs.YtnijcolomoobnaaGreatDoor
open Go.RowKit
set_option linter.unusedVariables false
set_option linter.unusedSimpArgs false

def OwnN (w : World) (base : Nat) (a : Option Addr) (N c : Nat) (bs : List UInt8) : Prop := N = bs.length ∧ Own8 w base a c bs
theorem OwnN.low {w : World} {base base' : Nat} {a : Option Addr} {N c : Nat} {bs : List UInt8} (h : OwnN w base a N c bs) (hb : base' ≤ base) : OwnN w base' a N c bs := ⟨h.1, owns_base h.2 hb⟩
theorem OwnN.keep {w w' : World} {base : Nat} {a : Option Addr} {N c : Nat} {bs : List UInt8} (h : OwnN w base a N c bs) (hb : Below w.heap.size w w') : OwnN w' base a N c bs := by
  refine ⟨h.1, h.2.1, ?_⟩
  rcases h.2.2 with q | ⟨g, cap, cur, q1, q2, q3, q4⟩
  · exact Or.inl q
  · exact Or.inr ⟨g, cap, cur, q1, q2, by rw [hb.block g (Array.getElem?_eq_some_iff.1 q3).1]; exact q3, q4⟩
theorem ctype_shp {v : V} (h : ctype v ≠ []) : v.l = [] ∧ wt v ≤ 16384 ∧ ∃ T, Shp T v := by
  refine ⟨?_, ?_⟩
  · unfold ctype at h
    split at h
    · assumption
    · exact absurd rfl h
  · have hl : v.l = [] := by
      unfold ctype at h
      split at h
      · assumption
      · exact absurd rfl h
    unfold ctype at h
    rw [if_pos hl] at h
    rcases hf : tys.find? (fun t => fitS t v) with _ | t
    · rw [hf] at h; exact absurd rfl h
    · have h1 := List.find?_some hf
      have h1' : fitS t v = true := h1
      obtain ⟨T, -, hS⟩ := fit_shp h1'
      exact ⟨fit_wt h1', T, hS⟩
end Go.Proofs.YtnijcolomoobnaaGreatDoor
