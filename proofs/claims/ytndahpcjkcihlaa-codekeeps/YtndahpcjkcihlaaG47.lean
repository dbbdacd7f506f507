/- Texts of ours, joined: Jw, Kk, Kkb. -/
import Derived.Test.YtndahpcjkcihlaaG46
import Derived.Test.YtndahpcjkcihlaaG39
/- Decode: the program's. -/
namespace Go.Proofs.Ytndahpcjkcihlaa
open Go.RowKit
set_option linter.unusedVariables false
set_option linter.unusedSimpArgs false
attribute [local go_sem ↓] Go.wp_at_zero Go.wp_at_succ

set_option maxRecDepth 100000 in
set_option maxHeartbeats 4000000 in
theorem ldecode_any {B : Nat → Prop} {w : World} {ab : Option Addr} {cb : Nat} {b : List UInt8} (hb : IsB B w (.slice ab b.length cb) b) (hl : b.length ≤ 900000) (states : Int) :
    Calls Try.prog 14 #[.slice ab b.length cb, .int .i64 states] w fun e w' => OutD w (decR b states) e w' := by
  obtain ⟨w0, hW0, hb0, hl0, hx0⟩ := box2 w (.slice none 0 0) (.slice none 0 0) 25
  have hlt0 : w.heap.size < w0.heap.size := by omega
  have hb00 := hb.since (Since.of_below hb0)
  have hR := read_any' hb00 hl
  obtain ⟨D, HD⟩ : ∃ D, Hid (decR b states = D) := ⟨_, rfl⟩
  rw [HD.out]
  have hD1 : Hid ((rdM b).2 ≠ some [] → D = (Md.no, 11)) := fun h => by rw [← HD.out]; unfold decR; rw [if_pos h]
  have hD2 : Hid ((rdM b).2 = some [] → ¬ Run (rdM b).1 states → D = (Md.no, 40)) := fun h h' => by rw [← HD.out]; unfold decR; rw [if_neg (by simpa using h), if_pos h']
  have hD3 : Hid ((rdM b).2 = some [] → Run (rdM b).1 states → encM (rdM b).1 ≠ b → D = (Md.no, 11)) := fun h h' h'' => by rw [← HD.out]; unfold decR; rw [if_neg (by simpa using h), if_neg (by simpa using h'), if_pos h'']
  have hD4 : Hid ((rdM b).2 = some [] → Run (rdM b).1 states → encM (rdM b).1 = b → D = ((rdM b).1, 0)) := fun h h' h'' => by rw [← HD.out]; unfold decR; rw [if_neg (by simpa using h), if_neg (by simpa using h'), if_neg (by simpa using h'')]
  have hfit : Hid ((rdM b).2 = some [] → Fit (trM (rdM b).1)) := fun h => fit_trM h hl
  have hsz : Hid ((rdM b).2 = some [] → csz (rdM b).1.consts + fsz (rdM b).1.funcs ≤ b.length) := fun h => rdM_sz h
  clear HD hl0
  go_enter Try.func14, Try.ntmps14
  go_wp2_with fail
  refine hR.mono ?_
  rintro e w1 hp
  obtain ⟨sa, sc, fa, fc, n1, rfl, hG1, hF1, hn1, hn2, hmd1, hb1⟩ := hp.md
  clear hR hp
  have hx1 := (hb1.block _ hlt0).trans hx0
  obtain ⟨wz, w2, hWz, hW2, hbz, hb2, -, hx2, hz⟩ := zmbox w1 (.slice sa (trM (rdM b).1).consts.length sc) (.slice fa (trM (rdM b).1).funcs.length fc)
  obtain ⟨z0, z1, y0, y1, hlz⟩ := cells_k2 hz
  obtain ⟨c0, c1, -, -, hl2⟩ := cells_k2 hx2
  have hs1 := hb1.size
  have hs2 := hb2.size
  have hB12 : Below w0.heap.size w0 w2 := hb1.trans (hb2.mono hb1.size)
  have hB2 : Below w.heap.size w w2 := hb0.trans (hB12.mono hb0.size)
  have hx02 := (hB12.block _ hlt0).trans hx0
  obtain ⟨o0, o1, fo0, fo1, hlo⟩ := cells_k2 hx02
  have hmd2 := hmd1.below hb2
  have hG2 := hG1.below hb2
  have hF2 := hF1.below hb2
  clear hz hG1 hF1 hmd1 hx1 hx0 hW0
  by_cases hok : (rdM b).2 = some []
  rotate_left
  · have hokb : ((rdM b).2 == some []) = false := by rw [beq_eq_false_iff_ne]; exact hok
    have hDv := hD1.out hok
    obtain ⟨wN, hWN, hxN, hbN, -, -⟩ := resW hx02 hB2 (.slice none 0 0) (.slice none 0 0)
    obtain ⟨t0, t1, -, -, hlN⟩ := cells_k2 hxN
    have hpost : OutD w D (.returned (.tuple #[.agg #[.slice none 0 0, .slice none 0 0], .int .i64 11])) wN := by rw [hDv]; exact outD_no hbN
    rw [hokb]
    clear hD1 hD2 hD3 hD4 hfit hsz hok hDv hmd2 hG2 hF2 hxN hbN hx2 hx02 hb hb00
    generalize (trM (rdM b).1).consts.length = L1 at *
    generalize (trM (rdM b).1).funcs.length = L2 at *
    go_wp2_with fail
    exact bodyPost_ret (v := .tuple #[.agg #[.slice none 0 0, .slice none 0 0], .int .i64 11]) (by simp [results, Try.results14, go_sem, hlN, t0, t1]) rfl hpost
  have hokb : ((rdM b).2 == some []) = true := by rw [hok]; rfl
  rw [hokb]
  have hft := hfit.out hok
  have hsz1 := hsz.out hok
  have hEn := lencode_any hmd2 hft states (fun hr => by
    have he := run_trM hr
    rw [he] at hr ⊢
    have h1 := encM_len' hr (okVs_w (by have := hmd2.con; rw [he] at this; exact this) (fun v hv => (ctype_shp (hr.con v hv)).1))
    omega)
  by_cases hrun : Run (rdM b).1 states
  rotate_left
  · have hnr : ¬ Run (trM (rdM b).1) states := fun h => hrun (by have := run_trM h; rwa [this] at h)
    have hDv := hD2.out hok hrun
    have hee : encE (trM (rdM b).1) states = ([], 40) := by unfold encE; rw [if_neg hnr]
    rw [hee] at hEn
    clear hD1 hD2 hD3 hD4 hfit hsz hok hnr hrun hmd2 hG2 hF2 hft hsz1 hee hb hb00
    generalize (trM (rdM b).1).consts.length = L1 at *
    generalize (trM (rdM b).1).funcs.length = L2 at *
    go_wp2_with fail
    refine hEn.mono ?_
    rintro e w3 ⟨⟨a3, N3, c3, rfl, -⟩, hb3⟩
    have hx03 := (hb3.block _ hlo).trans hx02
    have hB3 : Below w.heap.size w w3 := hB2.trans (hb3.mono hB2.size)
    obtain ⟨p0, p1, fp0, fp1, hlp⟩ := cells_k2 hx03
    obtain ⟨wN, hWN, hxN, hbN, -, -⟩ := resW hx03 hB3 (.slice none 0 0) (.slice none 0 0)
    obtain ⟨t0, t1, -, -, hlN⟩ := cells_k2 hxN
    have hpost : OutD w D (.returned (.tuple #[.agg #[.slice none 0 0, .slice none 0 0], .int .i64 40])) wN := by rw [hDv]; exact outD_no hbN
    clear hEn hxN hbN hx2 hx02 hx03 hb3 hB3 hDv c0 c1 o0 o1 fo0 fo1 hWz hW2 z0 z1 y0 y1
    go_wp2_with fail
    exact bodyPost_ret (v := .tuple #[.agg #[.slice none 0 0, .slice none 0 0], .int .i64 40]) (by simp [results, Try.results14, go_sem, hlN, t0, t1]) rfl hpost
  have het := trM_run hrun
  have hee : encE (trM (rdM b).1) states = (encM (rdM b).1, 0) := by unfold encE; rw [het, if_pos hrun]
  rw [hee] at hEn
  rw [het] at hEn hG2 hF2 hx2 hW2 hmd2 c0 c1 ⊢
  have hD3' : Hid (encM (rdM b).1 ≠ b → D = (Md.no, 11)) := hD3.out hok hrun
  have hD4' : Hid (encM (rdM b).1 = b → D = ((rdM b).1, 0)) := hD4.out hok hrun
  clear hD1 hD2 hD3 hD4 hfit hsz hok hrun hmd2 hft hsz1 hee het hokb
  generalize (rdM b).1 = m at *
  obtain ⟨X, HX⟩ : ∃ X, Hid (encM m = X) := ⟨_, rfl⟩
  rw [HX.out] at hEn hD3' hD4'
  have hGH : Hid (Gv (fun k => w0.heap.size ≤ k ∧ k < n1) w2 (.slice sa m.consts.length sc) m.consts ∧ GF n1 w2 (.slice fa m.funcs.length fc) m.funcs) := ⟨hG2, hF2⟩
  clear hG2 hF2
  go_wp2_with fail
  refine hEn.mono ?_
  rintro e w3 ⟨⟨a3, N3, c3, rfl, ho3⟩, hb3⟩
  have hx03 := (hb3.block _ hlo).trans hx02
  have hx23 := (hb3.block _ hl2).trans hx2
  have hB3 : Below w.heap.size w w3 := hB2.trans (hb3.mono hB2.size)
  have hEq := equal_any ho3.isB ((hb.since (Since.of_below hB3)))
  have hs3 := hb3.size
  obtain ⟨p0, p1, fp0, fp1, hlp⟩ := cells_k2 hx03
  obtain ⟨v0, v1, -, -, hlv⟩ := cells_k2 hx23
  clear hEn ho3 hx2 hx02 c0 c1 o0 o1 fo0 fo1 hWz hW2 z0 z1 y0 y1 hb hb00
  by_cases hX : X = b
  rotate_left
  · have hDv := hD3'.out hX
    have hXd : decide (X = b) = false := by simpa using hX
    rw [hXd] at hEq
    obtain ⟨wN, hWN, hxN, hbN, -, -⟩ := resW hx03 hB3 (.slice none 0 0) (.slice none 0 0)
    obtain ⟨t0, t1, -, -, hlN⟩ := cells_k2 hxN
    have hpost : OutD w D (.returned (.tuple #[.agg #[.slice none 0 0, .slice none 0 0], .int .i64 11])) wN := by rw [hDv]; exact outD_no hbN
    clear hxN hbN hx03 hb3 hB3 hDv hGH hD3' hD4' HX hX hXd hx23
    go_wp2_with fail
    refine hEq.mono ?_
    rintro e w4 ⟨rfl, hw4⟩
    obtain rfl := hw4.symm
    clear hEq
    go_wp2_with fail
    exact bodyPost_ret (v := .tuple #[.agg #[.slice none 0 0, .slice none 0 0], .int .i64 11]) (by simp [results, Try.results14, go_sem, hlN, t0, t1]) rfl hpost
  · have hDv := hD4'.out hX
    have hXd : decide (X = b) = true := by simpa using hX
    rw [hXd] at hEq
    obtain ⟨wN, hWN, hxN, hbN, hsN, hkN⟩ := resW hx03 hB3 (.slice sa m.consts.length sc) (.slice fa m.funcs.length fc)
    obtain ⟨t0, t1, -, -, hlN⟩ := cells_k2 hxN
    have hpost : OutD w D (.returned (.tuple #[.agg #[.slice sa m.consts.length sc, .slice fa m.funcs.length fc], .int .i64 0])) wN := by
      rw [hDv]
      have hG3 := hGH.out.1.below hb3
      have hF3 := hGH.out.2.below hb3
      refine ⟨⟨sa, sc, fa, fc, n1, rfl, ?_, ?_, by omega, by omega⟩, hbN⟩
      · exact (hG3.since ⟨by omega, fun k hk _ => hkN k (by omega)⟩).base (fun k hk _ => ⟨by omega, hk.2⟩)
      · exact hF3.since (by omega) (fun k hk _ => hkN k (by omega))
    clear hxN hbN hx03 hb3 hB3 hDv hGH hD3' hD4' HX hX hXd hkN hsN hx23
    go_wp2_with fail
    refine hEq.mono ?_
    rintro e w4 ⟨rfl, hw4⟩
    obtain rfl := hw4.symm
    clear hEq
    go_wp2_with fail
    exact bodyPost_ret (v := .tuple #[.agg #[.slice sa m.consts.length sc, .slice fa m.funcs.length fc], .int .i64 0]) (by simp [results, Try.results14, go_sem, hlN, t0, t1]) rfl hpost
theorem dec_ok : DecOk := fun B ab cb b w states hb hl _ => ldecode_any hb hl states
end Go.Proofs.Ytndahpcjkcihlaa
/- A module's bytes are read as it; no proper beginning is. -/
namespace Go.Proofs.Ytndahpcjkcihlaa
open Go.RowKit
set_option linter.unusedVariables false
set_option linter.unusedSimpArgs false

theorem rdN_split {b c : List UInt8} (h : (rdN (some b)).2 = some c) : b = num (rdN (some b)).1 ++ c ∧ (rdN (some b)).1 ≤ 9223372036854775807 := by
  simp only [rdN] at h ⊢
  split at h
  · simp at h
  · rename_i h0
    rw [if_neg h0]
    obtain ⟨hk, hn, hx⟩ := tk_back (bs := b) (X := (tk b).1) (k := (tk b).2) rfl (by omega)
    simp only [Option.some.injEq] at h
    refine ⟨?_, hx⟩
    rw [← h, ← hn, List.take_append_drop]
theorem rdN_ext {b c : List UInt8} (r : List UInt8) (h : (rdN (some b)).2 = some c) : rdN (some (b ++ r)) = ((rdN (some b)).1, some (c ++ r)) := by
  obtain ⟨h1, h2⟩ := rdN_split h
  generalize (rdN (some b)).1 = X at *
  rw [h1, List.append_assoc, rdN_num h2]
theorem rdB_ext {n : Nat} {b c : List UInt8} (r : List UInt8) (h : (rdB n (some b)).2 = some c) : rdB n (some (b ++ r)) = ((rdB n (some b)).1, some (c ++ r)) := by
  simp only [rdB] at h ⊢
  split at h
  · simp at h
  · rename_i h0
    rw [if_neg h0, if_neg (by simp; omega)]
    simp only [Option.some.injEq] at h
    have hn : n ≤ b.length := by omega
    simp only [Int.toNat_natCast] at h ⊢
    rw [← h, List.take_append_of_le_length hn, List.drop_append_of_le_length hn]
/-- What a reader reads it reads with more behind. -/
def Ext {α : Type} (f : RSt → α × RSt) : Prop := ∀ b c r, (f (some b)).2 = some c → f (some (b ++ r)) = ((f (some b)).1, some (c ++ r))
theorem rdX_ext : Ext rdX := fun b c r h => by
  obtain ⟨b1, e1, -⟩ := rdN_cut h
  have h1 := rdN_ext r e1
  have h' : (rdN (rdN (some b)).2).2 = some c := h
  rw [e1] at h'
  have h2 := rdN_ext r h'
  unfold rdX
  rw [h1, h2, e1]
theorem rdC_ext : Ext rdC := fun b c r h => by
  have hc := h
  unfold rdC at hc
  have e0 : ∃ b1, (rdN (some b)).2 = some b1 := by
    split at hc
    · obtain ⟨b1, e1, -⟩ := rdN_cut hc
      obtain ⟨b2, e2, -⟩ := rdN_cut e1
      exact ⟨b2, e2⟩
    · split at hc
      · obtain ⟨b1, e1, -⟩ := rdB_cut hc
        obtain ⟨b2, e2, -⟩ := rdN_cut e1
        exact ⟨b2, e2⟩
      · obtain ⟨b1, e1, -⟩ := rdN_cut hc
        exact ⟨b1, e1⟩
  obtain ⟨b1, e1⟩ := e0
  have h1 := rdN_ext r e1
  unfold rdC
  rw [e1] at hc ⊢
  rw [h1]
  by_cases k1 : (rdN (some b)).1 = 1
  · rw [if_pos k1] at hc
    simp only [if_pos k1]
    obtain ⟨b2, e2, -⟩ := rdN_cut hc
    have h2 := rdN_ext r e2
    rw [e2] at hc ⊢
    rw [h2]
    have h3 := rdN_ext r hc
    simp only [h3]
  · rw [if_neg k1] at hc
    simp only [if_neg k1]
    by_cases k3 : (rdN (some b)).1 = 3
    · rw [if_pos k3] at hc
      simp only [if_pos k3]
      obtain ⟨b2, e2, -⟩ := rdB_cut hc
      have h2 := rdN_ext r e2
      rw [e2] at hc ⊢
      rw [h2]
      have h3 := rdB_ext r hc
      simp only [h3]
    · rw [if_neg k3] at hc
      simp only [if_neg k3]
      have h2 := rdN_ext r hc
      simp only [h2]
theorem rdG_ext {α : Type} {f : RSt → α × RSt} (hf : Ext f) (hn : (f none).2 = none) : ∀ n, Ext (rdG f n)
  | 0 => fun b c r h => by
    have h' : some b = some c := h
    cases h'
    rfl
  | n + 1 => fun b c r h => by
    rw [rdG] at h
    rcases e1 : (f (some b)).2 with _ | b1
    · rw [e1, rdG_none] at h; cases h
    · rw [e1] at h
      have h1 := hf b b1 r e1
      have h2 := rdG_ext hf hn n b1 c r h
      rw [rdG, rdG, h1, e1, h2]
theorem rdXs_ext : Ext rdXs := fun b c r h => by
  have h' : (rdG rdX (rdN (some b)).1 (rdN (some b)).2).2 = some c := h
  rcases e1 : (rdN (some b)).2 with _ | b1
  · rw [e1, rdG_none] at h'; cases h'
  · rw [e1] at h'
    have h2 := rdG_ext rdX_ext rfl _ _ _ r h'
    unfold rdXs
    rw [rdN_ext r e1, h2, e1]
theorem rdF_ext : Ext rdF := fun b c r h => by
  obtain ⟨b1, e1, -⟩ := rdXs_cut h
  obtain ⟨b2, e2, -⟩ := rdN_cut e1
  obtain ⟨b3, e3, -⟩ := rdN_cut e2
  obtain ⟨b4, e4, -⟩ := rdN_cut e3
  have h' : (rdXs (rdN (rdN (rdN (rdN (some b)).2).2).2).2).2 = some c := h
  unfold rdF
  rw [e1] at h'
  have a1 := rdN_ext r e4
  rw [e4] at e3 e2 e1
  have a2 := rdN_ext r e3
  rw [e3] at e2 e1
  have a3 := rdN_ext r e2
  rw [e2] at e1
  have a4 := rdN_ext r e1
  have a5 := rdXs_ext _ _ r h'
  rw [a1, e4]
  simp only
  rw [a2, e3]
  simp only
  rw [a3, e2]
  simp only
  rw [a4, e1]
  simp only
  rw [a5]
theorem rdM_ext {b c : List UInt8} (r : List UInt8) (h : (rdM b).2 = some c) : rdM (b ++ r) = ((rdM b).1, some (c ++ r)) := by
  obtain ⟨b1, e1, -⟩ := rdG_cut (f := rdF) (s := fun f => 1 + f.code.length) (fun st b' h => rdF_cut h) _ _ _ h
  obtain ⟨b2, e2, -⟩ := rdG_cut (f := rdC) (s := fun v => 1 + v.t.length + v.l.length) (fun st b' h => rdC_cut h) _ _ _ e1
  obtain ⟨b3, e3, -⟩ := rdN_cut e2
  have h' : (rdG rdF (rdN (rdN (some b)).2).1 (rdG rdC (rdN (some b)).1 (rdN (rdN (some b)).2).2).2).2 = some c := h
  unfold rdM
  rw [e1] at h'
  have a1 := rdN_ext r e3
  rw [e3] at e2 e1 h'
  have a2 := rdN_ext r e2
  rw [e2] at e1
  have a3 := rdG_ext rdC_ext rfl _ _ _ r e1
  have a4 := rdG_ext rdF_ext rfl _ _ _ r h'
  rw [a1, e3]
  simp only
  rw [a2, e2]
  simp only
  rw [a3, e1]
  simp only
  rw [a4]
end Go.Proofs.Ytndahpcjkcihlaa
/- A module's bytes are read as it; no proper beginning is: what Decode answers. -/
namespace Go.Proofs.Ytndahpcjkcihlaa
open Go.RowKit
set_option linter.unusedVariables false
set_option linter.unusedSimpArgs false

theorem rdG_enc {α : Type} {f : RSt → α × RSt} {e : α → List UInt8} : ∀ (l : List α) (r : List UInt8), (∀ x ∈ l, ∀ r, f (some (e x ++ r)) = (x, some r)) → rdG f l.length (some (l.flatMap e ++ r)) = (l, some r)
  | [], r, h => rfl
  | a :: l, r, h => by
    have h1 := h a (by simp) (l.flatMap e ++ r)
    have h2 := rdG_enc l r (fun x hx => h x (by simp [hx]))
    rw [List.length_cons, List.flatMap_cons, List.append_assoc, rdG, h1, h2]
theorem rdC_i {g X : Nat} (hg : g ≤ 1) (hX : X ≤ 9223372036854775807) (r : List UInt8) : rdC (some (num 1 ++ (num g ++ (num X ++ r)))) = (.mk 1 (if g = 1 then -(X : Int) - 1 else X) [] [], some r) := by
  have a1 := rdN_num (n := 1) (by omega) (num g ++ (num X ++ r))
  have a2 := rdN_num (n := g) (by omega) (num X ++ r)
  have a3 := rdN_num hX r
  unfold rdC
  simp only [a1, a2, a3]
  simp
theorem rdC_t (t r : List UInt8) (ht : t.length ≤ 256) : rdC (some (num 3 ++ (num t.length ++ (t ++ r)))) = (.mk 3 0 t [], some r) := by
  have a1 := rdN_num (n := 3) (by omega) (num t.length ++ (t ++ r))
  have a2 := rdN_num (n := t.length) (by omega) (t ++ r)
  have a3 := rdB_app t r
  unfold rdC
  simp only [a1, a2, a3]
  simp
theorem rdC_o {k X : Nat} (hk : k ≤ 5) (h1 : k ≠ 1) (h3 : k ≠ 3) (hX : X ≤ 9223372036854775807) (r : List UInt8) : rdC (some (num k ++ (num X ++ r))) = (.mk k X [] [], some r) := by
  have a1 := rdN_num (n := k) (by omega) (num X ++ r)
  have a2 := rdN_num hX r
  unfold rdC
  simp only [a1, a2]
  simp [h1, h3]
theorem rdC_enc {T : Ty} {v : V} (hS : Shp T v) (ho : OkV v) (hl : v.l = []) (r : List UInt8) : rdC (some (eC v ++ r)) = (v, some r) := by
  obtain ⟨k, n, t, l⟩ := v
  have hl' : l = [] := hl
  subst hl'
  cases T with
  | int =>
    obtain ⟨h1, h2, -⟩ := hS
    have h1' : k = 1 := h1
    have h2' : t = [] := h2
    subst h1' h2'
    have hn : InR n := ho.1
    unfold InR at hn
    by_cases h0 : n < 0
    · have he : eC (.mk 1 n [] []) ++ r = num 1 ++ (num 1 ++ (num (-(n + 1)).toNat ++ r)) := by simp [eC, enc, encs, V.k, h0]
      have hz : -(((-(n + 1)).toNat : Nat) : Int) - 1 = n := by omega
      rw [he, rdC_i (by omega) (by omega), if_pos rfl, hz]
    · have he : eC (.mk 1 n [] []) ++ r = num 1 ++ (num 0 ++ (num n.toNat ++ r)) := by simp [eC, enc, encs, V.k, h0]
      have hz : ((n.toNat : Nat) : Int) = n := by omega
      rw [he, rdC_i (by omega) (by omega), if_neg (by decide), hz]
  | bool =>
    obtain ⟨h1, h2, -, h4⟩ := hS
    have h1' : k = 2 := h1
    have h2' : t = [] := h2
    have h4' : n = 0 ∨ n = 1 := h4
    subst h1' h2'
    have he : eC (.mk 2 n [] []) ++ r = num 2 ++ (num n.toNat ++ r) := by simp [eC, enc, encs, V.k]
    have hz : ((n.toNat : Nat) : Int) = n := by omega
    rw [he, rdC_o (by omega) (by omega) (by omega) (by omega), hz]
    rfl
  | text =>
    obtain ⟨h1, h2, -, h4⟩ := hS
    have h1' : k = 3 := h1
    have h2' : n = 0 := h2
    subst h1' h2'
    have he : eC (.mk 3 0 t []) ++ r = num 3 ++ (num t.length ++ (t ++ r)) := by simp [eC, enc, encs, V.k]
    rw [he, rdC_t t r h4]
  | list E =>
    obtain ⟨h1, h2, h3, -⟩ := hS
    have h1' : k = 4 := h1
    have h2' : n = 0 := h2
    have h3' : t = [] := h3
    subst h1' h2' h3'
    have he : eC (.mk 4 0 [] []) ++ r = num 4 ++ (num 0 ++ r) := by simp [eC, enc, encs, V.k]
    rw [he, rdC_o (by omega) (by omega) (by omega) (by omega)]
    rfl
  | map b E =>
    obtain ⟨h1, h2, h3, -⟩ := hS
    have h1' : k = 5 := h1
    have h2' : n = 0 := h2
    have h3' : t = [] := h3
    subst h1' h2' h3'
    have he : eC (.mk 5 0 [] []) ++ r = num 5 ++ (num 0 ++ r) := by simp [eC, enc, encs, V.k]
    rw [he, rdC_o (by omega) (by omega) (by omega) (by omega)]
    rfl
theorem rdX_enc {i : In} (h0 : 0 ≤ i.op) (h1 : i.op ≤ 9223372036854775807) (h2 : 0 ≤ i.a) (h3 : i.a ≤ 9223372036854775807) (r : List UInt8) : rdX (some (eI i ++ r)) = (i, some r) := by
  obtain ⟨op, a⟩ := i
  simp only at h0 h1 h2 h3
  have a1 := rdN_num (n := op.toNat) (by omega) (num a.toNat ++ r)
  have a2 := rdN_num (n := a.toNat) (by omega) r
  have b1 : ((op.toNat : Nat) : Int) = op := by omega
  have b2 : ((a.toNat : Nat) : Int) = a := by omega
  unfold rdX eI
  simp only [List.append_assoc, a1, a2, b1, b2]
theorem rdF_enc {nc : Nat} {states : Int} {fs : List Fu} {n : Nat} {f : Fu} (h : FuOk nc states fs n f) (hn : n ≤ 32) (hc : nc ≤ 16384) (hs : states ≤ 32) (r : List UInt8) : rdF (some (eF f ++ r)) = (f, some r) := by
  have hi : ∀ i ∈ f.code, 0 ≤ i.op ∧ i.op ≤ 9223372036854775807 ∧ 0 ≤ i.a ∧ i.a ≤ 9223372036854775807 := fun i hi => by
    obtain ⟨h1, h2, h3, h4⟩ := inOk_iff.1 (h.ins i hi)
    have hf := h.num
    unfold NumOk at hf
    have h5 : inTop nc states n f i.op ≤ 1099511627777 := by
      unfold inTop
      repeat' split
      all_goals omega
    have h6 : 0 ≤ inLow i.op := by unfold inLow; split <;> omega
    omega
  have hf := h.num
  unfold NumOk at hf
  obtain ⟨p, l, z, s, code⟩ := f
  simp only at hi hf
  have k := rdG_enc (f := rdX) (e := eI) code r (fun i h r => rdX_enc (hi i h).1 (hi i h).2.1 (hi i h).2.2.1 (hi i h).2.2.2 r)
  have a5 := rdN_num (n := code.length) (by omega) (code.flatMap eI ++ r)
  have a4 := rdN_num (n := s.toNat) (by omega) (num code.length ++ (code.flatMap eI ++ r))
  have a3 := rdN_num (n := z.toNat) (by omega) (num s.toNat ++ (num code.length ++ (code.flatMap eI ++ r)))
  have a2 := rdN_num (n := l.toNat) (by omega) (num z.toNat ++ (num s.toNat ++ (num code.length ++ (code.flatMap eI ++ r))))
  have a1 := rdN_num (n := p.toNat) (by omega) (num l.toNat ++ (num z.toNat ++ (num s.toNat ++ (num code.length ++ (code.flatMap eI ++ r)))))
  have b1 : ((p.toNat : Nat) : Int) = p := by omega
  have b2 : ((l.toNat : Nat) : Int) = l := by omega
  have b3 : ((z.toNat : Nat) : Int) = z := by omega
  have b4 : ((s.toNat : Nat) : Int) = s := by omega
  have he : eF ⟨p, l, z, s, code⟩ ++ r = num p.toNat ++ (num l.toNat ++ (num z.toNat ++ (num s.toNat ++ (num code.length ++ (code.flatMap eI ++ r))))) := by
    unfold eF xsF
    simp [nInt]
  rw [he]
  unfold rdF rdXs
  simp only [a1, a2, a3, a4, a5, k, b1, b2, b3, b4]
/-- A module's bytes are read as it. -/
theorem rdM_enc {m : Md} {states : Int} (hr : Run m states) (ho : ∀ v ∈ m.consts, OkV v) (r : List UInt8) : rdM (encM m ++ r) = (m, some r) := by
  obtain ⟨hf1, hf2⟩ := hr.few
  have hst := hr.st
  have c1 := rdG_enc (f := rdC) (e := eC) m.consts (m.funcs.flatMap eF ++ r) (fun v hv r => by
    obtain ⟨h1, -, T, h3⟩ := ctype_shp (hr.con v hv)
    exact rdC_enc h3 (ho v hv) h1 r)
  have c2 := rdG_enc (f := rdF) (e := eF) m.funcs r (fun f hf r => by
    obtain ⟨n, hn⟩ := List.mem_iff_getElem?.1 hf
    have hlt : n < m.funcs.length := (List.getElem?_eq_some_iff.1 hn).1
    exact rdF_enc (hr.fun_ n f hn) (by omega) hf2 hst.2 r)
  have a2 := rdN_num (n := m.funcs.length) (by omega) (m.consts.flatMap eC ++ (m.funcs.flatMap eF ++ r))
  have a1 := rdN_num (n := m.consts.length) (by omega) (num m.funcs.length ++ (m.consts.flatMap eC ++ (m.funcs.flatMap eF ++ r)))
  have he : encM m ++ r = num m.consts.length ++ (num m.funcs.length ++ (m.consts.flatMap eC ++ (m.funcs.flatMap eF ++ r))) := by
    unfold encM
    simp
  rw [he]
  unfold rdM
  simp only [a1, a2, c1, c2]
theorem dec_enc {m : Md} {states : Int} (hr : Run m states) (ho : ∀ v ∈ m.consts, OkV v) : decR (encM m) states = (m, 0) := by
  have h := rdM_enc hr ho []
  rw [List.append_nil] at h
  unfold decR
  rw [h, if_neg (by simp), if_neg (by simpa using hr), if_neg (by simp)]
theorem dec_more {m : Md} {states : Int} (hr : Run m states) (ho : ∀ v ∈ m.consts, OkV v) {r : List UInt8} (h0 : r ≠ []) : decR (encM m ++ r) states = (Md.no, 11) := by
  unfold decR
  rw [rdM_enc hr ho r, if_pos (by simpa using h0)]
theorem dec_part {m : Md} {states : Int} (hr : Run m states) (ho : ∀ v ∈ m.consts, OkV v) {i : Nat} (hi : i < (encM m).length) : decR ((encM m).take i) states = (Md.no, 11) := by
  unfold decR
  rw [if_pos]
  intro h
  have h1 := rdM_ext ((encM m).drop i) h
  rw [List.take_append_drop] at h1
  have h2 := rdM_enc hr ho []
  rw [List.append_nil, h1] at h2
  simp only [Prod.mk.injEq, Option.some.injEq, List.nil_append] at h2
  have := congrArg List.length h2.2
  rw [List.length_drop] at this
  simp at this
  omega
theorem dec_back {b : List UInt8} {states : Int} (h : (decR b states).2 = 0) : Run (decR b states).1 states ∧ encM (decR b states).1 = b := by
  unfold decR at h ⊢
  split at h
  · simp at h
  · rename_i h1
    rw [if_neg h1]
    split at h
    · simp at h
    · rename_i h2
      rw [if_neg h2]
      split at h
      · simp at h
      · rename_i h3
        rw [if_neg h3]
        exact ⟨Classical.byContradiction h2, Classical.byContradiction h3⟩
theorem dec_err {b : List UInt8} {states : Int} (h : (decR b states).2 ≠ 0) : (decR b states).1 = Md.no := by
  unfold decR at h ⊢
  split
  · rfl
  · rename_i h1
    rw [if_neg h1] at h
    split
    · rfl
    · rename_i h2
      rw [if_neg h2] at h
      split
      · rfl
      · rename_i h3
        rw [if_neg h3] at h
        exact absurd rfl h
end Go.Proofs.Ytndahpcjkcihlaa
