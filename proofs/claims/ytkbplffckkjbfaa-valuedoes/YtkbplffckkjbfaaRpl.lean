/- Len, place, limit: the document's; tidy: the statement's. -/
import Derived.Test.YtkbplffckkjbfaaRcp
import Derived.Test.YtkbplffckkjbfaaVfd
import Derived.Test.YtkbplffckkjbfaaVu
import Derived.Test.YtkbplffckkjbfaaRc
namespace Go.Proofs.Ytkbplffckkjbfaa
open Go.RowKit
set_option linter.unusedVariables false
set_option linter.unusedSimpArgs false
attribute [local go_sem ↓] Go.wp_at_zero Go.wp_at_succ

set_option maxRecDepth 100000 in
set_option maxHeartbeats 1000000 in
theorem rlen_any {B : Nat → Prop} {v : V} {ao : Option Addr} {cap : Nat} {w : World} (hv : IsW B w v (.slice ao v.l.length cap)) :
    Calls Try.prog 30 #[.agg #[.int .i64 v.k, .int .i64 v.n, .string ⟨v.t.toArray⟩, .slice ao v.l.length cap]] w fun r w' => r = .returned (.tuple #[.int .i64 ((lenV v).1 : Nat), .int .i64 (lenV v).2]) ∧ Below w.heap.size w w' := by
  obtain ⟨w0, hW, hb0, hsz, d0, d1, d2, d3⟩ := boxed w v (.slice ao v.l.length cap)
  have htx := hv.txt
  obtain ⟨ao', cap', e, c1, c2⟩ := hv.vs.slice
  simp only [Value.slice.injEq] at e
  obtain ⟨rfl, -, rfl⟩ := e
  clear hv
  by_cases h3 : v.k = 3
  · have hk3 : (v.k == 3) = true := by simp [h3]
    have hfin : Hid (lenV v = (v.t.length, 0)) := by show _ = _; unfold lenV; rw [if_pos h3]
    clear h3
    go_enter Try.func30, Try.ntmps30
    go_wp2
    go_ret2
    exact ⟨by rw [hfin.out]; exact ret_two (by simp) rfl, hb0⟩
  · have hk3 : (v.k == 3) = false := by simp [h3]
    by_cases h4 : v.k = 4
    · have hk4 : (v.k == 4) = true := by simp [h4]
      have hfin : Hid (lenV v = (v.l.length, 0)) := by show _ = _; unfold lenV; rw [if_neg h3, if_pos h4]
      clear h4
      go_enter Try.func30, Try.ntmps30
      go_wp2
      go_ret2
      exact ⟨by rw [hfin.out]; exact ret_two (by simp) rfl, hb0⟩
    · have hk4 : (v.k == 4) = false := by simp [h4]
      by_cases h5 : v.k = 5
      · have hk5 : (v.k == 5) = true := by simp [h5]
        have hfin : Hid (lenV v = (v.l.length / 2, 0)) := by show _ = _; unfold lenV; rw [if_neg h3, if_neg h4, if_pos h5]
        clear h5
        go_enter Try.func30, Try.ntmps30
        go_wp2
        go_ret2
        exact ⟨by rw [hfin.out]; exact ret_two (by simp) rfl, hb0⟩
      · have hk5 : (v.k == 5) = false := by simp [h5]
        have hfin : Hid (lenV v = (0, 40)) := by show _ = _; unfold lenV; rw [if_neg h3, if_neg h4, if_neg h5]
        go_enter Try.func30, Try.ntmps30
        go_wp2
        go_ret2
        exact ⟨by rw [hfin.out]; exact ret_two rfl rfl, hb0⟩
set_option maxRecDepth 100000 in
set_option maxHeartbeats 1000000 in
theorem rlimit_any {B : Nat → Prop} {v : V} {ao : Option Addr} {cap : Nat} {w : World} (hv : IsW B w v (.slice ao v.l.length cap)) (hw : wt v ≤ 1000000) :
    Calls Try.prog 64 #[.agg #[.int .i64 v.k, .int .i64 v.n, .string ⟨v.t.toArray⟩, .slice ao v.l.length cap]] w fun r w' => (∃ ao cap, r = .returned (.tuple #[.agg #[.int .i64 (wgV v).1.k, .int .i64 (wgV v).1.n, .string ⟨(wgV v).1.t.toArray⟩, .slice ao (wgV v).1.l.length cap], .int .i64 (wgV v).2]) ∧ IsW (Lob B w.heap.size) w' (wgV v).1 (.slice ao (wgV v).1.l.length cap)) ∧ Below w.heap.size w w' := by
  obtain ⟨w0, hW, hb0, hsz, d0, d1, d2, d3⟩ := boxed w v (.slice ao v.l.length cap)
  obtain ⟨w1, hW1, hb1, hsz1, hr⟩ := rbox w0
  rw [hsz] at hr
  have hs1 : w1.heap.size = w.heap.size + 2 := by omega
  have hB1 : Below w.heap.size w w1 := hb0.trans (hb1.mono (by omega))
  obtain ⟨f1, -⟩ := bcell hb1
  rw [← f1 w.heap.size _ (by omega)] at d0 d1 d2 d3
  clear f1 hsz1
  have hWt := rweight_any _ v _ B w1 (Nat.lt_succ_self _) (by omega) (hv.below hB1)
  have hv' := hv.base (B' := Lob B w.heap.size) (fun k h1 h2 => ⟨h1, h2⟩)
  clear hv
  have hgb : w.heap.size < w1.heap.size := by omega
  by_cases hle : wt v ≤ 16384
  · have hI : ¬ (16384 : Int) < (wt v : Int) := by omega
    have hfin : Hid (wgV v = (v, 0)) := by show _ = _; unfold wgV; rw [if_pos hle]
    generalize wt v = n at *
    go_enter Try.func64, Try.ntmps64
    go_wp2_with fail
    refine hWt.mono ?_
    rintro e w2 ⟨rfl, hb2⟩
    have e0 := ((bcell hb2).1 _ 0 hgb).trans d0
    have e1 := ((bcell hb2).1 _ 1 hgb).trans d1
    have e2 := ((bcell hb2).1 _ 2 hgb).trans d2
    have e3 := ((bcell hb2).1 _ 3 hgb).trans d3
    clear hWt hW hW1 d0 d1 d2 d3
    have hB2 : Below w.heap.size w w2 := hB1.trans (hb2.mono hB1.size)
    obtain ⟨r0, r1, r2, r3, s0, s1, s2, s3, hz⟩ := hr w2 hb2
    have hres : (∃ ao cap, Ending.returned (.tuple #[.agg #[.int .i64 v.k, .int .i64 v.n, .string ⟨v.t.toArray⟩, .slice ao v.l.length cap], .int .i64 0]) = .returned (.tuple #[.agg #[.int .i64 (wgV v).1.k, .int .i64 (wgV v).1.n, .string ⟨(wgV v).1.t.toArray⟩, .slice ao (wgV v).1.l.length cap], .int .i64 (wgV v).2]) ∧ IsW (Lob B w.heap.size) (set4 w2 (w.heap.size + 1) (.int .i64 v.k) (.int .i64 v.n) (.string ⟨v.t.toArray⟩) (.slice ao v.l.length cap)) (wgV v).1 (.slice ao (wgV v).1.l.length cap)) ∧ True := by
      rw [hfin.out]
      exact ⟨⟨ao, cap, rfl, (hv'.below hB2).since (since_set4 (by show ¬ (B (w.heap.size + 1) ∧ w.heap.size + 1 < w.heap.size); omega) _ _ _ _)⟩, trivial⟩
    have hres2 : IsW (Lob B w.heap.size) (set4 w2 (w.heap.size + 1) (.int .i64 v.k) (.int .i64 v.n) (.string ⟨v.t.toArray⟩) (.slice ao v.l.length cap)) v (.slice ao v.l.length cap) := (hv'.below hB2).since (since_set4 (by show ¬ (B (w.heap.size + 1) ∧ w.heap.size + 1 < w.heap.size); omega) _ _ _ _)
    clear hr hv' hres
    go_wp2_with fail
    exact bodyPost_ret (v := .tuple #[.agg #[.int .i64 v.k, .int .i64 v.n, .string ⟨v.t.toArray⟩, .slice ao v.l.length cap], .int .i64 0]) (by simp [results, Try.results64, go_sem, hz, r0, r1, r2, r3]) rfl (by rw [hfin.out]; exact ⟨⟨ao, cap, rfl, hres2⟩, below_set4 hB2 (by omega) _ _ _ _⟩)
  · have hI : (16384 : Int) < (wt v : Int) := by omega
    have hfin : Hid (wgV v = (V.zero, 53)) := by show _ = _; unfold wgV; rw [if_neg hle]
    generalize wt v = n at *
    go_enter Try.func64, Try.ntmps64
    go_wp2_with fail
    refine hWt.mono ?_
    rintro e w2 ⟨rfl, hb2⟩
    obtain ⟨r0, r1, r2, r3, s0, s1, s2, s3, hz⟩ := hr w2 hb2
    have hB2 : Below w.heap.size w w2 := hB1.trans (hb2.mono hB1.size)
    clear hr hWt hW hW1 hv'
    go_wp2_with fail
    exact bodyPost_ret (v := .tuple #[.agg #[.int .i64 0, .int .i64 0, .string ⟨#[]⟩, .slice none 0 0], .int .i64 53]) (by simp [results, Try.results64, go_sem, hz, r0, r1, r2, r3]) rfl (by rw [hfin.out]; exact ⟨⟨none, 0, rfl, zero_isW⟩, below_set4 hB2 (by omega) _ _ _ _⟩)
/-- Where a key stands, as the document tells it. -/
def plI (k : V) (l : List V) : Int := if hit k l = true then (2 * kat k l : Nat) else -1
set_option maxRecDepth 100000 in
set_option maxHeartbeats 2000000 in
theorem rplace_any {B : Nat → Prop} {v k : V} {ao ak : Option Addr} {cap ck : Nat} {w : World} (hv : IsW B w v (.slice ao v.l.length cap)) (hk : IsW B w k (.slice ak k.l.length ck)) (hn : v.l.length ≤ 1000000) (he : v.l.length % 2 = 0) (hr : Rise v.l) :
    Calls Try.prog 59 #[.agg #[.int .i64 v.k, .int .i64 v.n, .string ⟨v.t.toArray⟩, .slice ao v.l.length cap], .agg #[.int .i64 k.k, .int .i64 k.n, .string ⟨k.t.toArray⟩, .slice ak k.l.length ck]] w fun r w' => r = .returned (.int .i64 (plI k v.l)) ∧ Below w.heap.size w w' := by
  obtain ⟨w0, w1, hW, hW1, hs0, hs1, hB, d0, d1, d2, d3, e0, e1, e2, e3⟩ := boxed2 w v (.slice ao v.l.length cap) k (.slice ak k.l.length ck)
  have hround : ∀ (q : Nat) (wr : World), q < v.l.length → Below w1.heap.size w1 wr →
      ∃ x g o ax cx, v.l[q]? = some x ∧ ao = some ⟨g, o, none⟩ ∧ g < wr.heap.size ∧
        (wr.cell? ⟨g, o + q * 4, none⟩ = some (.int .i64 x.k) ∧ wr.cell? ⟨g, o + q * 4 + 1, none⟩ = some (.int .i64 x.n) ∧ wr.cell? ⟨g, o + q * 4 + 2, none⟩ = some (.string ⟨x.t.toArray⟩) ∧ wr.cell? ⟨g, o + q * 4 + 3, none⟩ = some (.slice ax x.l.length cx)) ∧
        (∀ w2, Below wr.heap.size wr w2 → Calls Try.prog 11 #[.agg #[.int .i64 x.k, .int .i64 x.n, .string ⟨x.t.toArray⟩, .slice ax x.l.length cx], .agg #[.int .i64 k.k, .int .i64 k.n, .string ⟨k.t.toArray⟩, .slice ak k.l.length ck]] w2 fun r w' => r = .returned (.bool (cmpV x k == 0)) ∧ Below w2.heap.size w2 w') := by
    intro q wr h1 hBr
    have hx : v.l[q]? = some v.l[q] := List.getElem?_eq_getElem h1
    have hBw : Below w.heap.size w wr := hB.trans (hBr.mono hB.size)
    obtain ⟨g, o, ax, cx, e, _, hg, c0, c1, c2, c3, hw⟩ := (hv.vs.below hBw).get hx
    exact ⟨v.l[q], g, o, ax, cx, hx, e, hg, ⟨c0, c1, c2, c3⟩, fun w2 hb2 => rsame_any (hw.below hb2) ((hk.below hBw).below hb2)⟩
  have hcl : ∀ wr, Below w1.heap.size w1 wr → wr.cell? ⟨w.heap.size, 3, none⟩ = some (.slice ao v.l.length cap) ∧ wr.cell? ⟨w.heap.size + 1, 0, none⟩ = some (.int .i64 k.k) ∧ wr.cell? ⟨w.heap.size + 1, 1, none⟩ = some (.int .i64 k.n) ∧ wr.cell? ⟨w.heap.size + 1, 2, none⟩ = some (.string ⟨k.t.toArray⟩) ∧ wr.cell? ⟨w.heap.size + 1, 3, none⟩ = some (.slice ak k.l.length ck) := by
    intro wr hb
    obtain ⟨f1, -⟩ := bcell hb
    exact ⟨(f1 _ _ (by omega)).trans d3, (f1 _ _ (by omega)).trans e0, (f1 _ _ (by omega)).trans e1, (f1 _ _ (by omega)).trans e2, (f1 _ _ (by omega)).trans e3⟩
  clear hv hk d0 d1 d2 d3 e0 e1 e2 e3
  go_enter Try.func59, Try.ntmps59
  go_wp2_with fail
  go_loopg [5] v.l.length (fun g i wr => ∃ q m : Nat, Hid (m = 2 * q) ∧ m ≤ v.l.length ∧ g = v.l.length - m ∧ i = .int .i64 m ∧ Hid (∀ j, j < q → v.l[2 * j]? ≠ some k) ∧ Below w1.heap.size w1 wr)
  case atStart => exact ⟨0, 0, rfl, Nat.zero_le _, rfl, rfl, fun j h => by omega, Below.refl _ _⟩
  case round =>
    obtain ⟨q, m, Hm, hm, rfl, rfl, HN, hBr⟩ := hrel
    have hBw : Below w.heap.size w wr := hB.trans (hBr.mono hB.size)
    obtain ⟨b3, k0, k1, k2, k3⟩ := hcl wr hBr
    by_cases hlt : m + 1 < v.l.length
    · obtain ⟨x, g, o, ax, cx, hx, rfl, hg, ⟨c0, c1, c2, c3⟩, hcall⟩ := hround m wr (by omega) hBr
      have hltI : (m : Int) + 1 < (v.l.length : Int) := by omega
      have hltI2 : (m : Int) < (v.l.length : Int) := by omega
      have hm0 : (0 : Int) ≤ (m : Int) := by omega
      have hx' : Hid (v.l[m]? = some x) := hx
      clear hround hcl hx
      have hgb : w.heap.size < wr.heap.size := by have := hBr.size; omega
      have hgb' : w.heap.size + 1 < wr.heap.size := by have := hBr.size; omega
      go_wp2_with fail
      go_region_held3 (fun w' => w'.cell? ⟨w.heap.size, 3, none⟩ = some (.slice (some ⟨g, o, none⟩) v.l.length cap) ∧ w'.cell? ⟨w.heap.size + 1, 0, none⟩ = some (.int .i64 k.k) ∧ w'.cell? ⟨w.heap.size + 1, 1, none⟩ = some (.int .i64 k.n) ∧ w'.cell? ⟨w.heap.size + 1, 2, none⟩ = some (.string ⟨k.t.toArray⟩) ∧ w'.cell? ⟨w.heap.size + 1, 3, none⟩ = some (.slice ak k.l.length ck) ∧ w'.cell? ⟨g, o + m * 4, none⟩ = some (.int .i64 x.k) ∧ w'.cell? ⟨g, o + m * 4 + 1, none⟩ = some (.int .i64 x.n) ∧ w'.cell? ⟨g, o + m * 4 + 2, none⟩ = some (.string ⟨x.t.toArray⟩) ∧ w'.cell? ⟨g, o + m * 4 + 3, none⟩ = some (.slice ax x.l.length cx)) (go_keep)
        ((go_at_call 11; refine (hcall _ (Below.refl _ _).drew).mono ?_; rintro e w3 ⟨rfl, hb3⟩; replace hb3 := below_undrew hb3; obtain ⟨f3, -⟩ := bcell hb3))
      clear hcall f3 c0 c1 c2 c3 b3 k0 k1 k2 k3
      have hB3 : Below w1.heap.size w1 w3 := hBr.trans (hb3.mono hBr.size)
      have hB4 : Below w.heap.size w w3 := hB.trans (hB3.mono hB.size)
      by_cases hxk : x = k
      · have hd : (cmpV x k == 0) = true := by simp [hxk, cmpV_self]
        have hfin : Hid (plI k v.l = (m : Int)) := by
          have h1 := hit_at hr he (i := q) (by rw [← Hm.out, hx'.out, hxk])
          show _ = _
          unfold plI
          rw [if_pos h1.2, h1.1, Hm.out]
        rw [hd]
        clear hxk hd
        go_wp2
        go_ret
        exact ⟨ret_int hfin.out.symm, hB4⟩
      · have hd : (cmpV x k == 0) = false := by simp [cmpV_zero, hxk]
        have HN2 : Hid (∀ j, j < q + 1 → v.l[2 * j]? ≠ some k) := by
          intro j hj e
          by_cases h : j = q
          · subst h; rw [← Hm.out, hx'.out] at e; exact hxk (Option.some.inj e)
          · exact HN.out j (by omega) e
        have Hm2 : Hid (m + 2 = 2 * (q + 1)) := by have := Hm.out; show _ = _; omega
        rw [hd]
        clear hd HN Hm
        go_wp2_with fail
        go_roundg (v.l.length - (m + 2))
        case measure => omega
        case rel => exact ⟨q + 1, m + 2, Hm2, by omega, rfl, by go_num, HN2, hB3⟩
    · have hltI : ¬ (m : Int) + 1 < (v.l.length : Int) := by omega
      have hfin : Hid (plI k v.l = -1) := by
        show _ = _
        unfold plI
        rw [no_hit (fun i e => ?_)]
        · rfl
        · have h1 := (List.getElem?_eq_some_iff.1 e).1
          exact HN.out i (by have := Hm.out; omega) e
      clear hround hcl k0 k1 k2 k3
      go_wp2
      go_ret
      exact ⟨ret_int hfin.out.symm, hBw⟩
end Go.Proofs.Ytkbplffckkjbfaa
