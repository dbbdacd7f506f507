/- tidy: the statement's. -/
import Derived.Test.YtkbplffckkjbfabRc
import Derived.Test.YtkbplffckkjbfabMp
import Derived.Deep.LoopGhost
import Derived.Deep.RegionWith
import Derived.Deep.RegionHeld3
import Derived.Deep.DrawnRows
namespace Go.Proofs.Ytkbplffckkjbfab
open Go.RowKit
set_option linter.unusedVariables false
set_option linter.unusedSimpArgs false
attribute [local go_sem ↓] Go.wp_at_zero Go.wp_at_succ

/-- A truth is answered: true only of what is tidy. -/
def BTidy (v : V) (r : Ending) : Prop := ∃ b : Bool, r = .returned (.bool b) ∧ (b = true → Tidy v)
set_option maxRecDepth 100000 in
set_option maxHeartbeats 2000000 in
theorem tidy_any {B : Nat → Prop} {v : V} {ao : Option Addr} {cap : Nat} {w : World} (hv : IsW B w v (.slice ao v.l.length cap)) (hn : v.l.length ≤ 1000000) :
    Calls Try.prog 7 #[.agg #[.int .i64 v.k, .int .i64 v.n, .string ⟨v.t.toArray⟩, .slice ao v.l.length cap]] w fun r w' => BTidy v r ∧ Below w.heap.size w w' := by
  obtain ⟨w0, hW, hb0, hsz, d0, d1, d2, d3⟩ := boxed w v (.slice ao v.l.length cap)
  by_cases h5 : v.k = 5
  · have hk5 : (v.k != 5) = false := by simp [h5]
    by_cases hodd : v.l.length % 2 = 1
    · have hm : (v.l.length : Int) % 2 = 1 := by omega
      have ht : Int.tmod (v.l.length : Int) 2 = 1 := by rw [Int.tmod_eq_emod_of_nonneg (by omega)]; exact hm
      have hw1 : IntKind.i64.wrap 1 = 1 := by rw [IntKind.wrap_i64]; rfl
      clear hv h5 hodd
      generalize v.l.length = n at *
      go_enter Try.func7, Try.ntmps7
      go_wp2
      go_ret
      exact ⟨⟨false, rfl, fun h => by cases h⟩, hb0⟩
    · have hm : (v.l.length : Int) % 2 = 0 := by omega
      have ht : Int.tmod (v.l.length : Int) 2 = 0 := by rw [Int.tmod_eq_emod_of_nonneg (by omega)]; exact hm
      have hround : ∀ (q : Nat) (wr : World), q < v.l.length → Below w0.heap.size w0 wr →
          ∃ x g o ax cx, v.l[q]? = some x ∧ ao = some ⟨g, o, none⟩ ∧ g < w.heap.size ∧
            (wr.cell? ⟨g, o + q * 4, none⟩ = some (.int .i64 x.k) ∧ wr.cell? ⟨g, o + q * 4 + 1, none⟩ = some (.int .i64 x.n) ∧ wr.cell? ⟨g, o + q * 4 + 2, none⟩ = some (.string ⟨x.t.toArray⟩) ∧ wr.cell? ⟨g, o + q * 4 + 3, none⟩ = some (.slice ax x.l.length cx)) ∧ IsW B wr x (.slice ax x.l.length cx) := by
        intro q wr h1 hBr
        have hx : v.l[q]? = some v.l[q] := List.getElem?_eq_getElem h1
        have hBw : Below w.heap.size w wr := hb0.trans (hBr.mono hb0.size)
        obtain ⟨g, o, ax, cx, e, _, hg, c0, c1, c2, c3, hw⟩ := hv.vs.get hx
        obtain ⟨f, -⟩ := bcell hBw
        exact ⟨v.l[q], g, o, ax, cx, hx, e, hg, ⟨(f _ _ hg).trans c0, (f _ _ hg).trans c1, (f _ _ hg).trans c2, (f _ _ hg).trans c3⟩, hw.below hBw⟩
      have Hev : Hid (v.l.length % 2 = 0) := by show _ = _; omega
      clear hv hodd
      have Hk : Hid (v.k = 5) := h5
      clear h5
      go_enter Try.func7, Try.ntmps7
      go_wp2_with fail
      go_loopg [3] v.l.length (fun g i wr => ∃ q m : Nat, Hid (m = 2 * q) ∧ 2 ≤ m ∧ m ≤ v.l.length + 2 ∧ g = v.l.length + 2 - m ∧ i = .int .i64 m ∧ Hid (∀ j a b, 2 * j + 2 < m → v.l[2 * j]? = some a → v.l[2 * j + 2]? = some b → cmpV a b < 0) ∧ Below w0.heap.size w0 wr)
      case atStart => exact ⟨1, 2, rfl, Nat.le_refl _, by omega, by omega, rfl, fun j a b h => by omega, Below.refl _ _⟩
      case round =>
        obtain ⟨q, m, Hm, hm2, hml, rfl, rfl, HN, hBr⟩ := hrel
        have hBw : Below w.heap.size w wr := hb0.trans (hBr.mono hb0.size)
        have b3 : wr.cell? ⟨w.heap.size, 3, none⟩ = some (.slice ao v.l.length cap) := ((bcell hBr).1 _ _ (by omega)).trans d3
        by_cases hlt : m < v.l.length
        · have hltI : (m : Int) < (v.l.length : Int) := by omega
          obtain ⟨x, g, o, ax, cx, hx, rfl, hg, ⟨c0, c1, c2, c3⟩, hwx⟩ := hround m wr hlt hBr
          obtain ⟨m', Hm'⟩ : ∃ m', Hid (m = m' + 2) := ⟨m - 2, by show _ = _; omega⟩
          obtain ⟨p, g', o', ap, cp, hp, e, -, ⟨p0, p1, p2, p3⟩, hwp⟩ := hround m' wr (by have := Hm'.out; omega) hBr
          simp only [Option.some.injEq, Addr.mk.injEq] at e
          obtain ⟨rfl, rfl, -⟩ := e
          have hC : ∀ w2, Below wr.heap.size wr w2 → Calls Try.prog 26 #[.agg #[.int .i64 p.k, .int .i64 p.n, .string ⟨p.t.toArray⟩, .slice ap p.l.length cp], .agg #[.int .i64 x.k, .int .i64 x.n, .string ⟨x.t.toArray⟩, .slice ax x.l.length cx]] w2 fun r w' => r = .returned (.int .i64 (cmpV p x)) ∧ Below w2.heap.size w2 w' := fun w2 hb => rcompare_any (hwp.below hb) (hwx.below hb)
          have hm0 : (0 : Int) ≤ (m : Int) := by omega
          have hI0 : (0 : Int) ≤ (m' : Int) := by omega
          have hI1 : (m' : Int) < (v.l.length : Int) := by have := Hm'.out; omega
          have hs22 : (m : Int) - 2 = (m' : Int) := by have := Hm'.out; omega
          have hw22 : IntKind.i64.wrap ((m : Int) - 2) = (m' : Int) := by rw [hs22, IntKind.wrap_i64]; omega
          have hw23 : IntKind.i64.wrap (m' : Int) = (m' : Int) := by rw [IntKind.wrap_i64]; omega
          have hgr : g < wr.heap.size := by have := hBr.size; omega
          have hgb : w.heap.size < wr.heap.size := by have := hBr.size; omega
          have hpx : Hid (∀ j a b, 2 * j + 2 = m → v.l[2 * j]? = some a → v.l[2 * j + 2]? = some b → a = p ∧ b = x) := by
            intro j a b hj ha hb
            have h1 : 2 * j = m' := by have := Hm'.out; omega
            rw [h1, hp] at ha
            rw [hj, hx] at hb
            exact ⟨(Option.some.inj ha).symm, (Option.some.inj hb).symm⟩
          have Hm2 : Hid (m + 2 = 2 * (q + 1)) := by have := Hm.out; show _ = _; omega
          clear hround hx hp hwx hwp
          go_wp2_with fail
          go_region_held3 (fun w' => w'.cell? ⟨w.heap.size, 3, none⟩ = some (.slice (some ⟨g, o, none⟩) v.l.length cap) ∧ w'.cell? ⟨g, o + m' * 4, none⟩ = some (.int .i64 p.k) ∧ w'.cell? ⟨g, o + m' * 4 + 1, none⟩ = some (.int .i64 p.n) ∧ w'.cell? ⟨g, o + m' * 4 + 2, none⟩ = some (.string ⟨p.t.toArray⟩) ∧ w'.cell? ⟨g, o + m' * 4 + 3, none⟩ = some (.slice ap p.l.length cp) ∧ w'.cell? ⟨g, o + m * 4, none⟩ = some (.int .i64 x.k) ∧ w'.cell? ⟨g, o + m * 4 + 1, none⟩ = some (.int .i64 x.n) ∧ w'.cell? ⟨g, o + m * 4 + 2, none⟩ = some (.string ⟨x.t.toArray⟩) ∧ w'.cell? ⟨g, o + m * 4 + 3, none⟩ = some (.slice ax x.l.length cx)) (go_keep)
            ((go_at_call 26; refine (hC _ (Below.refl _ _).drew).mono ?_; rintro e w5 ⟨rfl, hb5⟩; replace hb5 := below_undrew hb5; obtain ⟨f3, -⟩ := bcell hb5))
          have hB5 : Below w0.heap.size w0 w5 := hBr.trans (hb5.mono hBr.size)
          clear hC f3 c0 c1 c2 c3 p0 p1 p2 p3 hw22 hs22 hw23 b3
          by_cases hz : cmpV p x < 0
          · have hzI : ¬ (0 : Int) ≤ cmpV p x := by omega
            have HN2 : Hid (∀ j a b, 2 * j + 2 < m + 2 → v.l[2 * j]? = some a → v.l[2 * j + 2]? = some b → cmpV a b < 0) := by
              intro j a b hj ha hb
              by_cases h : 2 * j + 2 = m
              · obtain ⟨rfl, rfl⟩ := hpx.out j a b h ha hb
                exact hz
              · exact HN.out j a b (by have := Hm.out; omega) ha hb
            generalize cmpV p x = c at *
            clear hpx HN
            go_wp2_with fail
            go_roundg (v.l.length + 2 - (m + 2))
            case measure => omega
            case rel => exact ⟨q + 1, m + 2, Hm2, by omega, by have := Hm.out; have := Hev.out; omega, by omega, by go_num, HN2, hB5⟩
          · have hzI : (0 : Int) ≤ cmpV p x := by omega
            generalize cmpV p x = c at *
            clear hpx HN
            go_wp2
            go_ret
            exact ⟨⟨false, rfl, fun h => by cases h⟩, hb0.trans (hB5.mono hb0.size)⟩
        · have hltI : ¬ (m : Int) < (v.l.length : Int) := by omega
          have hfin : Hid (Tidy v) := fun _ => ⟨Hev.out, fun j a b ha hb => HN.out j a b (by have := (List.getElem?_eq_some_iff.1 hb).1; omega) ha hb⟩
          clear hround HN
          go_wp2
          go_ret
          exact ⟨⟨true, rfl, fun _ => hfin.out⟩, hBw⟩
  · have hk5 : (v.k != 5) = true := by simp [h5]
    clear hv
    go_enter Try.func7, Try.ntmps7
    go_wp2
    go_ret
    exact ⟨⟨true, rfl, fun _ h => absurd h h5⟩, hb0⟩
end Go.Proofs.Ytkbplffckkjbfab
