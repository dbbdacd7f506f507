/- Texts of ours, joined: Vj, Vw. -/
import Derived.Test.YtndahpcjkcihlaaG09
import Derived.Deep.RegionHeld3
import Derived.Deep.DrawnRows
import Derived.Test.YtndahpcjkcihlaaG01
import Derived.Deep.LoopGhost
/- Maps of a type: the program's. -/
namespace Go.Proofs.Ytndahpcjkcihlaa
open Go.RowKit
set_option linter.unusedVariables false
set_option linter.unusedSimpArgs false
attribute [local go_sem ↓] Go.wp_at_zero Go.wp_at_succ

/-- It answers whether. -/
def BoolIs (P : Prop) (r : Ending) : Prop := ∃ b : Bool, r = .returned (.bool b) ∧ (b = true ↔ P)
theorem BoolIs.mk {P : Prop} {b : Bool} (h : b = true ↔ P) : BoolIs P (.returned (.bool b)) := ⟨b, rfl, h⟩
/-- Keys and values in turn, the keys rising. -/
def MapR (pk pv : V → Bool) (l : List V) : Prop := l.length % 2 = 0 ∧ l.length ≤ 128 ∧ (∀ i x, l[2 * i]? = some x → pk x = true) ∧ (∀ i x, l[2 * i + 1]? = some x → pv x = true) ∧ (∀ i x y, l[2 * i]? = some x → l[2 * i + 2]? = some y → cmpV x y < 0)
/-- The same, up to the pair of number q. -/
def MapQ (pk pv : V → Bool) (l : List V) (q : Nat) : Prop := (∀ i x, i < q → l[2 * i]? = some x → pk x = true) ∧ (∀ i x, i < q → l[2 * i + 1]? = some x → pv x = true) ∧ (∀ i x y, i + 1 < q → l[2 * i]? = some x → l[2 * i + 2]? = some y → cmpV x y < 0)
theorem MapQ.step {pk pv : V → Bool} {l : List V} {q : Nat} (h : MapQ pk pv l q) {x y : V} (hx : l[2 * q]? = some x) (hy : l[2 * q + 1]? = some y) (h1 : pk x = true) (h2 : pv y = true) (h3 : ∀ j z, q = j + 1 → l[2 * j]? = some z → cmpV z x < 0) : MapQ pk pv l (q + 1) := by
  refine ⟨fun i z hi hz => ?_, fun i z hi hz => ?_, fun i a b hi ha hb => ?_⟩
  · by_cases e : i = q
    · subst e; rw [hx] at hz; cases hz; exact h1
    · exact h.1 i z (by omega) hz
  · by_cases e : i = q
    · subst e; rw [hy] at hz; cases hz; exact h2
    · exact h.2.1 i z (by omega) hz
  · by_cases e : i + 1 = q
    · have hb' : l[2 * q]? = some b := by rw [← e]; exact hb
      rw [hx] at hb'; cases hb'
      exact h3 i a e.symm ha
    · exact h.2.2 i a b (by omega) ha hb
theorem MapQ.all {pk pv : V → Bool} {l : List V} {q : Nat} (h : MapQ pk pv l q) (h1 : l.length % 2 = 0) (h2 : l.length ≤ 128) (hq : l.length ≤ 2 * q) : MapR pk pv l := by
  refine ⟨h1, h2, fun i x hx => ?_, fun i x hx => ?_, fun i a b ha hb => ?_⟩
  · have := (List.getElem?_eq_some_iff.1 hx).1; exact h.1 i x (by omega) hx
  · have := (List.getElem?_eq_some_iff.1 hx).1; exact h.2.1 i x (by omega) hx
  · have := (List.getElem?_eq_some_iff.1 hb).1; exact h.2.2 i a b (by omega) ha hb

set_option maxRecDepth 100000 in
set_option maxHeartbeats 4000000 in
theorem isMapOf_any {B : Nat → Prop} {y : List UInt8} {pk pv : V → Bool} (hokk : HsOk B (mpT y).1 pk) (hokv : HsOk B (mpT y).2.1 pv) (hy : y.length ≤ 9223372036854775807) {l : List V} {ao : Option Addr} {cap : Nat} {w : World} (hl : IsVs B w l (.slice ao l.length cap)) :
    Calls Try.prog 59 #[.slice ao l.length cap, .string ⟨y.toArray⟩] w fun r w' => BoolIs (MapR pk pv l) r ∧ Below w.heap.size w w' := by
  obtain ⟨ao', cap', e, a1, a2⟩ := hl.slice
  simp only [Value.slice.injEq] at e
  obtain ⟨rfl, -, rfl⟩ := e
  by_cases hbad : ¬ (l.length % 2 = 0 ∧ l.length ≤ 128)
  · have hfin : Hid (false = true ↔ MapR pk pv l) := ⟨fun h => (by cases h), fun h => absurd ⟨h.1, h.2.1⟩ hbad⟩
    clear hokk hokv hl
    by_cases h2 : l.length % 2 = 0
    · have h2I : ((l.length : Int) % 2 != 0) = false := by simp; omega
      have h3I : (64 : Int) < (l.length : Int) / 2 := by omega
      clear hbad
      go_enter Try.func59, Try.ntmps59
      go_wp2
      go_ret
      exact ⟨BoolIs.mk (b := false) hfin, Below.refl _ _⟩
    · have h2I : ((l.length : Int) % 2 != 0) = true := by simp; omega
      clear hbad
      go_enter Try.func59, Try.ntmps59
      go_wp2
      go_ret
      exact ⟨BoolIs.mk (b := false) hfin, Below.refl _ _⟩
  have hok : l.length % 2 = 0 ∧ l.length ≤ 128 := Decidable.not_not.1 hbad
  clear hbad
  have h2I : ((l.length : Int) % 2 != 0) = false := by simp; omega
  have h3I : ¬ (64 : Int) < (l.length : Int) / 2 := by omega
  have hL := map_any y hy w
  have hround : ∀ (q : Nat) (wr : World), q < l.length → Below w.heap.size w wr →
      ∃ x g o ax cx, l[q]? = some x ∧ ao = some ⟨g, o, none⟩ ∧ g < wr.heap.size ∧ wr.cell? ⟨g, o + q * 4, none⟩ = some (.int .i64 x.k) ∧ wr.cell? ⟨g, o + q * 4 + 1, none⟩ = some (.int .i64 x.n) ∧ wr.cell? ⟨g, o + q * 4 + 2, none⟩ = some (.string ⟨x.t.toArray⟩) ∧ wr.cell? ⟨g, o + q * 4 + 3, none⟩ = some (.slice ax x.l.length cx) ∧ IsW B wr x (.slice ax x.l.length cx) := by
    intro q wr hq hB
    have hx : l[q]? = some l[q] := List.getElem?_eq_getElem hq
    obtain ⟨g, o, ax, cx, e, _, hg1, c0, c1, c2, c3, hw⟩ := (hl.below hB).get hx
    exact ⟨l[q], g, o, ax, cx, hx, e, hg1, c0, c1, c2, c3, hw⟩
  clear hl
  generalize (mpT y).1 = zk at *
  generalize (mpT y).2.1 = zv at *
  generalize (mpT y).2.2 = zb at *
  go_enter Try.func59, Try.ntmps59
  go_wp2_with fail
  refine hL.mono ?_
  rintro e w1 ⟨rfl, hb1⟩
  clear hL
  go_wp2_with fail
  go_loopg [8] l.length (fun g i wr => ∃ q m : Nat, Hid (m = 2 * q) ∧ m ≤ l.length ∧ g = l.length - m ∧ i = .int .i64 m ∧ Hid (MapQ pk pv l q) ∧ Below w.heap.size w wr)
  case atStart => exact ⟨0, 0, rfl, Nat.zero_le _, rfl, rfl, ⟨fun i x h => by omega, fun i x h => by omega, fun i x y h => by omega⟩, hb1⟩
  case round =>
    obtain ⟨q, m, Hm, hm, rfl, rfl, HQ, hB⟩ := hrel
    by_cases hlt : m < l.length
    · have hmq := Hm.out
      have hlt1 : m + 1 < l.length := by omega
      obtain ⟨x, g, o, ax, cx, hx, rfl, hg, c0, c1, c2, c3, hwx⟩ := hround m wr hlt hB
      have hltI : (m : Int) < (l.length : Int) := by omega
      have hltI1 : (m : Int) + 1 < (l.length : Int) := by omega
      have hx' : Hid (l[2 * q]? = some x) := by rw [← hmq]; exact hx
      have hC1 := hokk x _ wr hwx
      clear hx hmq
      rcases hp : pk x with _ | _
      · have hfin : Hid (false = true ↔ MapR pk pv l) := ⟨fun h => (by cases h), fun h => by have := h.2.2.1 q x hx'.out; rw [hp] at this; cases this⟩
        rw [hp] at hC1
        clear hround hokk hokv
        go_wp2_with fail
        refine hC1.mono ?_
        rintro e w3 ⟨rfl, hb3⟩
        clear hC1
        go_wp2
        go_ret
        exact ⟨BoolIs.mk (b := false) hfin, hB.trans (hb3.mono hB.size)⟩
      · rw [hp] at hC1
        go_wp2_with fail
        refine hC1.mono ?_
        rintro e w3 ⟨rfl, hb3⟩
        clear hC1 c0 c1 c2 c3
        have hB3 : Below w.heap.size w w3 := hB.trans (hb3.mono hB.size)
        obtain ⟨z, g', o', az, cz, hz, e, hg', c0, c1, c2, c3, hwz⟩ := hround (m + 1) w3 hlt1 hB3
        simp only [Option.some.injEq, Addr.mk.injEq] at e
        obtain ⟨rfl, rfl, -⟩ := e
        have hz' : Hid (l[2 * q + 1]? = some z) := by rw [← Hm.out]; exact hz
        have hC2 := hokv z _ w3 hwz
        clear hz
        rcases hpz : pv z with _ | _
        · have hfin : Hid (false = true ↔ MapR pk pv l) := ⟨fun h => (by cases h), fun h => by have := h.2.2.2.1 q z hz'.out; rw [hpz] at this; cases this⟩
          rw [hpz] at hC2
          clear hround hokk hokv
          go_wp2_with fail
          refine hC2.mono ?_
          rintro e w4 ⟨rfl, hb4⟩
          clear hC2
          go_wp2
          go_ret
          exact ⟨BoolIs.mk (b := false) hfin, hB3.trans (hb4.mono hB3.size)⟩
        · rw [hpz] at hC2
          go_wp2_with fail
          refine hC2.mono ?_
          rintro e w4 ⟨rfl, hb4⟩
          clear hC2 c0 c1 c2 c3
          have hB4 : Below w.heap.size w w4 := hB3.trans (hb4.mono hB3.size)
          rcases q with _ | j
          · have hm0 : m = 0 := Hm.out
            subst hm0
            have HQ2 : Hid (MapQ pk pv l 1) := HQ.out.step hx'.out hz'.out hp hpz (fun j z h => by omega)
            clear hround hokk hokv HQ
            go_wp2_with fail
            go_quiet (fail)
            go_wp2_with fail
            go_roundg (l.length - 2)
            case measure => omega
            case rel => exact ⟨1, 2, rfl, by omega, rfl, by go_num, HQ2, hB4.trans ((below_drewN _ _).mono hB4.size)⟩
          · obtain ⟨m', hmm⟩ : ∃ m', m = m' + 2 := ⟨m - 2, by have := Hm.out; omega⟩
            have hm'q : m' = 2 * j := by have := Hm.out; omega
            obtain ⟨p, g', o', ap, cp, hpx, e, hgp, p0, p1, p2, p3, hwp⟩ := hround m' w4 (by omega) hB4
            simp only [Option.some.injEq, Addr.mk.injEq] at e
            obtain ⟨rfl, rfl, -⟩ := e
            obtain ⟨x2, g', o', ax2, cx2, hx2, e, hgx, x0, x1, x2', x3, hwx2⟩ := hround m w4 (by omega) hB4
            simp only [Option.some.injEq, Addr.mk.injEq] at e
            obtain ⟨rfl, rfl, -⟩ := e
            have ex : x2 = x := by
              have h1 := hx'.out
              rw [show 2 * (j + 1) = m by omega, hx2] at h1
              exact Option.some.inj h1
            subst ex
            have hC3 : ∀ w5, Below w4.heap.size w4 w5 → Calls Try.prog 87 #[.agg #[.int .i64 p.k, .int .i64 p.n, .string ⟨p.t.toArray⟩, .slice ap p.l.length cp], .agg #[.int .i64 x2.k, .int .i64 x2.n, .string ⟨x2.t.toArray⟩, .slice ax2 x2.l.length cx2]] w5 fun r w' => r = .returned (.int .i64 (cmpV p x2)) ∧ Below w5.heap.size w5 w' := fun w5 hb5 => compare_any (hwp.below hb5) (hwx2.below hb5)
            have hpx' : Hid (l[2 * j]? = some p) := by rw [← hm'q]; exact hpx
            have hI0 : (0 : Int) ≤ (m' : Int) := by omega
            have hI1 : (m' : Int) < (l.length : Int) := by omega
            have hI2 : (0 : Int) < (m : Int) := by omega
            have hI4 : (0 : Int) ≤ (m : Int) := by omega
            have hs22 : (m : Int) - 2 = (m' : Int) := by omega
            have hw22 : IntKind.i64.wrap ((m : Int) - 2) = (m' : Int) := by rw [hs22, IntKind.wrap_i64]; omega
            have hd : decide ((0 : Int) < (m : Int)) = true := by simp; omega
            have hw23 : IntKind.i64.wrap (m' : Int) = (m' : Int) := by rw [IntKind.wrap_i64]; omega
            have hN : 0 < m := by omega
            have hdN : decide (0 < m) = true := by simp; omega
            clear hround hokk hokv hwp hwx2 hwx hwz hx2 hpx hm'q hmm
            go_wp2_with fail
            go_region_held3 (fun w' => w'.cell? ⟨g, o + m' * 4, none⟩ = some (.int .i64 p.k) ∧ w'.cell? ⟨g, o + m' * 4 + 1, none⟩ = some (.int .i64 p.n) ∧ w'.cell? ⟨g, o + m' * 4 + 2, none⟩ = some (.string ⟨p.t.toArray⟩) ∧ w'.cell? ⟨g, o + m' * 4 + 3, none⟩ = some (.slice ap p.l.length cp) ∧ w'.cell? ⟨g, o + m * 4, none⟩ = some (.int .i64 x2.k) ∧ w'.cell? ⟨g, o + m * 4 + 1, none⟩ = some (.int .i64 x2.n) ∧ w'.cell? ⟨g, o + m * 4 + 2, none⟩ = some (.string ⟨x2.t.toArray⟩) ∧ w'.cell? ⟨g, o + m * 4 + 3, none⟩ = some (.slice ax2 x2.l.length cx2)) (go_keep)
              ((go_at_call 87; refine (hC3 _ (Below.refl _ _).drew).mono ?_; rintro e w5 ⟨rfl, hb5⟩; replace hb5 := below_undrew hb5; obtain ⟨f3, -⟩ := bcell hb5))
            have hB5 : Below w.heap.size w w5 := hB4.trans (hb5.mono hB4.size)
            have hge : Hid (cmpV p x2 < 0 ∨ 0 ≤ cmpV p x2) := by show _ ∨ _; omega
            have hneg : Hid (0 ≤ cmpV p x2 → (false = true ↔ MapR pk pv l)) := fun h0 => ⟨fun h => (by cases h), fun h => by have := h.2.2.2.2 j p x2 hpx'.out hx'.out; omega⟩
            have hpos : Hid (cmpV p x2 < 0 → MapQ pk pv l (j + 1 + 1)) := fun h0 => HQ.out.step hx'.out hz'.out hp hpz (fun j' z h hz => by
              obtain rfl : j' = j := by omega
              rw [hpx'.out] at hz; cases hz; exact h0)
            clear f3 hC3 p0 p1 p2 p3 x0 x1 x2' x3 hp hpz hw22 hs22
            generalize cmpV p x2 = c at *
            rcases hge.out with hc | hc
            · have hcI : ¬ (0 : Int) ≤ c := by omega
              have HQ2 := hpos.out hc
              have HQ3 : Hid (MapQ pk pv l (j + 1 + 1)) := HQ2
              clear hneg hpos hge HQ2 HQ
              go_wp2_with fail
              go_roundg (l.length - (m + 2))
              case measure => omega
              case rel => exact ⟨j + 1 + 1, m + 2, by have := Hm.out; show _ = _; omega, by omega, rfl, by go_num, HQ3, hB5⟩
            · have hfin : Hid (false = true ↔ MapR pk pv l) := hneg.out hc
              clear hneg hpos hge HQ
              go_wp2
              go_ret
              exact ⟨BoolIs.mk (b := false) hfin, hB5⟩
    · have hltI : ¬ (m : Int) < (l.length : Int) := by omega
      have hfin : Hid (MapR pk pv l) := HQ.out.all hok.1 hok.2 (by have := Hm.out; omega)
      clear hround hokk hokv HQ
      go_wp2
      go_ret
      exact ⟨BoolIs.mk (b := true) ⟨fun _ => hfin.out, fun _ => rfl⟩, hB⟩
end Go.Proofs.Ytndahpcjkcihlaa
/- Weights: the program's and the document's. -/
namespace Go.Proofs.Ytndahpcjkcihlaa
open Go.RowKit
set_option linter.unusedVariables false
set_option linter.unusedSimpArgs false

set_option maxRecDepth 100000 in
set_option maxHeartbeats 1000000 in
theorem weight_any : ∀ (N : Nat) (v : V) (sl : Value) (B : Nat → Prop) (w : World), wt v < N → wt v ≤ 4611686018427387904 → IsW B w v sl →
    Calls Try.prog 32 #[.agg #[.int .i64 v.k, .int .i64 v.n, .string ⟨v.t.toArray⟩, sl]] w fun r w' => r = .returned (.int .i64 (wt v)) ∧ Below w.heap.size w w' := by
  intro N
  induction N with
  | zero => intro v sl B w h; omega
  | succ N ih =>
    intro v sl B w hN hbig hv
    obtain ⟨ao, cap, rfl, hc1, hc2⟩ := hv.vs.slice
    have hwt := wt_eq v
    have hlen := wts_len v.l
    obtain ⟨w0, hW, hb0, hsz, d0, d1, d2, d3⟩ := boxed w v (.slice ao v.l.length cap)
    have hround : ∀ (q : Nat) (wr : World), q < v.l.length → Below (w.heap.size + 1) w0 wr →
        ∃ x g o ax cx, v.l[q]? = some x ∧ ao = some ⟨g, o, none⟩ ∧ g < wr.heap.size ∧ wr.cell? ⟨g, o + q * 4, none⟩ = some (.int .i64 x.k) ∧ wr.cell? ⟨g, o + q * 4 + 1, none⟩ = some (.int .i64 x.n) ∧ wr.cell? ⟨g, o + q * 4 + 2, none⟩ = some (.string ⟨x.t.toArray⟩) ∧ wr.cell? ⟨g, o + q * 4 + 3, none⟩ = some (.slice ax x.l.length cx) ∧
          ∀ w2, Below wr.heap.size wr w2 → Calls Try.prog 32 #[.agg #[.int .i64 x.k, .int .i64 x.n, .string ⟨x.t.toArray⟩, .slice ax x.l.length cx]] w2 fun r w' => r = .returned (.int .i64 (wt x)) ∧ Below w2.heap.size w2 w' := by
      intro q wr hq hB
      have hx : v.l[q]? = some v.l[q] := List.getElem?_eq_getElem hq
      have hBw : Below w.heap.size w wr := hb0.trans (hB.mono (by omega))
      obtain ⟨g, o, ax, cx, e, _, hg, c0, c1, c2, c3, hw⟩ := (hv.vs.below hBw).get hx
      refine ⟨v.l[q], g, o, ax, cx, hx, e, hg, c0, c1, c2, c3, fun w2 hb2 => ?_⟩
      have := wts_get hx
      exact ih _ _ B w2 (by omega) (by omega) (hw.below hb2)
    clear ih hv
    go_enter Try.func32, Try.ntmps32
    go_wp2_with fail
    go_loopg [3, 13] v.l.length (fun g nv i wr => ∃ q : Nat, q ≤ v.l.length ∧ g = v.l.length - q ∧ i = .int .i64 q ∧ nv = .int .i64 (1 + v.t.length + wts (v.l.take q) : Nat) ∧ Below (w.heap.size + 1) w0 wr)
    case atStart => exact ⟨0, Nat.zero_le _, rfl, rfl, by simp [wts], by rw [← hsz]; exact Below.refl _ _⟩
    case round =>
      obtain ⟨q, hq, rfl, rfl, rfl, hB⟩ := hrel
      by_cases hlt : q < v.l.length
      · obtain ⟨x, g, o, ax, cx, hx, rfl, hg, c0, c1, c2, c3, hcall⟩ := hround q wr hlt hB
        have hltI : (q : Int) < (v.l.length : Int) := by omega
        have hs := wts_take_succ hx
        have hs2 := wts_take_le v.l (q + 1)
        have HS : Hid (wts (v.l.take (q + 1)) = wts (v.l.take q) + wt x) := hs
        have hsum : (1 + v.t.length + wts (v.l.take q) : Nat) + wt x ≤ 4611686018427387904 := by omega
        clear hs hs2 hround hx
        generalize wts (v.l.take q) = z at *
        go_wp2_with fail
        have hba : Below wr.heap.size wr (wr.alloc (.cells #[.int .i64 x.k, .int .i64 x.n, .string ⟨x.t.toArray⟩, .slice ax x.l.length cx] 29)) := (Below.refl _ _).alloc (Nat.le_refl _) _
        refine (hcall _ hba).mono ?_
        rintro e w3 ⟨rfl, hb3⟩
        clear hcall
        go_wp2_with fail
        go_roundg (v.l.length - (q + 1))
        case measure => omega
        case rel => exact ⟨q + 1, by omega, rfl, by go_num, by rw [HS.out]; go_num, hB.trans ((hba.trans (hb3.mono hba.size)).mono (by have := hB.size; omega))⟩
      · have hltI : ¬ (q : Int) < (v.l.length : Int) := by omega
        have hqe : q = v.l.length := by omega
        clear hround
        subst hqe
        go_wp2
        go_ret
        refine ⟨ret_int ?_, hb0.trans (hB.mono (by omega))⟩
        omega
set_option maxRecDepth 100000 in
set_option maxHeartbeats 1000000 in
theorem rweight_any : ∀ (N : Nat) (v : V) (sl : Value) (B : Nat → Prop) (w : World), wt v < N → wt v ≤ 4611686018427387904 → IsW B w v sl →
    Calls Try.prog 34 #[.agg #[.int .i64 v.k, .int .i64 v.n, .string ⟨v.t.toArray⟩, sl]] w fun r w' => r = .returned (.int .i64 (wt v)) ∧ Below w.heap.size w w' := by
  intro N
  induction N with
  | zero => intro v sl B w h; omega
  | succ N ih =>
    intro v sl B w hN hbig hv
    obtain ⟨ao, cap, rfl, hc1, hc2⟩ := hv.vs.slice
    have hwt := wt_eq v
    have hlen := wts_len v.l
    obtain ⟨w0, hW, hb0, hsz, d0, d1, d2, d3⟩ := boxed w v (.slice ao v.l.length cap)
    have hround : ∀ (q : Nat) (wr : World), q < v.l.length → Below (w.heap.size + 1) w0 wr →
        ∃ x g o ax cx, v.l[q]? = some x ∧ ao = some ⟨g, o, none⟩ ∧ g < wr.heap.size ∧ wr.cell? ⟨g, o + q * 4, none⟩ = some (.int .i64 x.k) ∧ wr.cell? ⟨g, o + q * 4 + 1, none⟩ = some (.int .i64 x.n) ∧ wr.cell? ⟨g, o + q * 4 + 2, none⟩ = some (.string ⟨x.t.toArray⟩) ∧ wr.cell? ⟨g, o + q * 4 + 3, none⟩ = some (.slice ax x.l.length cx) ∧
          ∀ w2, Below wr.heap.size wr w2 → Calls Try.prog 34 #[.agg #[.int .i64 x.k, .int .i64 x.n, .string ⟨x.t.toArray⟩, .slice ax x.l.length cx]] w2 fun r w' => r = .returned (.int .i64 (wt x)) ∧ Below w2.heap.size w2 w' := by
      intro q wr hq hB
      have hx : v.l[q]? = some v.l[q] := List.getElem?_eq_getElem hq
      have hBw : Below w.heap.size w wr := hb0.trans (hB.mono (by omega))
      obtain ⟨g, o, ax, cx, e, _, hg, c0, c1, c2, c3, hw⟩ := (hv.vs.below hBw).get hx
      refine ⟨v.l[q], g, o, ax, cx, hx, e, hg, c0, c1, c2, c3, fun w2 hb2 => ?_⟩
      have := wts_get hx
      exact ih _ _ B w2 (by omega) (by omega) (hw.below hb2)
    clear ih hv
    go_enter Try.func34, Try.ntmps34
    go_wp2_with fail
    go_loopg [3, 13] v.l.length (fun g nv i wr => ∃ q : Nat, q ≤ v.l.length ∧ g = v.l.length - q ∧ i = .int .i64 q ∧ nv = .int .i64 (1 + v.t.length + wts (v.l.take q) : Nat) ∧ Below (w.heap.size + 1) w0 wr)
    case atStart => exact ⟨0, Nat.zero_le _, rfl, rfl, by simp [wts], by rw [← hsz]; exact Below.refl _ _⟩
    case round =>
      obtain ⟨q, hq, rfl, rfl, rfl, hB⟩ := hrel
      by_cases hlt : q < v.l.length
      · obtain ⟨x, g, o, ax, cx, hx, rfl, hg, c0, c1, c2, c3, hcall⟩ := hround q wr hlt hB
        have hltI : (q : Int) < (v.l.length : Int) := by omega
        have hs := wts_take_succ hx
        have hs2 := wts_take_le v.l (q + 1)
        have HS : Hid (wts (v.l.take (q + 1)) = wts (v.l.take q) + wt x) := hs
        have hsum : (1 + v.t.length + wts (v.l.take q) : Nat) + wt x ≤ 4611686018427387904 := by omega
        clear hs hs2 hround hx
        generalize wts (v.l.take q) = z at *
        go_wp2_with fail
        have hba : Below wr.heap.size wr (wr.alloc (.cells #[.int .i64 x.k, .int .i64 x.n, .string ⟨x.t.toArray⟩, .slice ax x.l.length cx] 29)) := (Below.refl _ _).alloc (Nat.le_refl _) _
        refine (hcall _ hba).mono ?_
        rintro e w3 ⟨rfl, hb3⟩
        clear hcall
        go_wp2_with fail
        go_roundg (v.l.length - (q + 1))
        case measure => omega
        case rel => exact ⟨q + 1, by omega, rfl, by go_num, by rw [HS.out]; go_num, hB.trans ((hba.trans (hb3.mono hba.size)).mono (by have := hB.size; omega))⟩
      · have hltI : ¬ (q : Int) < (v.l.length : Int) := by omega
        have hqe : q = v.l.length := by omega
        clear hround
        subst hqe
        go_wp2
        go_ret
        refine ⟨ret_int ?_, hb0.trans (hB.mono (by omega))⟩
        omega
end Go.Proofs.Ytndahpcjkcihlaa
