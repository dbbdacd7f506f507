/- Texts of ours, joined: Rc, Kp, Kf. -/
import Derived.Test.YtndahpcjkcihlaaG05
import Derived.Deep.RegionHeld3
import Derived.Deep.DrawnRows
import Derived.Test.YtndahpcjkcihlaaG04
import Derived.Deep.LoopGhost
import Derived.Deep.RegionWith
/- The order of values: the document's. -/
namespace Go.Proofs.Ytndahpcjkcihlaa
open Go.RowKit
set_option linter.unusedVariables false
set_option linter.unusedSimpArgs false
attribute [local go_sem ↓] Go.wp_at_zero Go.wp_at_succ

def RCmpOk (B : Nat → Prop) (a : V) : Prop := ∀ (b : V) (sa sb : Value) (w : World), IsW B w a sa → IsW B w b sb →
    Calls Try.prog 64 #[.agg #[.int .i64 a.k, .int .i64 a.n, .string ⟨a.t.toArray⟩, sa], .agg #[.int .i64 b.k, .int .i64 b.n, .string ⟨b.t.toArray⟩, sb]] w fun r w' => r = .returned (.int .i64 (cmpV a b)) ∧ Below w.heap.size w w'

theorem less_bytes : ∀ a b : List UInt8, Op.bytesLess a b = decide (Lib.compareBytes a b = -1)
  | [], [] => by simp [Op.bytesLess, Lib.compareBytes]
  | [], _ :: _ => by simp [Op.bytesLess, Lib.compareBytes]
  | _ :: _, [] => by simp [Op.bytesLess, Lib.compareBytes]
  | a :: r, b :: s => by
    rw [Lib.compareBytes, Op.bytesLess]
    have ih := less_bytes r s
    by_cases h1 : a < b
    · simp [h1]
    · by_cases h2 : b < a
      · have : ¬ a = b := by rintro rfl; exact h1 h2
        simp [h1, h2, this]
      · have : a = b := by rw [UInt8.lt_iff_toNat_lt] at h1 h2; exact UInt8.toNat_inj.mp (by omega)
        subst this
        simp [h1, ih]
theorem bytes_less {a b : List UInt8} (h : ¬ a = b) : Lib.compareBytes a b = if Op.bytesLess a b = true then -1 else 1 := by
  rw [less_bytes]
  have h1 := bytes_sg a b
  have h2 := bytes_zero a b
  unfold Sg at h1
  by_cases h3 : Lib.compareBytes a b = -1
  · simp [h3]
  · rw [if_neg (by simpa using h3)]
    rcases h1 with h1 | h1 | h1
    · exact absurd h1 h3
    · exact absurd (h2.1 h1) h
    · exact h1
set_option maxRecDepth 100000 in
set_option maxHeartbeats 1000000 in
theorem rcompare_txt {B : Nat → Prop} {a : V} (b : V) (sa sb : Value) (w : World) (ha : IsW B w a sa) (hb : IsW B w b sb) (h : ¬ (a.k = b.k ∧ a.n = b.n ∧ a.t = b.t)) :
    Calls Try.prog 64 #[.agg #[.int .i64 a.k, .int .i64 a.n, .string ⟨a.t.toArray⟩, sa], .agg #[.int .i64 b.k, .int .i64 b.n, .string ⟨b.t.toArray⟩, sb]] w fun r w' => r = .returned (.int .i64 (cmpV a b)) ∧ Below w.heap.size w w' := by
  obtain ⟨aa, ca, rfl, a1, a2⟩ := ha.vs.slice
  obtain ⟨ab, cb, rfl, b1, b2⟩ := hb.vs.slice
  obtain ⟨w0, w1, hW, hW1, hs0, hs1, hB, d0, d1, d2, d3, e0, e1, e2, e3⟩ := boxed2 w a (.slice aa a.l.length ca) b (.slice ab b.l.length cb)
  have hh : Hid (cmpV a b = lx2 (Lib.compareInt a.k b.k) (lx2 (Lib.compareInt a.n b.n) (lx2 (Lib.compareBytes a.t b.t) (cmpVs a.l b.l)))) := cmpV_eq a b
  clear ha hb
  by_cases n1 : a.k = b.k
  · have z1 : Lib.compareInt a.k b.k = 0 := (int_zero _ _).2 n1
    have n1' : (a.k != b.k) = false := by simp [n1]
    by_cases n2 : a.n = b.n
    · have z2 : Lib.compareInt a.n b.n = 0 := (int_zero _ _).2 n2
      have n2' : (a.n != b.n) = false := by simp [n2]
      have n3 : ¬ a.t = b.t := fun h' => h ⟨n1, n2, h'⟩
      have n3' : (a.t == b.t) = false := by simp [n3]
      have hL : Hid (Lib.compareBytes a.t b.t = if Op.bytesLess a.t b.t = true then -1 else 1) := bytes_less n3
      replace hh : Hid (cmpV a b = lx2 0 (lx2 0 (lx2 (Lib.compareBytes a.t b.t) (cmpVs a.l b.l)))) := by rw [z1, z2] at hh; exact hh
      clear h n1 n2 n3 z1 z2
      generalize hQ : Op.bytesLess a.t b.t = less at *
      cases less
      all_goals
        go_enter Try.func64, Try.ntmps64
        go_wp2
        go_ret
        exact ⟨ret_int (by rw [hh.out, lx2_eq rfl, lx2_eq rfl, lx2_ne (by rw [hL.out]; decide), hL.out]; rfl), hB⟩
    · have n2' : (a.n != b.n) = true := by simp [n2]
      have hL : Hid (Lib.compareInt a.n b.n = if a.n < b.n then -1 else 1) := by
        show _ = _
        unfold Lib.compareInt; split
        · rfl
        · rw [if_pos (by omega)]
      replace hh : Hid (cmpV a b = lx2 0 (lx2 (Lib.compareInt a.n b.n) (lx2 (Lib.compareBytes a.t b.t) (cmpVs a.l b.l)))) := by rw [z1] at hh; exact hh
      clear h n1 z1
      by_cases n3 : a.n < b.n
      · go_enter Try.func64, Try.ntmps64
        go_wp2
        go_ret
        exact ⟨ret_int (by rw [hh.out, hL.out, if_pos n3, lx2_eq rfl, lx2_ne (by decide)]), hB⟩
      · go_enter Try.func64, Try.ntmps64
        go_wp2
        go_ret
        exact ⟨ret_int (by rw [hh.out, hL.out, if_neg (by omega), lx2_eq rfl, lx2_ne (by decide)]), hB⟩
  · have n1' : (a.k != b.k) = true := by simp [n1]
    have hL : Hid (Lib.compareInt a.k b.k = if a.k < b.k then -1 else 1) := by
      show _ = _
      unfold Lib.compareInt; split
      · rfl
      · rw [if_pos (by omega)]
    clear h
    by_cases n3 : a.k < b.k
    · go_enter Try.func64, Try.ntmps64
      go_wp2
      go_ret
      exact ⟨ret_int (by rw [hh.out, hL.out, if_pos n3, lx2_ne (by decide)]), hB⟩
    · go_enter Try.func64, Try.ntmps64
      go_wp2
      go_ret
      exact ⟨ret_int (by rw [hh.out, hL.out, if_neg (by omega), lx2_ne (by decide)]), hB⟩
set_option maxRecDepth 100000 in
set_option maxHeartbeats 2000000 in
theorem rcompare_step {B : Nat → Prop} {a : V} (hok : ∀ x ∈ a.l, RCmpOk B x) : RCmpOk B a := by
  intro b sa sb w ha hb
  by_cases hne : ¬ (a.k = b.k ∧ a.n = b.n ∧ a.t = b.t)
  · exact rcompare_txt b sa sb w ha hb hne
  have he : a.k = b.k ∧ a.n = b.n ∧ a.t = b.t := Decidable.not_not.1 hne
  clear hne
  obtain ⟨aa, ca, rfl, a1, a2⟩ := ha.vs.slice
  obtain ⟨ab, cb, rfl, b1, b2⟩ := hb.vs.slice
  obtain ⟨w0, w1, hW, hW1, hs0, hs1, hB, d0, d1, d2, d3, e0, e1, e2, e3⟩ := boxed2 w a (.slice aa a.l.length ca) b (.slice ab b.l.length cb)
  have hh : Hid (cmpV a b = cmpVs a.l b.l) := by
    show _ = _
    rw [cmpV_eq, (int_zero _ _).2 he.1, (int_zero _ _).2 he.2.1, (bytes_zero _ _).2 he.2.2, lx2_eq rfl, lx2_eq rfl, lx2_eq rfl]
  have n1 : (a.k != b.k) = false := by simp [he.1]
  have n2 : (a.n != b.n) = false := by simp [he.2.1]
  have n3 : (a.t == b.t) = true := by simp [he.2.2]
  have hround : ∀ (q : Nat) (wr : World), q < a.l.length → q < b.l.length → Below w1.heap.size w1 wr →
      ∃ x y g o ax cx g' o' ay cy, a.l[q]? = some x ∧ b.l[q]? = some y ∧ aa = some ⟨g, o, none⟩ ∧ ab = some ⟨g', o', none⟩ ∧ g < wr.heap.size ∧ g' < wr.heap.size ∧
        (wr.cell? ⟨g, o + q * 4, none⟩ = some (.int .i64 x.k) ∧ wr.cell? ⟨g, o + q * 4 + 1, none⟩ = some (.int .i64 x.n) ∧ wr.cell? ⟨g, o + q * 4 + 2, none⟩ = some (.string ⟨x.t.toArray⟩) ∧ wr.cell? ⟨g, o + q * 4 + 3, none⟩ = some (.slice ax x.l.length cx)) ∧
        (wr.cell? ⟨g', o' + q * 4, none⟩ = some (.int .i64 y.k) ∧ wr.cell? ⟨g', o' + q * 4 + 1, none⟩ = some (.int .i64 y.n) ∧ wr.cell? ⟨g', o' + q * 4 + 2, none⟩ = some (.string ⟨y.t.toArray⟩) ∧ wr.cell? ⟨g', o' + q * 4 + 3, none⟩ = some (.slice ay y.l.length cy)) ∧
        (wr.cell? ⟨w.heap.size, 3, none⟩ = some (.slice aa a.l.length ca) ∧ wr.cell? ⟨w.heap.size + 1, 3, none⟩ = some (.slice ab b.l.length cb)) ∧
        ∀ w2, Below wr.heap.size wr w2 → Calls Try.prog 64 #[.agg #[.int .i64 x.k, .int .i64 x.n, .string ⟨x.t.toArray⟩, .slice ax x.l.length cx], .agg #[.int .i64 y.k, .int .i64 y.n, .string ⟨y.t.toArray⟩, .slice ay y.l.length cy]] w2 fun r w' => r = .returned (.int .i64 (cmpV x y)) ∧ Below w2.heap.size w2 w' := by
    intro q wr h1 h2 hBr
    have hx : a.l[q]? = some a.l[q] := List.getElem?_eq_getElem h1
    have hy : b.l[q]? = some b.l[q] := List.getElem?_eq_getElem h2
    have hBw : Below w.heap.size w wr := hB.trans (hBr.mono (by omega))
    obtain ⟨g, o, ax, cx, e, _, hg, c0, c1, c2, c3, hw⟩ := (ha.vs.below hBw).get hx
    obtain ⟨g', o', ay, cy, e', _, hg', c0', c1', c2', c3', hw'⟩ := (hb.vs.below hBw).get hy
    obtain ⟨f1, -⟩ := bcell hBr
    exact ⟨a.l[q], b.l[q], g, o, ax, cx, g', o', ay, cy, hx, hy, e, e', hg, hg', ⟨c0, c1, c2, c3⟩, ⟨c0', c1', c2', c3'⟩, ⟨by rw [f1 _ _ (by omega)]; exact d3, by rw [f1 _ _ (by omega)]; exact e3⟩, fun w2 hb2 => hok _ (List.getElem_mem h1) _ _ _ w2 (hw.below hb2) (hw'.below hb2)⟩
  have hend : ∀ wr : World, Below w1.heap.size w1 wr → wr.cell? ⟨w.heap.size, 3, none⟩ = some (.slice aa a.l.length ca) ∧ wr.cell? ⟨w.heap.size + 1, 3, none⟩ = some (.slice ab b.l.length cb) := by
    intro wr hBr
    obtain ⟨f1, -⟩ := bcell hBr
    exact ⟨by rw [f1 _ _ (by omega)]; exact d3, by rw [f1 _ _ (by omega)]; exact e3⟩
  clear ha hb hok he
  go_enter Try.func64, Try.ntmps64
  go_wp2_with fail
  go_loopg [5] a.l.length (fun g i wr => ∃ q : Nat, q ≤ a.l.length ∧ q ≤ b.l.length ∧ g = a.l.length - q ∧ i = .int .i64 q ∧ Hid (cmpVs a.l b.l = cmpVs (a.l.drop q) (b.l.drop q)) ∧ Below w1.heap.size w1 wr)
  case atStart => exact ⟨0, Nat.zero_le _, Nat.zero_le _, rfl, rfl, rfl, Below.refl _ _⟩
  case round =>
    obtain ⟨q, hq, hq2, rfl, rfl, HC, hBr⟩ := hrel
    have hBw : Below w.heap.size w wr := hB.trans (hBr.mono (by omega))
    by_cases hlt : q < a.l.length ∧ q < b.l.length
    · obtain ⟨x, y, g, o, ax, cx, g', o', ay, cy, hx, hy, rfl, rfl, hg, hg', ⟨c0, c1, c2, c3⟩, ⟨c0', c1', c2', c3'⟩, ⟨b3, b3'⟩, hcall⟩ := hround q wr hlt.1 hlt.2 hBr
      clear hround hend
      have hltI2 : (q : Int) < (a.l.length : Int) := by omega
      have hltI3 : (q : Int) < (b.l.length : Int) := by omega
      have hltI4 : (0 : Int) ≤ (q : Int) := by omega
      have hD : Hid (cmpVs (a.l.drop q) (b.l.drop q) = lx2 (cmpV x y) (cmpVs (a.l.drop (q + 1)) (b.l.drop (q + 1)))) := cmpVs_drop hx hy
      clear hx hy hlt d0 d1 d2 d3 e0 e1 e2 e3 hW hW1
      have hgb : w.heap.size < wr.heap.size := by have := hBr.size; omega
      have hgb' : w.heap.size + 1 < wr.heap.size := by have := hBr.size; omega
      go_wp2_with fail
      go_region_held3 (fun w' => w'.cell? ⟨w.heap.size, 3, none⟩ = some (.slice (some ⟨g, o, none⟩) a.l.length ca) ∧ w'.cell? ⟨w.heap.size + 1, 3, none⟩ = some (.slice (some ⟨g', o', none⟩) b.l.length cb) ∧ w'.cell? ⟨g, o + q * 4, none⟩ = some (.int .i64 x.k) ∧ w'.cell? ⟨g, o + q * 4 + 1, none⟩ = some (.int .i64 x.n) ∧ w'.cell? ⟨g, o + q * 4 + 2, none⟩ = some (.string ⟨x.t.toArray⟩) ∧ w'.cell? ⟨g, o + q * 4 + 3, none⟩ = some (.slice ax x.l.length cx) ∧ w'.cell? ⟨g', o' + q * 4, none⟩ = some (.int .i64 y.k) ∧ w'.cell? ⟨g', o' + q * 4 + 1, none⟩ = some (.int .i64 y.n) ∧ w'.cell? ⟨g', o' + q * 4 + 2, none⟩ = some (.string ⟨y.t.toArray⟩) ∧ w'.cell? ⟨g', o' + q * 4 + 3, none⟩ = some (.slice ay y.l.length cy)) (go_keep)
        ((go_at_call 64; refine (hcall _ (Below.refl _ _).drew).mono ?_; rintro e w3 ⟨rfl, hb3⟩; replace hb3 := below_undrew hb3; obtain ⟨f3, -⟩ := bcell hb3))
      clear hcall
      have hB3 : Below w1.heap.size w1 w3 := hBr.trans (hb3.mono hBr.size)
      have hB4 : Below w.heap.size w w3 := hB.trans (hB3.mono (by omega))
      clear f3 c0 c1 c2 c3 c0' c1' c2' c3' b3 b3'
      by_cases hz : cmpV x y = 0
      · have hD2 : Hid (cmpVs a.l b.l = cmpVs (a.l.drop (q + 1)) (b.l.drop (q + 1))) := by
          show _ = _
          rw [HC.out, hD.out, lx2_eq hz]
        clear hD
        rw [hz]
        go_wp2_with fail
        go_roundg (a.l.length - (q + 1))
        case measure => omega
        case rel => exact ⟨q + 1, by omega, by omega, rfl, by go_num, hD2, hB3⟩
      · have hz' : (cmpV x y != 0) = true := by simp [hz]
        have hD2 : Hid (cmpV a b = cmpV x y) := by
          show _ = _
          rw [hh.out, HC.out, hD.out, lx2_ne hz]
        clear hD
        generalize cmpV x y = z at *
        go_wp2
        go_ret
        exact ⟨ret_int hD2.out.symm, hB4⟩
    · obtain ⟨b3, b3'⟩ := hend wr hBr
      clear hround hend d0 d1 d2 d3 e0 e1 e2 e3 hW hW1
      have hD2 : Hid (cmpV a b = if a.l.length < b.l.length then -1 else if b.l.length < a.l.length then 1 else 0) := by
        show _ = _
        rw [hh.out, HC.out, cmpVs_end (by omega) hq hq2]
      clear HC
      by_cases h1 : q < a.l.length
      · have h1I : (q : Int) < (a.l.length : Int) := by omega
        have h2I : ¬ (q : Int) < (b.l.length : Int) := by omega
        have h3I : ¬ (a.l.length : Int) < (b.l.length : Int) := by omega
        have h4I : (b.l.length : Int) < (a.l.length : Int) := by omega
        clear hlt
        go_wp2
        go_ret
        exact ⟨ret_int (by rw [hD2.out, if_neg (by omega), if_pos (by omega)]), hBw⟩
      · have h1I : ¬ (q : Int) < (a.l.length : Int) := by omega
        clear hlt
        by_cases h2 : a.l.length < b.l.length
        · have h3I : (a.l.length : Int) < (b.l.length : Int) := by omega
          go_wp2
          go_ret
          exact ⟨ret_int (by rw [hD2.out, if_pos (by omega)]), hBw⟩
        · have h3I : ¬ (a.l.length : Int) < (b.l.length : Int) := by omega
          have h4I : ¬ (b.l.length : Int) < (a.l.length : Int) := by omega
          go_wp2
          go_ret
          exact ⟨ret_int (by rw [hD2.out, if_neg (by omega), if_neg (by omega)]), hBw⟩
theorem rcmp_all (B : Nat → Prop) : ∀ (N : Nat) (a : V), wt a < N → RCmpOk B a := by
  intro N
  induction N with
  | zero => intro a h; omega
  | succ N ih =>
    intro a h
    refine rcompare_step fun x hx => ih x ?_
    have := wts_mem hx
    have := wt_eq a
    omega
theorem rcompare_any {B : Nat → Prop} {a b : V} {sa sb : Value} {w : World} (ha : IsW B w a sa) (hb : IsW B w b sb) :
    Calls Try.prog 64 #[.agg #[.int .i64 a.k, .int .i64 a.n, .string ⟨a.t.toArray⟩, sa], .agg #[.int .i64 b.k, .int .i64 b.n, .string ⟨b.t.toArray⟩, sb]] w fun r w' => r = .returned (.int .i64 (cmpV a b)) ∧ Below w.heap.size w w' := rcmp_all B _ a (Nat.lt_succ_self _) b sa sb w ha hb
set_option maxRecDepth 100000 in
set_option maxHeartbeats 1000000 in
theorem rsame_any {B : Nat → Prop} {a b : V} {sa sb : Value} {w : World} (ha : IsW B w a sa) (hb : IsW B w b sb) :
    Calls Try.prog 54 #[.agg #[.int .i64 a.k, .int .i64 a.n, .string ⟨a.t.toArray⟩, sa], .agg #[.int .i64 b.k, .int .i64 b.n, .string ⟨b.t.toArray⟩, sb]] w fun r w' => r = .returned (.bool (cmpV a b == 0)) ∧ Below w.heap.size w w' := by
  obtain ⟨aa, ca, rfl, a1, a2⟩ := ha.vs.slice
  obtain ⟨ab, cb, rfl, b1, b2⟩ := hb.vs.slice
  obtain ⟨w0, w1, hW, hW1, hs0, hs1, hB, d0, d1, d2, d3, e0, e1, e2, e3⟩ := boxed2 w a (.slice aa a.l.length ca) b (.slice ab b.l.length cb)
  have h := rcompare_any (ha.below hB) (hb.below hB)
  clear ha hb
  go_enter Try.func54, Try.ntmps54
  go_wp2_with fail
  refine h.mono ?_
  rintro e w3 ⟨rfl, hb3⟩
  go_wp2
  go_ret
  exact ⟨rfl, hB.trans (hb3.mono hB.size)⟩
end Go.Proofs.Ytndahpcjkcihlaa
/- What an instruction pops and pushes: the document's. -/
namespace Go.Proofs.Ytndahpcjkcihlaa
open Go.RowKit
set_option linter.unusedVariables false
set_option linter.unusedSimpArgs false
attribute [local go_sem ↓] Go.wp_at_zero Go.wp_at_succ

theorem cells_k2 {w : World} {g : Nat} {y0 y1 : Value} {T : TypeId} (h : w.heap[g]? = some (.cells #[y0, y1] T (0, 0))) : w.cell? ⟨g, 0, none⟩ = some y0 ∧ w.cell? ⟨g, 1, none⟩ = some y1 ∧ w.frozen? ⟨g, 0, none⟩ = false ∧ w.frozen? ⟨g, 1, none⟩ = false ∧ g < w.heap.size := by
  refine ⟨?_, ?_, ?_, ?_, (Array.getElem?_eq_some_iff.1 h).1⟩
  all_goals first | simp [World.cell?, h] | simp [World.frozen?, h]
theorem cells_k5 {w : World} {g : Nat} {y0 y1 y2 y3 y4 : Value} {T : TypeId} (h : w.heap[g]? = some (.cells #[y0, y1, y2, y3, y4] T (0, 0))) : w.cell? ⟨g, 0, none⟩ = some y0 ∧ w.cell? ⟨g, 1, none⟩ = some y1 ∧ w.cell? ⟨g, 2, none⟩ = some y2 ∧ w.cell? ⟨g, 3, none⟩ = some y3 ∧ w.cell? ⟨g, 4, none⟩ = some y4 ∧ w.frozen? ⟨g, 0, none⟩ = false ∧ w.frozen? ⟨g, 1, none⟩ = false ∧ w.frozen? ⟨g, 2, none⟩ = false ∧ w.frozen? ⟨g, 3, none⟩ = false ∧ w.frozen? ⟨g, 4, none⟩ = false ∧ g < w.heap.size := by
  refine ⟨?_, ?_, ?_, ?_, ?_, ?_, ?_, ?_, ?_, ?_, (Array.getElem?_eq_some_iff.1 h).1⟩
  all_goals first | simp [World.cell?, h] | simp [World.frozen?, h]
/-- A box of two cells. -/
theorem box2 (w : World) (x0 x1 : Value) (T : TypeId) : ∃ w0, w.alloc (.cells #[x0, x1] T) = w0 ∧ Below w.heap.size w w0 ∧ w0.heap.size = w.heap.size + 1 ∧ w0.heap[w.heap.size]? = some (.cells #[x0, x1] T (0, 0)) :=
  ⟨_, rfl, (Below.refl _ _).alloc (Nat.le_refl _) _, by simp, heap_new _ _⟩
theorem box5 (w : World) (x0 x1 x2 x3 x4 : Value) (T : TypeId) : ∃ w0, w.alloc (.cells #[x0, x1, x2, x3, x4] T) = w0 ∧ Below w.heap.size w w0 ∧ w0.heap.size = w.heap.size + 1 ∧ w0.heap[w.heap.size]? = some (.cells #[x0, x1, x2, x3, x4] T (0, 0)) :=
  ⟨_, rfl, (Below.refl _ _).alloc (Nat.le_refl _) _, by simp, heap_new _ _⟩
set_option maxRecDepth 100000 in
set_option maxHeartbeats 4000000 in
theorem pushes_any (i : In) (w : World) : Calls Try.prog 43 #[.agg #[.int .i64 i.op, .int .i64 i.a]] w fun e w' => e = .returned (.int .i64 (psh i.op)) ∧ Below w.heap.size w w' := by
  obtain ⟨w0, hW, hb, hl, hx⟩ := box2 w (.int .i64 i.op) (.int .i64 i.a) 46
  obtain ⟨c0, c1, -, -, hlt⟩ := cells_k2 hx
  obtain ⟨op, a⟩ := i
  simp only at *
  obtain ⟨r, hr⟩ : ∃ r, Hid (psh op = r) := ⟨_, rfl⟩
  rw [hr.out]
  clear hx hl
  go_enter Try.func43, Try.ntmps43
  go_wp2
  all_goals (try go_ret)
  all_goals (refine ⟨?_, hb⟩; rw [← hr.out]; unfold psh pshB; simp_all)
set_option maxRecDepth 100000 in
set_option maxHeartbeats 4000000 in
theorem pops_other {m1 m2 : Value} {fs : List Fu} {i : In} {w : World} (h9 : (i.op == 9) = false) : Calls Try.prog 42 #[.agg #[m1, m2], .agg #[.int .i64 i.op, .int .i64 i.a]] w fun e w' => e = .returned (.int .i64 (popN fs i)) ∧ Below w.heap.size w w' := by
  obtain ⟨w0, hW0, hb0, hl0, hx0⟩ := box2 w m1 m2 25
  obtain ⟨w1, hW, hb, hl, hx⟩ := box2 w0 (.int .i64 i.op) (.int .i64 i.a) 46
  obtain ⟨c0, c1, -, -, hlt⟩ := cells_k2 hx
  have hB : Below w.heap.size w w1 := hb0.trans (hb.mono (by omega))
  obtain ⟨r, hr⟩ : ∃ r, Hid (popN fs i = r) := ⟨_, rfl⟩
  rw [hr.out]
  obtain ⟨op, a⟩ := i
  simp only at *
  clear hx hl hx0 hl0
  go_enter Try.func42, Try.ntmps42
  go_wp2
  all_goals (try go_ret)
  all_goals (refine ⟨?_, hB⟩; rw [← hr.out]; unfold popN pop1 pop2; simp_all)
set_option maxRecDepth 100000 in
set_option maxHeartbeats 4000000 in
theorem pops_call {B : Nat → Prop} {fs : List Fu} {m1 : Value} {af : Option Addr} {cf : Nat} {i : In} {w : World} {n : Nat} {f : Fu} (hm : IsFus B w fs (.slice af fs.length cf)) (h9 : i.op = 9) (hn : i.a = (n : Int)) (hf : fs[n]? = some f) : Calls Try.prog 42 #[.agg #[m1, .slice af fs.length cf], .agg #[.int .i64 i.op, .int .i64 i.a]] w fun e w' => e = .returned (.int .i64 (popN fs i)) ∧ Below w.heap.size w w' := by
  obtain ⟨w0, hW0, hb0, hl0, hx0⟩ := box2 w m1 (.slice af fs.length cf) 25
  obtain ⟨w1, hW, hb, hl, hx⟩ := box2 w0 (.int .i64 i.op) (.int .i64 i.a) 46
  obtain ⟨c0, c1, -, -, hlt⟩ := cells_k2 hx
  obtain ⟨d0, d1, -, -, hlt0⟩ := cells_k2 ((hb.block _ (by omega)).trans hx0)
  have hB : Below w.heap.size w w1 := hb0.trans (hb.mono (by omega))
  obtain ⟨g, o, ac, cc, rfl, -, hg, e0, -⟩ := (hm.since (Since.of_below hB)).get hf
  have hr : popN fs i = f.params := by
    unfold popN pop1 pop2
    rw [h9, hn]
    simp [hf]
  rw [hr]
  have hnl := (List.getElem?_eq_some_iff.1 hf).1
  have hI : (n : Int) < (fs.length : Int) := by omega
  have h0 : (0 : Int) ≤ (n : Int) := by omega
  rw [h9] at c0
  rw [hn] at c1
  rw [h9, hn] at hW
  rw [h9, hn]
  clear hx hl hx0 hl0 hr hf hm hnl h9 hn
  go_enter Try.func42, Try.ntmps42
  go_wp2
  go_ret
  exact ⟨rfl, hB⟩
end Go.Proofs.Ytndahpcjkcihlaa
/- Can an instruction be? The document's. -/
namespace Go.Proofs.Ytndahpcjkcihlaa
open Go.RowKit
set_option linter.unusedVariables false
set_option linter.unusedSimpArgs false
attribute [local go_sem ↓] Go.wp_at_zero Go.wp_at_succ

/-- A function's box, laid empty and then filled. -/
theorem fbox (w : World) (x0 x1 x2 x3 x4 : Value) : ∃ wz w4, w.alloc (.cells #[.int .i64 0, .int .i64 0, .int .i64 0, .int .i64 0, .slice none 0 0] 44) = wz ∧ ((((wz.setCell ⟨w.heap.size, 0, none⟩ x0).setCell ⟨w.heap.size, 1, none⟩ x1).setCell ⟨w.heap.size, 2, none⟩ x2).setCell ⟨w.heap.size, 3, none⟩ x3).setCell ⟨w.heap.size, 4, none⟩ x4 = w4 ∧ Below w.heap.size w wz ∧ Below w.heap.size w w4 ∧ w4.heap.size = w.heap.size + 1 ∧ w4.heap[w.heap.size]? = some (.cells #[x0, x1, x2, x3, x4] 44 (0, 0)) ∧ wz.heap[w.heap.size]? = some (.cells #[.int .i64 0, .int .i64 0, .int .i64 0, .int .i64 0, .slice none 0 0] 44 (0, 0)) := by
  have hb : Below w.heap.size w (w.alloc (.cells #[.int .i64 0, .int .i64 0, .int .i64 0, .int .i64 0, .slice none 0 0] 44)) := (Below.refl _ _).alloc (Nat.le_refl _) _
  have hz : (w.alloc (.cells #[.int .i64 0, .int .i64 0, .int .i64 0, .int .i64 0, .slice none 0 0] 44)).heap[w.heap.size]? = some (.cells #[.int .i64 0, .int .i64 0, .int .i64 0, .int .i64 0, .slice none 0 0] 44 (0, 0)) := heap_new _ _
  refine ⟨_, _, rfl, rfl, hb, ((((hb.setCell (p := ⟨w.heap.size, 0, none⟩) (Nat.le_refl _) x0).setCell (p := ⟨w.heap.size, 1, none⟩) (Nat.le_refl _) x1).setCell (p := ⟨w.heap.size, 2, none⟩) (Nat.le_refl _) x2).setCell (p := ⟨w.heap.size, 3, none⟩) (Nat.le_refl _) x3).setCell (p := ⟨w.heap.size, 4, none⟩) (Nat.le_refl _) x4, by simp [World.setCell], ?_, hz⟩
  generalize w.alloc (.cells #[.int .i64 0, .int .i64 0, .int .i64 0, .int .i64 0, .slice none 0 0] 44) = wz at *
  simp [World.setCell, Array.getElem?_modify, hz]
set_option maxRecDepth 100000 in
set_option maxHeartbeats 8000000 in
theorem fits13_any {B : Nat → Prop} {m : Md} {ac af : Option Addr} {cc cf : Nat} {w : World} (hm : IsMd B w m (.slice ac m.consts.length cc) (.slice af m.funcs.length cf)) {states : Int} {n : Nat} {f : Fu} (hf : m.funcs[n]? = some f) (i : In) :
    Calls Try.prog 22 #[.agg #[.slice ac m.consts.length cc, .slice af m.funcs.length cf], .int .i64 states, .int .i64 n, .agg #[.int .i64 i.op, .int .i64 i.a]] w fun e w' => e = .returned (.bool (inB m.consts.length states n f i)) ∧ Below w.heap.size w w' := by
  obtain ⟨w0, hW0, hb0, hl0, hx0⟩ := box2 w (.slice ac m.consts.length cc) (.slice af m.funcs.length cf) 25
  obtain ⟨w1, hW1, hb1, hl1, hx1⟩ := box2 w0 (.int .i64 i.op) (.int .i64 i.a) 46
  have hB1 : Below w.heap.size w w1 := hb0.trans (hb1.mono (by omega))
  obtain ⟨g, o, ak, ck, rfl, -, hg, p0, p1, p2, p3, p4, hfn⟩ := (hm.fun_.since (Since.of_below hB1)).get hf
  obtain ⟨wz, w2, hWz, hW2, hbz, hb2, hs2, hx2, hz⟩ := fbox w1 (.int .i64 f.params) (.int .i64 f.locals) (.int .i64 f.zero) (.int .i64 f.stack) (.slice ak f.code.length ck)
  have hB2 : Below w.heap.size w w2 := hB1.trans (hb2.mono (by omega))
  obtain ⟨c0, c1, -, -, hlc⟩ := cells_k2 ((hb2.block _ (by omega)).trans hx1)
  obtain ⟨d0, d1, -, -, hld⟩ := cells_k2 ((hb2.block _ (by omega)).trans ((hb1.block _ (by omega)).trans hx0))
  obtain ⟨d0', d1', -, -, hld'⟩ := cells_k2 ((hb1.block _ (by omega)).trans hx0)
  obtain ⟨e0, e1, e2, e3, e4, -, -, -, -, -, hle⟩ := cells_k5 hx2
  obtain ⟨z0, z1, z2, z3, z4, y0, y1, y2, y3, y4, hlz⟩ := cells_k5 hz
  have hnl := (List.getElem?_eq_some_iff.1 hf).1
  have hI : (n : Int) < (m.funcs.length : Int) := by omega
  have h0 : (0 : Int) ≤ (n : Int) := by omega
  obtain ⟨op, a⟩ := i
  obtain ⟨r, hr⟩ : ∃ r, Hid (inB m.consts.length states n f ⟨op, a⟩ = r) := ⟨_, rfl⟩
  rw [hr.out]
  simp only at *
  clear hx0 hx1 hx2 hz hl0 hl1 hs2 hm hf hnl hfn
  go_enter Try.func22, Try.ntmps22
  go_wp2
  all_goals (try go_ret)
  all_goals (refine ⟨?_, hB2⟩; rw [← hr.out]; clear hr c0 c1 d0 d1 d0' d1' e0 e1 e2 e3 e4 z0 z1 z2 z3 z4 y0 y1 y2 y3 y4 p0 p1 p2 p3 p4 hW0 hW1 hWz hW2 hb0 hb1 hbz hb2 hB1 hB2 hlc hld hld' hle hlz hg; unfold inB inLow inTop; simp_all <;> omega)
end Go.Proofs.Ytndahpcjkcihlaa
