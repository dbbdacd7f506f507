/- Texts of ours, joined: Rc, Kp, Kh. -/
import Derived.Test.YtnijcolomoobnaaGreatDoorK02
import Derived.Deep.RegionHeld3
import Derived.Deep.DrawnRows
import Derived.Test.YtnijcolomoobnaaGreatDoorK01
import Derived.Deep.LoopGhost
import Derived.Deep.RegionWith
namespace Go.Proofs.YtnijcolomoobnaaGreatDoor
open Go.RowKit
set_option linter.unusedVariables false
set_option linter.unusedSimpArgs false
attribute [local go_sem ↓] Go.wp_at_zero Go.wp_at_succ

def RCmpOk (B : Nat → Prop) (a : V) : Prop := ∀ (b : V) (sa sb : Value) (w : World), IsW B w a sa → IsW B w b sb →
    Calls Tryz.prog 35 #[.agg #[.int .i64 a.k, .int .i64 a.n, .string ⟨a.t.toArray⟩, sa], .agg #[.int .i64 b.k, .int .i64 b.n, .string ⟨b.t.toArray⟩, sb]] w fun r w' => r = .returned (.int .i64 (cmpV a b)) ∧ Below w.heap.size w w'

theorem less_bytes : ∀ a b : List UInt8, Op.bytesLess a b = decide (Lib.compareBytes a b = -1)
  | [], [] => by simp [Op.bytesLess, Lib.compareBytes]
  | [], _ :: _ => by simp [Op.bytesLess, Lib.compareBytes]
  | _ :: _, [] => by simp [Op.bytesLess, Lib.compareBytes]
  | a :: r, b :: s => by
    rw [Lib.compareBytes, Op.bytesLess]
    have ih := less_bytes r s
    by_cases h1 : a < b
    · simp [h1]
    · by_cases h2 : b < a
      · have : ¬ a = b := by rintro rfl; exact h1 h2
        simp [h1, h2, this]
      · have : a = b := by rw [UInt8.lt_iff_toNat_lt] at h1 h2; exact UInt8.toNat_inj.mp (by omega)
        subst this
        simp [h1, ih]
theorem bytes_less {a b : List UInt8} (h : ¬ a = b) : Lib.compareBytes a b = if Op.bytesLess a b = true then -1 else 1 := by
  rw [less_bytes]
  have h1 := bytes_sg a b
  have h2 := bytes_zero a b
  unfold Sg at h1
  by_cases h3 : Lib.compareBytes a b = -1
  · simp [h3]
  · rw [if_neg (by simpa using h3)]
    rcases h1 with h1 | h1 | h1
    · exact absurd h1 h3
    · exact absurd (h2.1 h1) h
    · exact h1
set_option maxRecDepth 100000 in
set_option maxHeartbeats 1000000 in
theorem rcompare_txt {B : Nat → Prop} {a : V} (b : V) (sa sb : Value) (w : World) (ha : IsW B w a sa) (hb : IsW B w b sb) (h : ¬ (a.k = b.k ∧ a.n = b.n ∧ a.t = b.t)) :
    Calls Tryz.prog 35 #[.agg #[.int .i64 a.k, .int .i64 a.n, .string ⟨a.t.toArray⟩, sa], .agg #[.int .i64 b.k, .int .i64 b.n, .string ⟨b.t.toArray⟩, sb]] w fun r w' => r = .returned (.int .i64 (cmpV a b)) ∧ Below w.heap.size w w' := by
  obtain ⟨aa, ca, rfl, a1, a2⟩ := ha.vs.slice
  obtain ⟨ab, cb, rfl, b1, b2⟩ := hb.vs.slice
  obtain ⟨w0, w1, hW, hW1, hs0, hs1, hB, d0, d1, d2, d3, e0, e1, e2, e3⟩ := boxed2 w a (.slice aa a.l.length ca) b (.slice ab b.l.length cb)
  have hh : Hid (cmpV a b = lx2 (Lib.compareInt a.k b.k) (lx2 (Lib.compareInt a.n b.n) (lx2 (Lib.compareBytes a.t b.t) (cmpVs a.l b.l)))) := cmpV_eq a b
  clear ha hb
  by_cases n1 : a.k = b.k
  · have z1 : Lib.compareInt a.k b.k = 0 := (int_zero _ _).2 n1
    have n1' : (a.k != b.k) = false := by simp [n1]
    by_cases n2 : a.n = b.n
    · have z2 : Lib.compareInt a.n b.n = 0 := (int_zero _ _).2 n2
      have n2' : (a.n != b.n) = false := by simp [n2]
      have n3 : ¬ a.t = b.t := fun h' => h ⟨n1, n2, h'⟩
      have n3' : (a.t == b.t) = false := by simp [n3]
      have hL : Hid (Lib.compareBytes a.t b.t = if Op.bytesLess a.t b.t = true then -1 else 1) := bytes_less n3
      replace hh : Hid (cmpV a b = lx2 0 (lx2 0 (lx2 (Lib.compareBytes a.t b.t) (cmpVs a.l b.l)))) := by rw [z1, z2] at hh; exact hh
      clear h n1 n2 n3 z1 z2
      generalize hQ : Op.bytesLess a.t b.t = less at *
      cases less
      all_goals
        go_enter Tryz.func35, Tryz.ntmps35
        go_wp2
        go_ret
        exact ⟨ret_int (by rw [hh.out, lx2_eq rfl, lx2_eq rfl, lx2_ne (by rw [hL.out]; decide), hL.out]; rfl), hB⟩
    · have n2' : (a.n != b.n) = true := by simp [n2]
      have hL : Hid (Lib.compareInt a.n b.n = if a.n < b.n then -1 else 1) := by
        show _ = _
        unfold Lib.compareInt; split
        · rfl
        · rw [if_pos (by omega)]
      replace hh : Hid (cmpV a b = lx2 0 (lx2 (Lib.compareInt a.n b.n) (lx2 (Lib.compareBytes a.t b.t) (cmpVs a.l b.l)))) := by rw [z1] at hh; exact hh
      clear h n1 z1
      by_cases n3 : a.n < b.n
      · go_enter Tryz.func35, Tryz.ntmps35
        go_wp2
        go_ret
        exact ⟨ret_int (by rw [hh.out, hL.out, if_pos n3, lx2_eq rfl, lx2_ne (by decide)]), hB⟩
      · go_enter Tryz.func35, Tryz.ntmps35
        go_wp2
        go_ret
        exact ⟨ret_int (by rw [hh.out, hL.out, if_neg (by omega), lx2_eq rfl, lx2_ne (by decide)]), hB⟩
  · have n1' : (a.k != b.k) = true := by simp [n1]
    have hL : Hid (Lib.compareInt a.k b.k = if a.k < b.k then -1 else 1) := by
      show _ = _
      unfold Lib.compareInt; split
      · rfl
      · rw [if_pos (by omega)]
    clear h
    by_cases n3 : a.k < b.k
    · go_enter Tryz.func35, Tryz.ntmps35
      go_wp2
      go_ret
      exact ⟨ret_int (by rw [hh.out, hL.out, if_pos n3, lx2_ne (by decide)]), hB⟩
    · go_enter Tryz.func35, Tryz.ntmps35
      go_wp2
      go_ret
      exact ⟨ret_int (by rw [hh.out, hL.out, if_neg (by omega), lx2_ne (by decide)]), hB⟩
set_option maxRecDepth 100000 in
set_option maxHeartbeats 2000000 in
theorem rcompare_step {B : Nat → Prop} {a : V} (hok : ∀ x ∈ a.l, RCmpOk B x) : RCmpOk B a := by
  intro b sa sb w ha hb
  by_cases hne : ¬ (a.k = b.k ∧ a.n = b.n ∧ a.t = b.t)
  · exact rcompare_txt b sa sb w ha hb hne
  have he : a.k = b.k ∧ a.n = b.n ∧ a.t = b.t := Decidable.not_not.1 hne
  clear hne
  obtain ⟨aa, ca, rfl, a1, a2⟩ := ha.vs.slice
  obtain ⟨ab, cb, rfl, b1, b2⟩ := hb.vs.slice
  obtain ⟨w0, w1, hW, hW1, hs0, hs1, hB, d0, d1, d2, d3, e0, e1, e2, e3⟩ := boxed2 w a (.slice aa a.l.length ca) b (.slice ab b.l.length cb)
  have hh : Hid (cmpV a b = cmpVs a.l b.l) := by
    show _ = _
    rw [cmpV_eq, (int_zero _ _).2 he.1, (int_zero _ _).2 he.2.1, (bytes_zero _ _).2 he.2.2, lx2_eq rfl, lx2_eq rfl, lx2_eq rfl]
  have n1 : (a.k != b.k) = false := by simp [he.1]
  have n2 : (a.n != b.n) = false := by simp [he.2.1]
  have n3 : (a.t == b.t) = true := by simp [he.2.2]
  have hround : ∀ (q : Nat) (wr : World), q < a.l.length → q < b.l.length → Below w1.heap.size w1 wr →
      ∃ x y g o ax cx g' o' ay cy, a.l[q]? = some x ∧ b.l[q]? = some y ∧ aa = some ⟨g, o, none⟩ ∧ ab = some ⟨g', o', none⟩ ∧ g < wr.heap.size ∧ g' < wr.heap.size ∧
        (wr.cell? ⟨g, o + q * 4, none⟩ = some (.int .i64 x.k) ∧ wr.cell? ⟨g, o + q * 4 + 1, none⟩ = some (.int .i64 x.n) ∧ wr.cell? ⟨g, o + q * 4 + 2, none⟩ = some (.string ⟨x.t.toArray⟩) ∧ wr.cell? ⟨g, o + q * 4 + 3, none⟩ = some (.slice ax x.l.length cx)) ∧
        (wr.cell? ⟨g', o' + q * 4, none⟩ = some (.int .i64 y.k) ∧ wr.cell? ⟨g', o' + q * 4 + 1, none⟩ = some (.int .i64 y.n) ∧ wr.cell? ⟨g', o' + q * 4 + 2, none⟩ = some (.string ⟨y.t.toArray⟩) ∧ wr.cell? ⟨g', o' + q * 4 + 3, none⟩ = some (.slice ay y.l.length cy)) ∧
        (wr.cell? ⟨w.heap.size, 3, none⟩ = some (.slice aa a.l.length ca) ∧ wr.cell? ⟨w.heap.size + 1, 3, none⟩ = some (.slice ab b.l.length cb)) ∧
        ∀ w2, Below wr.heap.size wr w2 → Calls Tryz.prog 35 #[.agg #[.int .i64 x.k, .int .i64 x.n, .string ⟨x.t.toArray⟩, .slice ax x.l.length cx], .agg #[.int .i64 y.k, .int .i64 y.n, .string ⟨y.t.toArray⟩, .slice ay y.l.length cy]] w2 fun r w' => r = .returned (.int .i64 (cmpV x y)) ∧ Below w2.heap.size w2 w' := by
    intro q wr h1 h2 hBr
    have hx : a.l[q]? = some a.l[q] := List.getElem?_eq_getElem h1
    have hy : b.l[q]? = some b.l[q] := List.getElem?_eq_getElem h2
    have hBw : Below w.heap.size w wr := hB.trans (hBr.mono (by omega))
    obtain ⟨g, o, ax, cx, e, _, hg, c0, c1, c2, c3, hw⟩ := (ha.vs.below hBw).get hx
    obtain ⟨g', o', ay, cy, e', _, hg', c0', c1', c2', c3', hw'⟩ := (hb.vs.below hBw).get hy
    obtain ⟨f1, -⟩ := bcell hBr
    exact ⟨a.l[q], b.l[q], g, o, ax, cx, g', o', ay, cy, hx, hy, e, e', hg, hg', ⟨c0, c1, c2, c3⟩, ⟨c0', c1', c2', c3'⟩, ⟨by rw [f1 _ _ (by omega)]; exact d3, by rw [f1 _ _ (by omega)]; exact e3⟩, fun w2 hb2 => hok _ (List.getElem_mem h1) _ _ _ w2 (hw.below hb2) (hw'.below hb2)⟩
  have hend : ∀ wr : World, Below w1.heap.size w1 wr → wr.cell? ⟨w.heap.size, 3, none⟩ = some (.slice aa a.l.length ca) ∧ wr.cell? ⟨w.heap.size + 1, 3, none⟩ = some (.slice ab b.l.length cb) := by
    intro wr hBr
    obtain ⟨f1, -⟩ := bcell hBr
    exact ⟨by rw [f1 _ _ (by omega)]; exact d3, by rw [f1 _ _ (by omega)]; exact e3⟩
  clear ha hb hok he
  go_enter Tryz.func35, Tryz.ntmps35
  go_wp2_with fail
  go_loopg [5] a.l.length (fun g i wr => ∃ q : Nat, q ≤ a.l.length ∧ q ≤ b.l.length ∧ g = a.l.length - q ∧ i = .int .i64 q ∧ Hid (cmpVs a.l b.l = cmpVs (a.l.drop q) (b.l.drop q)) ∧ Below w1.heap.size w1 wr)
  case atStart => exact ⟨0, Nat.zero_le _, Nat.zero_le _, rfl, rfl, rfl, Below.refl _ _⟩
  case round =>
    obtain ⟨q, hq, hq2, rfl, rfl, HC, hBr⟩ := hrel
    have hBw : Below w.heap.size w wr := hB.trans (hBr.mono (by omega))
    by_cases hlt : q < a.l.length ∧ q < b.l.length
    · obtain ⟨x, y, g, o, ax, cx, g', o', ay, cy, hx, hy, rfl, rfl, hg, hg', ⟨c0, c1, c2, c3⟩, ⟨c0', c1', c2', c3'⟩, ⟨b3, b3'⟩, hcall⟩ := hround q wr hlt.1 hlt.2 hBr
      clear hround hend
      have hltI2 : (q : Int) < (a.l.length : Int) := by omega
      have hltI3 : (q : Int) < (b.l.length : Int) := by omega
      have hltI4 : (0 : Int) ≤ (q : Int) := by omega
      have hD : Hid (cmpVs (a.l.drop q) (b.l.drop q) = lx2 (cmpV x y) (cmpVs (a.l.drop (q + 1)) (b.l.drop (q + 1)))) := cmpVs_drop hx hy
      clear hx hy hlt d0 d1 d2 d3 e0 e1 e2 e3 hW hW1
      have hgb : w.heap.size < wr.heap.size := by have := hBr.size; omega
      have hgb' : w.heap.size + 1 < wr.heap.size := by have := hBr.size; omega
      go_wp2_with fail
      go_region_held3 (fun w' => w'.cell? ⟨w.heap.size, 3, none⟩ = some (.slice (some ⟨g, o, none⟩) a.l.length ca) ∧ w'.cell? ⟨w.heap.size + 1, 3, none⟩ = some (.slice (some ⟨g', o', none⟩) b.l.length cb) ∧ w'.cell? ⟨g, o + q * 4, none⟩ = some (.int .i64 x.k) ∧ w'.cell? ⟨g, o + q * 4 + 1, none⟩ = some (.int .i64 x.n) ∧ w'.cell? ⟨g, o + q * 4 + 2, none⟩ = some (.string ⟨x.t.toArray⟩) ∧ w'.cell? ⟨g, o + q * 4 + 3, none⟩ = some (.slice ax x.l.length cx) ∧ w'.cell? ⟨g', o' + q * 4, none⟩ = some (.int .i64 y.k) ∧ w'.cell? ⟨g', o' + q * 4 + 1, none⟩ = some (.int .i64 y.n) ∧ w'.cell? ⟨g', o' + q * 4 + 2, none⟩ = some (.string ⟨y.t.toArray⟩) ∧ w'.cell? ⟨g', o' + q * 4 + 3, none⟩ = some (.slice ay y.l.length cy)) (go_keep)
        ((go_at_call 35; refine (hcall _ (Below.refl _ _).drew).mono ?_; rintro e w3 ⟨rfl, hb3⟩; replace hb3 := below_undrew hb3; obtain ⟨f3, -⟩ := bcell hb3))
      clear hcall
      have hB3 : Below w1.heap.size w1 w3 := hBr.trans (hb3.mono hBr.size)
      have hB4 : Below w.heap.size w w3 := hB.trans (hB3.mono (by omega))
      clear f3 c0 c1 c2 c3 c0' c1' c2' c3' b3 b3'
      by_cases hz : cmpV x y = 0
      · have hD2 : Hid (cmpVs a.l b.l = cmpVs (a.l.drop (q + 1)) (b.l.drop (q + 1))) := by
          show _ = _
          rw [HC.out, hD.out, lx2_eq hz]
        clear hD
        rw [hz]
        go_wp2_with fail
        go_roundg (a.l.length - (q + 1))
        case measure => omega
        case rel => exact ⟨q + 1, by omega, by omega, rfl, by go_num, hD2, hB3⟩
      · have hz' : (cmpV x y != 0) = true := by simp [hz]
        have hD2 : Hid (cmpV a b = cmpV x y) := by
          show _ = _
          rw [hh.out, HC.out, hD.out, lx2_ne hz]
        clear hD
        generalize cmpV x y = z at *
        go_wp2
        go_ret
        exact ⟨ret_int hD2.out.symm, hB4⟩
    · obtain ⟨b3, b3'⟩ := hend wr hBr
      clear hround hend d0 d1 d2 d3 e0 e1 e2 e3 hW hW1
      have hD2 : Hid (cmpV a b = if a.l.length < b.l.length then -1 else if b.l.length < a.l.length then 1 else 0) := by
        show _ = _
        rw [hh.out, HC.out, cmpVs_end (by omega) hq hq2]
      clear HC
      by_cases h1 : q < a.l.length
      · have h1I : (q : Int) < (a.l.length : Int) := by omega
        have h2I : ¬ (q : Int) < (b.l.length : Int) := by omega
        have h3I : ¬ (a.l.length : Int) < (b.l.length : Int) := by omega
        have h4I : (b.l.length : Int) < (a.l.length : Int) := by omega
        clear hlt
        go_wp2
        go_ret
        exact ⟨ret_int (by rw [hD2.out, if_neg (by omega), if_pos (by omega)]), hBw⟩
      · have h1I : ¬ (q : Int) < (a.l.length : Int) := by omega
        clear hlt
        by_cases h2 : a.l.length < b.l.length
        · have h3I : (a.l.length : Int) < (b.l.length : Int) := by omega
          go_wp2
          go_ret
          exact ⟨ret_int (by rw [hD2.out, if_pos (by omega)]), hBw⟩
        · have h3I : ¬ (a.l.length : Int) < (b.l.length : Int) := by omega
          have h4I : ¬ (b.l.length : Int) < (a.l.length : Int) := by omega
          go_wp2
          go_ret
          exact ⟨ret_int (by rw [hD2.out, if_neg (by omega), if_neg (by omega)]), hBw⟩
theorem rcmp_all (B : Nat → Prop) : ∀ (N : Nat) (a : V), wt a < N → RCmpOk B a := by
  intro N
  induction N with
  | zero => intro a h; omega
  | succ N ih =>
    intro a h
    refine rcompare_step fun x hx => ih x ?_
    have := wts_mem hx
    have := wt_eq a
    omega
theorem rcompare_any {B : Nat → Prop} {a b : V} {sa sb : Value} {w : World} (ha : IsW B w a sa) (hb : IsW B w b sb) :
    Calls Tryz.prog 35 #[.agg #[.int .i64 a.k, .int .i64 a.n, .string ⟨a.t.toArray⟩, sa], .agg #[.int .i64 b.k, .int .i64 b.n, .string ⟨b.t.toArray⟩, sb]] w fun r w' => r = .returned (.int .i64 (cmpV a b)) ∧ Below w.heap.size w w' := rcmp_all B _ a (Nat.lt_succ_self _) b sa sb w ha hb
set_option maxRecDepth 100000 in
set_option maxHeartbeats 1000000 in
theorem rsame_any {B : Nat → Prop} {a b : V} {sa sb : Value} {w : World} (ha : IsW B w a sa) (hb : IsW B w b sb) :
    Calls Tryz.prog 15 #[.agg #[.int .i64 a.k, .int .i64 a.n, .string ⟨a.t.toArray⟩, sa], .agg #[.int .i64 b.k, .int .i64 b.n, .string ⟨b.t.toArray⟩, sb]] w fun r w' => r = .returned (.bool (cmpV a b == 0)) ∧ Below w.heap.size w w' := by
  obtain ⟨aa, ca, rfl, a1, a2⟩ := ha.vs.slice
  obtain ⟨ab, cb, rfl, b1, b2⟩ := hb.vs.slice
  obtain ⟨w0, w1, hW, hW1, hs0, hs1, hB, d0, d1, d2, d3, e0, e1, e2, e3⟩ := boxed2 w a (.slice aa a.l.length ca) b (.slice ab b.l.length cb)
  have h := rcompare_any (ha.below hB) (hb.below hB)
  clear ha hb
  go_enter Tryz.func15, Tryz.ntmps15
  go_wp2_with fail
  refine h.mono ?_
  rintro e w3 ⟨rfl, hb3⟩
  go_wp2
  go_ret
  exact ⟨rfl, hB.trans (hb3.mono hB.size)⟩
end Go.Proofs.YtnijcolomoobnaaGreatDoor
namespace Go.Proofs.YtnijcolomoobnaaGreatDoor
open Go.RowKit
set_option linter.unusedVariables false
set_option linter.unusedSimpArgs false
attribute [local go_sem ↓] Go.wp_at_zero Go.wp_at_succ

theorem cells_k2 {w : World} {g : Nat} {y0 y1 : Value} {T : TypeId} (h : w.heap[g]? = some (.cells #[y0, y1] T (0, 0))) : w.cell? ⟨g, 0, none⟩ = some y0 ∧ w.cell? ⟨g, 1, none⟩ = some y1 ∧ w.frozen? ⟨g, 0, none⟩ = false ∧ w.frozen? ⟨g, 1, none⟩ = false ∧ g < w.heap.size := by
  refine ⟨?_, ?_, ?_, ?_, (Array.getElem?_eq_some_iff.1 h).1⟩
  all_goals first | simp [World.cell?, h] | simp [World.frozen?, h]
theorem cells_k5 {w : World} {g : Nat} {y0 y1 y2 y3 y4 : Value} {T : TypeId} (h : w.heap[g]? = some (.cells #[y0, y1, y2, y3, y4] T (0, 0))) : w.cell? ⟨g, 0, none⟩ = some y0 ∧ w.cell? ⟨g, 1, none⟩ = some y1 ∧ w.cell? ⟨g, 2, none⟩ = some y2 ∧ w.cell? ⟨g, 3, none⟩ = some y3 ∧ w.cell? ⟨g, 4, none⟩ = some y4 ∧ w.frozen? ⟨g, 0, none⟩ = false ∧ w.frozen? ⟨g, 1, none⟩ = false ∧ w.frozen? ⟨g, 2, none⟩ = false ∧ w.frozen? ⟨g, 3, none⟩ = false ∧ w.frozen? ⟨g, 4, none⟩ = false ∧ g < w.heap.size := by
  refine ⟨?_, ?_, ?_, ?_, ?_, ?_, ?_, ?_, ?_, ?_, (Array.getElem?_eq_some_iff.1 h).1⟩
  all_goals first | simp [World.cell?, h] | simp [World.frozen?, h]
theorem box2 (w : World) (x0 x1 : Value) (T : TypeId) : ∃ w0, w.alloc (.cells #[x0, x1] T) = w0 ∧ Below w.heap.size w w0 ∧ w0.heap.size = w.heap.size + 1 ∧ w0.heap[w.heap.size]? = some (.cells #[x0, x1] T (0, 0)) :=
  ⟨_, rfl, (Below.refl _ _).alloc (Nat.le_refl _) _, by simp, heap_new _ _⟩
theorem box5 (w : World) (x0 x1 x2 x3 x4 : Value) (T : TypeId) : ∃ w0, w.alloc (.cells #[x0, x1, x2, x3, x4] T) = w0 ∧ Below w.heap.size w w0 ∧ w0.heap.size = w.heap.size + 1 ∧ w0.heap[w.heap.size]? = some (.cells #[x0, x1, x2, x3, x4] T (0, 0)) :=
  ⟨_, rfl, (Below.refl _ _).alloc (Nat.le_refl _) _, by simp, heap_new _ _⟩
end Go.Proofs.YtnijcolomoobnaaGreatDoor
namespace Go.Proofs.YtnijcolomoobnaaGreatDoor
set_option linter.unusedVariables false
set_option linter.unusedSimpArgs false

theorem psh_pos (op : Int) : 0 ≤ psh op ∧ psh op ≤ 1 := by unfold psh; split <;> omega
def Gone (fs : List Fu) (f : Fu) (hs : List Int) (p : Nat) : Prop := ∃ i x, f.code[p]? = some i ∧ hs[p]? = some x ∧ 0 ≤ x ∧ 0 ≤ x - popN fs i ∧ hgt fs i x ≤ f.stack ∧ ∀ q ∈ nxt p i, hs[q]? = some (hgt fs i x)
structure HInv (fs : List Fu) (f : Fu) (hs : List Int) (sn : List Bool) : Prop where
  hl : hs.length = f.code.length
  sl : sn.length = f.code.length
  zero : hs[0]? = some 0
  low : ∀ (p : Nat) (x : Int), hs[p]? = some x → -1 ≤ x ∧ x ≤ 256
  seen : ∀ (p : Nat), sn[p]? = some true → Gone fs f hs p
  sub : ∀ H, Lab fs f H → ∀ (p : Nat) (x : Int), hs[p]? = some x → 0 ≤ x → H p = some x
structure HPart (fs : List Fu) (f : Fu) (at_ : Nat) (i : In) (x0 : Int) (k : Nat) (hs : List Int) (sn : List Bool) : Prop where
  hl : hs.length = f.code.length
  sl : sn.length = f.code.length
  zero : hs[0]? = some 0
  low : ∀ (p : Nat) (x : Int), hs[p]? = some x → -1 ≤ x ∧ x ≤ 256
  seen : ∀ (p : Nat), p ≠ at_ → sn[p]? = some true → Gone fs f hs p
  sub : ∀ H, Lab fs f H → ∀ (p : Nat) (x : Int), hs[p]? = some x → 0 ≤ x → H p = some x
  ci : f.code[at_]? = some i
  cx : hs[at_]? = some x0
  c0 : 0 ≤ x0
  x1 : 0 ≤ x0 - popN fs i
  x3 : hgt fs i x0 ≤ f.stack
  dn : ∀ q ∈ (nxt at_ i).take k, hs[q]? = some (hgt fs i x0)
theorem HInv.init {fs : List Fu} {f : Fu} (h : 1 ≤ f.code.length) : HInv fs f ((List.replicate f.code.length (-1)).set 0 0) (List.replicate f.code.length false) := by
  refine ⟨by simp, by simp, ?_, fun p x hp => ?_, fun p hp => ?_, fun H hH p x hp h0 => ?_⟩
  · rw [List.getElem?_set_self (by simp; omega)]
  · rw [List.getElem?_set] at hp
    split at hp
    · split at hp
      · simp at hp; omega
      · simp at hp
    · rw [List.getElem?_replicate] at hp
      split at hp
      · simp at hp; omega
      · simp at hp
  · rw [List.getElem?_replicate] at hp
    split at hp <;> simp at hp
  · rw [List.getElem?_set] at hp
    split at hp
    · rename_i e
      split at hp
      · simp at hp; rw [← e, ← hp]; exact hH.zero
      · simp at hp
    · rw [List.getElem?_replicate] at hp
      split at hp
      · simp at hp; omega
      · simp at hp
theorem HInv.done {fs : List Fu} {f : Fu} {hs : List Int} {sn : List Bool} (h : HInv fs f hs sn) (hn : ∀ (p : Nat) (x : Int), hs[p]? = some x → 0 ≤ x → sn[p]? = some true) : WalkOk fs f := by
  refine ⟨fun p => (hs[p]?).bind fun x => if 0 ≤ x then some x else none, ?_, fun p x hp => ?_⟩
  · rw [h.zero]; rfl
  · rcases hx : hs[p]? with _ | y
    · rw [hx] at hp; cases hp
    · rw [hx] at hp
      have hp' : (if 0 ≤ y then some y else none) = some x := hp
      split at hp'
      · rename_i h0
        have e : y = x := Option.some.inj hp'
        rw [e] at hx h0
        clear hp hp'
        obtain ⟨i, z, h1, h2, h3, h4, h5, h6⟩ := h.seen p (hn p x hx h0)
        rw [hx] at h2
        cases h2
        refine ⟨i, h1, h4, h5, fun q hq => ?_⟩
        rw [h6 q hq]
        show (if 0 ≤ hgt fs i x then some (hgt fs i x) else none) = _
        have := psh_pos i.op
        rw [if_pos (by unfold hgt; omega)]
      · cases hp'
theorem no_under {fs : List Fu} {f : Fu} {hs : List Int} {sn : List Bool} (h : HInv fs f hs sn) {at_ : Nat} {i : In} {x0 : Int} (hx : hs[at_]? = some x0) (h0 : 0 ≤ x0) (hc : f.code[at_]? = some i) (hbad : ¬ 0 ≤ x0 - popN fs i ∨ ¬ hgt fs i x0 ≤ f.stack) : ¬ WalkOk fs f := by
  rintro ⟨H, hH⟩
  obtain ⟨j, h1, h2, h3, _⟩ := hH.step _ _ (h.sub H hH _ _ hx h0)
  rw [hc] at h1
  cases h1
  rcases hbad with hb | hb
  · exact hb h2
  · exact hb h3
theorem HPart.lab {fs : List Fu} {f : Fu} {at_ : Nat} {i : In} {x0 : Int} {k : Nat} {hs : List Int} {sn : List Bool} (h : HPart fs f at_ i x0 k hs sn) {H : Nat → Option Int} (hH : Lab fs f H) {q : Nat} (hq : q ∈ nxt at_ i) : H q = some (hgt fs i x0) := by
  obtain ⟨j, h1, _, _, h4⟩ := hH.step _ _ (h.sub H hH _ _ h.cx h.c0)
  rw [h.ci] at h1
  cases h1
  exact h4 q hq
theorem HPart.no {fs : List Fu} {f : Fu} {at_ : Nat} {i : In} {x0 : Int} {k : Nat} {hs : List Int} {sn : List Bool} (h : HPart fs f at_ i x0 k hs sn) {q : Nat} (hq : (nxt at_ i)[k]? = some q) (hbad : f.code.length ≤ q ∨ ∃ y, hs[q]? = some y ∧ 0 ≤ y ∧ y ≠ hgt fs i x0) : ¬ WalkOk fs f := by
  rintro ⟨H, hH⟩
  have h1 := h.lab hH (List.mem_of_getElem? hq)
  rcases hbad with hb | ⟨y, h2, h3, h4⟩
  · obtain ⟨j, h5, _⟩ := hH.step _ _ h1
    have := (List.getElem?_eq_some_iff.1 h5).1
    omega
  · have := h.sub H hH q y h2 h3
    rw [h1] at this
    cases this
    exact h4 rfl
theorem HPart.set {fs : List Fu} {f : Fu} {at_ : Nat} {i : In} {x0 : Int} {k : Nat} {hs : List Int} {sn : List Bool} (h : HPart fs f at_ i x0 k hs sn) (hst : f.stack ≤ 256) {q : Nat} (hq : (nxt at_ i)[k]? = some q) {y : Int} (hy : hs[q]? = some y) (hyx : y < 0 ∨ y = hgt fs i x0) : HPart fs f at_ i x0 (k + 1) (hs.set q (hgt fs i x0)) sn := by
  have hpos : 0 ≤ hgt fs i x0 := by have := psh_pos i.op; have := h.x1; unfold hgt; omega
  have hql := (List.getElem?_eq_some_iff.1 hy).1
  -- what is not below 0 stays
  have hkeep : ∀ (p : Nat) (z : Int), hs[p]? = some z → 0 ≤ z → (hs.set q (hgt fs i x0))[p]? = some z := by
    intro p z hz h0
    by_cases e : q = p
    · subst e
      rw [hy] at hz
      cases hz
      rw [List.getElem?_set_self hql]
      rcases hyx with h1 | h1
      · omega
      · rw [h1]
    · rw [List.getElem?_set_ne e]; exact hz
  have hgone : ∀ p, Gone fs f hs p → Gone fs f (hs.set q (hgt fs i x0)) p := by
    rintro p ⟨j, z, a1, a2, a3, a4, a5, a6⟩
    refine ⟨j, z, a1, hkeep p z a2 a3, a3, a4, a5, fun r hr => hkeep r _ (a6 r hr) ?_⟩
    have := psh_pos j.op
    unfold hgt; omega
  refine ⟨by rw [List.length_set]; exact h.hl, h.sl, hkeep 0 0 h.zero (by omega), fun p z hz => ?_, fun p hp hs' => hgone p (h.seen p hp hs'), fun H hH p z hz h0 => ?_, h.ci, hkeep _ _ h.cx h.c0, h.c0, h.x1, h.x3, fun r hr => ?_⟩
  · rw [List.getElem?_set] at hz
    split at hz
    · simp at hz; have := h.x3; omega
    · exact h.low p z hz
  · rw [List.getElem?_set] at hz
    split at hz
    · rename_i e
      simp at hz
      rw [← e, ← hz]
      exact h.lab hH (List.mem_of_getElem? hq)
    · exact h.sub H hH p z hz h0
  · rw [List.take_add_one, hq] at hr
    rcases List.mem_append.1 hr with hr | hr
    · exact hkeep r _ (h.dn r hr) hpos
    · simp at hr
      subst hr
      rw [List.getElem?_set_self hql]
theorem HPart.out {fs : List Fu} {f : Fu} {at_ : Nat} {i : In} {x0 : Int} {k : Nat} {hs : List Int} {sn : List Bool} (h : HPart fs f at_ i x0 k hs sn) (hk : (nxt at_ i).length ≤ k) : HInv fs f hs sn := by
  refine ⟨h.hl, h.sl, h.zero, h.low, fun p hs' => ?_, h.sub⟩
  by_cases e : p = at_
  · subst e
    exact ⟨i, x0, h.ci, h.cx, h.c0, h.x1, h.x3, fun q hq => h.dn q (by rwa [List.take_of_length_le hk])⟩
  · exact h.seen p e hs'
def left (sn : List Bool) : Nat := (sn.filter fun b => !b).length
theorem left_set : ∀ (sn : List Bool) (p : Nat), sn[p]? = some false → left (sn.set p true) + 1 = left sn
  | [], p, h => by simp at h
  | b :: r, 0, h => by simp at h; subst h; simp [left]
  | b :: r, p + 1, h => by
    have ih := left_set r p (by simpa using h)
    unfold left at *
    cases b
    · simp only [List.set_cons_succ, List.filter_cons, Bool.not_false, if_true, List.length_cons]; omega
    · simp only [List.set_cons_succ, List.filter_cons, Bool.not_true, Bool.false_eq_true, if_false]; omega
end Go.Proofs.YtnijcolomoobnaaGreatDoor
