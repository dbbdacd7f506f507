/- Texts of ours, joined: Vl, Vc. -/
import Derived.Test.YtndahpcjkcihlaaG01
import Derived.Lib.Walk
import Derived.Lib.Strings
import Derived.Lib.Bytealg
import Derived.Deep.LoopGhost
/- Comparing numbers and texts: the library's, walked. -/
namespace Go.Proofs.Ytndahpcjkcihlaa
open Go.RowKit
set_option linter.unusedVariables false
set_option linter.unusedSimpArgs false

set_option maxRecDepth 100000 in
set_option maxHeartbeats 1000000 in
theorem cmpi_any (a b : Int) (w : World) : Calls Try.prog 93 #[.int .i64 a, .int .i64 b] w fun e w' => e = .returned (.int .i64 (Lib.compareInt a b)) ∧ w' = w := by
  have h0 : (a != a) = false := by simp
  have h1 : (b != b) = false := by simp
  unfold Lib.compareInt
  by_cases h2 : a < b
  · rw [if_pos h2]
    go_enter Try.func93, Try.ntmps93
    go_wp2
    go_ret
    exact ⟨rfl, rfl⟩
  · rw [if_neg h2]
    by_cases h3 : a > b
    · rw [if_pos h3]
      have h3' : b < a := h3
      go_enter Try.func93, Try.ntmps93
      go_wp2
      go_ret
      exact ⟨rfl, rfl⟩
    · rw [if_neg h3]
      have h3' : ¬ b < a := h3
      go_enter Try.func93, Try.ntmps93
      go_wp2
      go_ret
      exact ⟨rfl, rfl⟩
set_option maxRecDepth 100000 in
set_option maxHeartbeats 1000000 in
theorem scmp_any (a b : ByteArray) (w : World) : Calls Try.prog 94 #[.string a, .string b] w fun e w' => e = .returned (.int .i64 (Lib.compareBytes a.data.toList b.data.toList)) ∧ w' = w := by
  go_enter Try.func94, Try.ntmps94
  go_wp2
  rw [run_callFunc_extern Try.func103 (by kernel_rfl) (by kernel_rfl) (by kernel_rfl) (e := Extern.BytealgCompare.compare) (by kernel_rfl), Lib.run_compareString]
  simp only [Result.andThen]
  rw [Oper.upon_value]
  go_wp2
  go_ret
  exact ⟨rfl, rfl⟩
theorem scmp_list (a b : List UInt8) (w : World) : Calls Try.prog 94 #[.string ⟨a.toArray⟩, .string ⟨b.toArray⟩] w fun e w' => e = .returned (.int .i64 (Lib.compareBytes a b)) ∧ w' = w := by
  have := scmp_any ⟨a.toArray⟩ ⟨b.toArray⟩ w
  simpa only [List.toList_toArray] using this
end Go.Proofs.Ytndahpcjkcihlaa
/- The order of values: the program's. -/
namespace Go.Proofs.Ytndahpcjkcihlaa
open Go.RowKit
set_option linter.unusedVariables false
set_option linter.unusedSimpArgs false

/-- Compare does what it should, of this value and any other one. -/
def CmpOk (B : Nat → Prop) (a : V) : Prop := ∀ (b : V) (sa sb : Value) (w : World), IsW B w a sa → IsW B w b sb →
    Calls Try.prog 87 #[.agg #[.int .i64 a.k, .int .i64 a.n, .string ⟨a.t.toArray⟩, sa], .agg #[.int .i64 b.k, .int .i64 b.n, .string ⟨b.t.toArray⟩, sb]] w fun r w' => r = .returned (.int .i64 (cmpV a b)) ∧ Below w.heap.size w w'
theorem cmpV_eq (a b : V) : cmpV a b = lx2 (Lib.compareInt a.k b.k) (lx2 (Lib.compareInt a.n b.n) (lx2 (Lib.compareBytes a.t b.t) (cmpVs a.l b.l))) := by
  cases a; cases b; rw [cmpV]; rfl
theorem lx2_ne {c d : Int} (h : ¬ c = 0) : lx2 c d = c := by unfold lx2; rw [if_neg h]
theorem lx2_eq {c d : Int} (h : c = 0) : lx2 c d = d := by unfold lx2; rw [if_pos h]

set_option maxRecDepth 100000 in
set_option maxHeartbeats 1000000 in
theorem cmpFunc_any {B : Nat → Prop} {l m : List V} (hok : ∀ x ∈ l, CmpOk B x) {aa ab : Option Addr} {ca cb : Nat} {w : World} (hl : IsVs B w l (.slice aa l.length ca)) (hm : IsVs B w m (.slice ab m.length cb)) :
    Calls Try.prog 95 #[.slice aa l.length ca, .slice ab m.length cb, .func (Fn.func 87) #[] #[]] w fun r w' => r = .returned (.int .i64 (cmpVs l m)) ∧ Below w.heap.size w w' := by
  obtain ⟨aa', ca', e, a1, a2⟩ := hl.slice
  simp only [Value.slice.injEq] at e
  obtain ⟨rfl, -, rfl⟩ := e
  obtain ⟨ab', cb', e, b1, b2⟩ := hm.slice
  simp only [Value.slice.injEq] at e
  obtain ⟨rfl, -, rfl⟩ := e
  have hround : ∀ (q : Nat) (wr : World), q < l.length → q < m.length → Below w.heap.size w wr →
      ∃ x y g o ax cx g' o' ay cy, l[q]? = some x ∧ m[q]? = some y ∧ aa = some ⟨g, o, none⟩ ∧ ab = some ⟨g', o', none⟩ ∧ g < wr.heap.size ∧ g' < wr.heap.size ∧
        (wr.cell? ⟨g, o + q * 4, none⟩ = some (.int .i64 x.k) ∧ wr.cell? ⟨g, o + q * 4 + 1, none⟩ = some (.int .i64 x.n) ∧ wr.cell? ⟨g, o + q * 4 + 2, none⟩ = some (.string ⟨x.t.toArray⟩) ∧ wr.cell? ⟨g, o + q * 4 + 3, none⟩ = some (.slice ax x.l.length cx)) ∧
        (wr.cell? ⟨g', o' + q * 4, none⟩ = some (.int .i64 y.k) ∧ wr.cell? ⟨g', o' + q * 4 + 1, none⟩ = some (.int .i64 y.n) ∧ wr.cell? ⟨g', o' + q * 4 + 2, none⟩ = some (.string ⟨y.t.toArray⟩) ∧ wr.cell? ⟨g', o' + q * 4 + 3, none⟩ = some (.slice ay y.l.length cy)) ∧
        ∀ w2, Below wr.heap.size wr w2 → Calls Try.prog 87 #[.agg #[.int .i64 x.k, .int .i64 x.n, .string ⟨x.t.toArray⟩, .slice ax x.l.length cx], .agg #[.int .i64 y.k, .int .i64 y.n, .string ⟨y.t.toArray⟩, .slice ay y.l.length cy]] w2 fun r w' => r = .returned (.int .i64 (cmpV x y)) ∧ Below w2.heap.size w2 w' := by
    intro q wr h1 h2 hB
    have hx : l[q]? = some l[q] := List.getElem?_eq_getElem h1
    have hy : m[q]? = some m[q] := List.getElem?_eq_getElem h2
    obtain ⟨g, o, ax, cx, e, _, hg, c0, c1, c2, c3, hw⟩ := (hl.below hB).get hx
    obtain ⟨g', o', ay, cy, e', _, hg', c0', c1', c2', c3', hw'⟩ := (hm.below hB).get hy
    exact ⟨l[q], m[q], g, o, ax, cx, g', o', ay, cy, hx, hy, e, e', hg, hg', ⟨c0, c1, c2, c3⟩, ⟨c0', c1', c2', c3'⟩, fun w2 hb2 => hok _ (List.getElem_mem h1) _ _ _ w2 (hw.below hb2) (hw'.below hb2)⟩
  have hfirst : ∀ (q : Nat) (wr : World), q < l.length → Below w.heap.size w wr →
      ∃ x g o ax cx, aa = some ⟨g, o, none⟩ ∧ g < wr.heap.size ∧
        (wr.cell? ⟨g, o + q * 4, none⟩ = some (.int .i64 x.k) ∧ wr.cell? ⟨g, o + q * 4 + 1, none⟩ = some (.int .i64 x.n) ∧ wr.cell? ⟨g, o + q * 4 + 2, none⟩ = some (.string ⟨x.t.toArray⟩) ∧ wr.cell? ⟨g, o + q * 4 + 3, none⟩ = some (.slice ax (V.l x).length cx)) := by
    intro q wr h1 hB
    obtain ⟨g, o, ax, cx, e, _, hg, c0, c1, c2, c3, hw⟩ := (hl.below hB).get (List.getElem?_eq_getElem h1)
    exact ⟨l[q], g, o, ax, cx, e, hg, c0, c1, c2, c3⟩
  clear hl hm hok
  go_enter Try.func95, Try.ntmps95
  go_wp2_with fail
  go_loopg [13] l.length (fun g i wr => ∃ q : Nat, q ≤ l.length ∧ q ≤ m.length ∧ g = l.length - q ∧ i = .int .i64 q ∧ Hid (cmpVs l m = cmpVs (l.drop q) (m.drop q)) ∧ Below w.heap.size w wr)
  case atStart => exact ⟨0, Nat.zero_le _, Nat.zero_le _, rfl, rfl, rfl, Below.refl _ _⟩
  case round =>
    obtain ⟨q, hq, hq2, rfl, rfl, HC, hB⟩ := hrel
    by_cases hlt : q < l.length
    · have hltI : (q : Int) < (l.length : Int) := by omega
      by_cases hlt2 : q < m.length
      · obtain ⟨x, y, g, o, ax, cx, g', o', ay, cy, hx, hy, rfl, rfl, hg, hg', ⟨c0, c1, c2, c3⟩, ⟨c0', c1', c2', c3'⟩, hcall⟩ := hround q wr hlt hlt2 hB
        clear hround hfirst
        have hltI2 : ¬ (m.length : Int) ≤ (q : Int) := by omega
        have hltI3 : (q : Int) < (m.length : Int) := by omega
        have hD : Hid (cmpVs (l.drop q) (m.drop q) = lx2 (cmpV x y) (cmpVs (l.drop (q + 1)) (m.drop (q + 1)))) := cmpVs_drop hx hy
        clear hx hy
        have hba : Below wr.heap.size wr ((wr.alloc (.cells #[.int .i64 x.k, .int .i64 x.n, .string ⟨x.t.toArray⟩, .slice ax x.l.length cx] 29)).alloc (.cells #[.int .i64 y.k, .int .i64 y.n, .string ⟨y.t.toArray⟩, .slice ay y.l.length cy] 29)) := ((Below.refl _ _).alloc (Nat.le_refl _) _).alloc (by simp) _
        go_wp2_with fail
        refine (hcall _ hba).mono ?_
        rintro e w3 ⟨rfl, hb3⟩
        clear hcall
        have hB3 : Below w.heap.size w w3 := hB.trans ((hba.trans (hb3.mono hba.size)).mono hB.size)
        by_cases hz : cmpV x y = 0
        · have hD2 : Hid (cmpVs l m = cmpVs (l.drop (q + 1)) (m.drop (q + 1))) := by
            show _ = _
            rw [HC.out, hD.out, lx2_eq hz]
          clear hD
          rw [hz]
          go_wp2_with fail
          go_roundg (l.length - (q + 1))
          case measure => omega
          case rel => exact ⟨q + 1, by omega, by omega, rfl, by go_num, hD2, hB3⟩
        · have hz' : (cmpV x y != 0) = true := by simp [hz]
          have hD2 : Hid (cmpVs l m = cmpV x y) := by
            show _ = _
            rw [HC.out, hD.out, lx2_ne hz]
          clear hD hba
          generalize cmpV x y = z at *
          go_wp2
          go_ret
          exact ⟨ret_int hD2.out.symm, hB3⟩
      · obtain ⟨x, g, o, ax, cx, rfl, hg, c0, c1, c2, c3⟩ := hfirst q wr hlt hB
        clear hround hfirst
        have hltI2 : (m.length : Int) ≤ (q : Int) := by omega
        have hD2 : Hid (cmpVs l m = 1) := by
          show _ = _
          rw [HC.out, cmpVs_end (Or.inr (by omega)) hq hq2, if_neg (by omega), if_pos (by omega)]
        clear HC
        go_wp2
        go_ret
        exact ⟨ret_int hD2.out.symm, hB.trans (((Below.refl _ _).alloc (Nat.le_refl _) _).mono hB.size)⟩
    · have hltI : ¬ (q : Int) < (l.length : Int) := by omega
      clear hround hfirst
      have hD2 : Hid (cmpVs l m = if l.length < m.length then -1 else 0) := by
        show _ = _
        rw [HC.out, cmpVs_end (Or.inl (by omega)) hq hq2]
        split
        · rfl
        · rw [if_neg (by omega)]
      clear HC
      by_cases hlm : l.length < m.length
      · have hlmI : (l.length : Int) < (m.length : Int) := by omega
        go_wp2
        go_ret
        exact ⟨ret_int (by rw [hD2.out, if_pos hlm]), hB⟩
      · have hlmI : ¬ (l.length : Int) < (m.length : Int) := by omega
        go_wp2
        go_ret
        exact ⟨ret_int (by rw [hD2.out, if_neg hlm]), hB⟩
set_option maxRecDepth 100000 in
set_option maxHeartbeats 1000000 in
theorem compare_step {B : Nat → Prop} {a : V} (hs : ∀ x ∈ a.l, CmpOk B x) : CmpOk B a := by
  intro b sa sb w ha hb
  obtain ⟨aa, ca, rfl, a1, a2⟩ := ha.vs.slice
  obtain ⟨ab, cb, rfl, b1, b2⟩ := hb.vs.slice
  obtain ⟨w0, w1, hW, hW1, hs0, hs1, hB, d0, d1, d2, d3, e0, e1, e2, e3⟩ := boxed2 w a (.slice aa a.l.length ca) b (.slice ab b.l.length cb)
  have h1 := cmpi_any a.k b.k w1
  have h2 := cmpi_any a.n b.n w1
  have h3 := scmp_list a.t b.t w1
  have hh : Hid (cmpV a b = lx2 (Lib.compareInt a.k b.k) (lx2 (Lib.compareInt a.n b.n) (lx2 (Lib.compareBytes a.t b.t) (cmpVs a.l b.l)))) := cmpV_eq a b
  generalize Lib.compareInt a.k b.k = z1 at *
  generalize Lib.compareInt a.n b.n = z2 at *
  generalize Lib.compareBytes a.t b.t = z3 at *
  have h4 := cmpFunc_any hs (ha.vs.below hB) (hb.vs.below hB)
  clear ha hb hs
  by_cases n1 : z1 = 0
  · subst n1
    go_enter Try.func87, Try.ntmps87
    go_wp2_with fail
    refine h1.mono ?_
    rintro e w2 ⟨rfl, rfl⟩
    go_wp2_with fail
    refine h2.mono ?_
    rintro e w3 ⟨rfl, rfl⟩
    by_cases n2 : z2 = 0
    · subst n2
      go_wp2_with fail
      refine h3.mono ?_
      rintro e w3 ⟨rfl, rfl⟩
      by_cases n3 : z3 = 0
      · subst n3
        go_wp2_with fail
        refine h4.mono ?_
        rintro e w4 ⟨rfl, hb4⟩
        go_wp2
        go_ret
        exact ⟨ret_int (by rw [hh.out, lx2_eq rfl, lx2_eq rfl, lx2_eq rfl]), hB.trans (hb4.mono hB.size)⟩
      · have n3' : (z3 != 0) = true := by simp [n3]
        go_wp2
        go_ret
        exact ⟨ret_int (by rw [hh.out, lx2_eq rfl, lx2_eq rfl, lx2_ne n3]), hB⟩
    · have n2' : (z2 != 0) = true := by simp [n2]
      go_wp2
      go_ret
      exact ⟨ret_int (by rw [hh.out, lx2_eq rfl, lx2_ne n2]), hB⟩
  · have n1' : (z1 != 0) = true := by simp [n1]
    go_enter Try.func87, Try.ntmps87
    go_wp2_with fail
    refine h1.mono ?_
    rintro e w2 ⟨rfl, rfl⟩
    go_wp2
    go_ret
    exact ⟨ret_int (by rw [hh.out, lx2_ne n1]), hB⟩
theorem cmp_all (B : Nat → Prop) : ∀ (N : Nat) (a : V), wt a < N → CmpOk B a := by
  intro N
  induction N with
  | zero => intro a h; omega
  | succ N ih =>
    intro a h
    refine compare_step fun x hx => ih x ?_
    have := wts_mem hx
    have := wt_eq a
    omega
/-- Compare answers the order. -/
theorem compare_any {B : Nat → Prop} {a b : V} {sa sb : Value} {w : World} (ha : IsW B w a sa) (hb : IsW B w b sb) :
    Calls Try.prog 87 #[.agg #[.int .i64 a.k, .int .i64 a.n, .string ⟨a.t.toArray⟩, sa], .agg #[.int .i64 b.k, .int .i64 b.n, .string ⟨b.t.toArray⟩, sb]] w fun r w' => r = .returned (.int .i64 (cmpV a b)) ∧ Below w.heap.size w w' := cmp_all B _ a (Nat.lt_succ_self _) b sa sb w ha hb
end Go.Proofs.Ytndahpcjkcihlaa
