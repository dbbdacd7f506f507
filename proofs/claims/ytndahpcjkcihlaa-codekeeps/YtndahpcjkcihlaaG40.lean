/- Texts of ours, joined: Ks, Kbw, Jm. -/
import Derived.Test.YtndahpcjkcihlaaG17
import Derived.Deep.QuietTactic
import Derived.Deep.CutRange
import Derived.Test.YtndahpcjkcihlaaG39
import Derived.Test.YtndahpcjkcihlaaG24
import Derived.Test.YtndahpcjkcihlaaG36
import Derived.Test.YtndahpcjkcihlaaG37
import Derived.Test.YtndahpcjkcihlaaG33
/- Two modules that are the same: the document's. -/
namespace Go.Proofs.Ytndahpcjkcihlaa
open Go.RowKit
set_option linter.unusedVariables false
set_option linter.unusedSimpArgs false
attribute [local go_sem ↓] Go.wp_at_zero Go.wp_at_succ

set_option maxRecDepth 100000 in
set_option maxHeartbeats 4000000 in
theorem sameAll_any {B : Nat → Prop} {l : List V} {aa ab : Option Addr} {ca cb : Nat} {w : World} (ha : IsVs B w l (.slice aa l.length ca)) (hb : IsVs B w l (.slice ab l.length cb)) :
    Calls Try.prog 29 #[.slice aa l.length ca, .slice ab l.length cb] w fun e w' => e = .returned (.bool true) ∧ Below w.heap.size w w' := by
  have hll : l.length ≤ 9223372036854775807 := by obtain ⟨_, _, e, h1, h2⟩ := ha.slice; cases e; omega
  have hne : ((l.length : Int) != (l.length : Int)) = false := by simp
  go_enter Try.func29, Try.ntmps29
  go_wp2_with fail
  go_loopg [13] l.length (fun gk i wr => ∃ q : Nat, q ≤ l.length ∧ gk = l.length - q ∧ i = .int .i64 q ∧ Hid (Below w.heap.size w wr))
  case atStart => exact ⟨0, Nat.zero_le _, rfl, rfl, Below.refl _ _⟩
  case round =>
    obtain ⟨q, hq, rfl, rfl, HI⟩ := hrel
    have hBr := HI.out
    clear HI
    by_cases hlt : q < l.length
    · have hltI : (q : Int) < (l.length : Int) := by omega
      have hq0 : (0 : Int) ≤ (q : Int) := by omega
      obtain ⟨x, hx⟩ : ∃ x, l[q]? = some x := ⟨_, List.getElem?_eq_getElem hlt⟩
      obtain ⟨g1, o1, a1, c1, haa, -, hg1, p0, p1, p2, p3, hw1⟩ := (ha.below hBr).get hx
      obtain ⟨g2, o2, a2, c2, hab, -, hg2, r0, r1, r2, r3, hw2⟩ := (hb.below hBr).get hx
      subst haa hab
      have hC : ∀ w2, Below wr.heap.size wr w2 → Calls Try.prog 54 #[.agg #[.int .i64 x.k, .int .i64 x.n, .string ⟨x.t.toArray⟩, .slice a1 x.l.length c1], .agg #[.int .i64 x.k, .int .i64 x.n, .string ⟨x.t.toArray⟩, .slice a2 x.l.length c2]] w2 fun r w' => r = .returned (.bool true) ∧ Below w2.heap.size w2 w' := fun w2 h2 => by
        have := rsame_any (hw1.below h2) (hw2.below h2)
        rw [(cmpV_zero x x).2 rfl] at this
        exact this
      clear hx hw1 hw2
      go_wp2_with fail
      go_region_held3 (fun w' => w'.cell? ⟨g1, o1 + q * 4, none⟩ = some (.int .i64 x.k) ∧ w'.cell? ⟨g1, o1 + q * 4 + 1, none⟩ = some (.int .i64 x.n) ∧ w'.cell? ⟨g1, o1 + q * 4 + 2, none⟩ = some (.string ⟨x.t.toArray⟩) ∧ w'.cell? ⟨g1, o1 + q * 4 + 3, none⟩ = some (.slice a1 x.l.length c1) ∧ w'.cell? ⟨g2, o2 + q * 4, none⟩ = some (.int .i64 x.k) ∧ w'.cell? ⟨g2, o2 + q * 4 + 1, none⟩ = some (.int .i64 x.n) ∧ w'.cell? ⟨g2, o2 + q * 4 + 2, none⟩ = some (.string ⟨x.t.toArray⟩) ∧ w'.cell? ⟨g2, o2 + q * 4 + 3, none⟩ = some (.slice a2 x.l.length c2)) (go_keep)
        ((go_at_call 54; refine (hC _ (Below.refl _ _).drew).mono ?_; rintro e w3 ⟨rfl, hb3⟩; replace hb3 := below_undrew hb3; obtain ⟨f9, -⟩ := bcell hb3))
      clear hC f9 p0 p1 p2 p3 r0 r1 r2 r3
      have hnew : Hid (Below w.heap.size w w3) := hBr.trans (hb3.mono hBr.size)
      clear ha hb hBr hb3
      go_wp2_with fail
      go_roundg (l.length - (q + 1))
      case measure => omega
      case rel => exact ⟨q + 1, by omega, rfl, by go_num, hnew⟩
    · have hltI : ¬ (q : Int) < (l.length : Int) := by omega
      clear ha hb
      go_wp2
      go_ret
      exact ⟨rfl, hBr⟩
/-- A box of five cells. -/
def FBox (w : World) (b : Nat) (f : Fu) (sl : Value) : Prop := w.heap[b]? = some (.cells #[.int .i64 f.params, .int .i64 f.locals, .int .i64 f.zero, .int .i64 f.stack, sl] 44 (0, 0))
theorem fbox_old (w : World) (o1 o2 : Obj) : ((w.alloc o1).alloc o2).drew.heap[w.heap.size]? = some o1 := by
  show ((w.heap.push _).push _)[w.heap.size]? = _
  rw [Array.getElem?_push, if_neg (by simp), Array.getElem?_push, if_pos rfl]
theorem fbox_new (w : World) (o1 o2 : Obj) : ((w.alloc o1).alloc o2).drew.heap[w.heap.size + 1]? = some o2 := by
  show ((w.heap.push _).push _)[w.heap.size + 1]? = _
  rw [Array.getElem?_push, if_pos (by simp)]
theorem below_two {w wr : World} (h : Below w.heap.size w wr) (o1 o2 : Obj) : Below w.heap.size w ((wr.alloc o1).alloc o2).drew :=
  ((h.alloc h.size _).alloc (by have := h.size; simp; omega) _).trans ⟨rfl, rfl, rfl, Nat.le_refl _, fun _ _ => rfl⟩
set_option maxRecDepth 100000 in
set_option maxHeartbeats 8000000 in
theorem same13_any {B : Nat → Prop} {m : Md} {a1 a2 b1 b2 : Option Addr} {c1 c2 d1 d2 : Nat} {w : World} (ha : IsMd B w m (.slice a1 m.consts.length c1) (.slice a2 m.funcs.length c2)) (hb : IsMd B w m (.slice b1 m.consts.length d1) (.slice b2 m.funcs.length d2)) (hlen : ∀ f ∈ m.funcs, f.code.length ≤ 9223372036854775807) :
    Calls Try.prog 15 #[.agg #[.slice a1 m.consts.length c1, .slice a2 m.funcs.length c2], .agg #[.slice b1 m.consts.length d1, .slice b2 m.funcs.length d2]] w fun e w' => e = .returned (.bool true) ∧ Below w.heap.size w w' := by
  obtain ⟨w0, hW0, hb0, hl0, hx0⟩ := box2 w (.slice a1 m.consts.length c1) (.slice a2 m.funcs.length c2) 25
  obtain ⟨w1, hW1, hb1, hl1, hx1⟩ := box2 w0 (.slice b1 m.consts.length d1) (.slice b2 m.funcs.length d2) 25
  have hB1 : Below w.heap.size w w1 := hb0.trans (hb1.mono hb0.size)
  have hlw0 : w.heap.size < w0.heap.size := by omega
  have hlw1 : w0.heap.size < w1.heap.size := by omega
  have hcell : ∀ wr, Below w1.heap.size w1 wr → wr.cell? ⟨w.heap.size, 0, none⟩ = some (.slice a1 m.consts.length c1) ∧ wr.cell? ⟨w.heap.size, 1, none⟩ = some (.slice a2 m.funcs.length c2) ∧ wr.cell? ⟨w0.heap.size, 0, none⟩ = some (.slice b1 m.consts.length d1) ∧ wr.cell? ⟨w0.heap.size, 1, none⟩ = some (.slice b2 m.funcs.length d2) ∧ w.heap.size < wr.heap.size ∧ w0.heap.size < wr.heap.size := fun wr hb => by
    obtain ⟨q0, q1, -, -, q2⟩ := cells_k2 ((hb.block _ (by omega)).trans ((hb1.block _ hlw0).trans hx0))
    obtain ⟨q3, q4, -, -, q5⟩ := cells_k2 ((hb.block _ hlw1).trans hx1)
    exact ⟨q0, q1, q3, q4, q2, q5⟩
  have hBf : ∀ wr, Below w1.heap.size w1 wr → Below w.heap.size w wr := fun wr hb => hB1.trans (hb.mono hB1.size)
  have hS := sameAll_any (ha.con.below hB1) (hb.con.below hB1)
  have hfl : m.funcs.length ≤ 9223372036854775807 := by obtain ⟨_, _, e, h1, h2⟩ := ha.fun_.slice; cases e; omega
  have hne : ((m.funcs.length : Int) != (m.funcs.length : Int)) = false := by simp
  obtain ⟨k0, k1, k2, k3, k4, k5⟩ := hcell w1 (Below.refl _ _)
  clear hl0 hl1 hx0 hx1
  go_enter Try.func15, Try.ntmps15
  go_wp2_with fail
  refine hS.mono ?_
  rintro e w2 ⟨rfl, hb2⟩
  obtain ⟨j0, j1, j2, j3, j4, j5⟩ := hcell w2 hb2
  have hB2H : Hid (Below w1.heap.size w1 w2) := hb2
  clear hS hW0 hW1 k0 k1 k2 k3 hb2
  go_wp2_with fail
  clear j0 j1 j2 j3
  go_loopg [27] m.funcs.length (fun gk i wr => ∃ q : Nat, q ≤ m.funcs.length ∧ gk = m.funcs.length - q ∧ i = .int .i64 q ∧ Hid (Below w1.heap.size w1 wr))
  case atStart => exact ⟨0, Nat.zero_le _, rfl, rfl, hB2H.out⟩
  case round =>
    obtain ⟨q, hq, rfl, rfl, HI⟩ := hrel
    have hBr := HI.out
    clear HI hB2H
    by_cases hlt : q < m.funcs.length
    rotate_left
    · have hltI : ¬ (q : Int) < (m.funcs.length : Int) := by omega
      have hpost := hBf wr hBr
      clear ha hb hcell hBf hBr hlen
      go_wp2
      go_ret
      exact ⟨rfl, hpost⟩
    have hltI : (q : Int) < (m.funcs.length : Int) := by omega
    have hq0 : (0 : Int) ≤ (q : Int) := by omega
    obtain ⟨f, hf⟩ : ∃ f, m.funcs[q]? = some f := ⟨_, List.getElem?_eq_getElem hlt⟩
    obtain ⟨g1, o1, s1, t1, e1, -, hg1, p0, p1, p2, p3, p4, hf1⟩ := (ha.fun_.since (Since.of_below (hBf wr hBr))).get hf
    obtain ⟨g2, o2, s2, t2, e2, -, hg2, r0, r1, r2, r3, r4, hf2⟩ := (hb.fun_.since (Since.of_below (hBf wr hBr))).get hf
    subst e1 e2
    obtain ⟨k0, k1, k2, k3, k4, k5⟩ := hcell wr hBr
    have hcl := hlen f (List.mem_of_getElem? hf)
    have hBrH : Hid (Below w1.heap.size w1 wr) := hBr
    have hne2 : ((f.code.length : Int) != (f.code.length : Int)) = false := by simp
    have n0 : (f.params != f.params) = false := by simp
    have n1 : (f.locals != f.locals) = false := by simp
    have n2 : (f.zero != f.zero) = false := by simp
    have n3 : (f.stack != f.stack) = false := by simp
    clear hf ha hb hlen
    go_upto_region 6 with fail
    go_cut [6, 7, 27] from 27 to 93 (fun s6 s7 i wc => i = .int .i64 q ∧ ∃ b6 b7, s6 = .pointer (some ⟨b6, 0, none⟩) ∧ s7 = .pointer (some ⟨b7, 0, none⟩) ∧ FBox wc b6 f (.slice s1 f.code.length t1) ∧ FBox wc b7 f (.slice s2 f.code.length t2) ∧ Below wr.heap.size wr wc)
    case first =>
      go_region
      all_goals (go_wp2_with fail; go_meet)
      all_goals first
        | exact ⟨rfl, _, _, rfl, rfl, fbox_old _ _ _, fbox_new _ _ _, below_two (Below.refl _ _) _ _⟩
        | exact ⟨rfl, _, _, rfl, rfl, fbox_new _ _ _, fbox_old _ _ _, below_two (Below.refl _ _) _ _⟩
    case rest =>
      obtain ⟨rfl, b6, b7, rfl, rfl, hx6, hx7, hbc⟩ := hcut
      obtain ⟨ux0, ux1, ux2, ux3, ux4, -, -, -, -, -, lu⟩ := cells_k5 hx6
      obtain ⟨vx0, vx1, vx2, vx3, vx4, -, -, -, -, -, lv⟩ := cells_k5 hx7
      have hf1c := hf1.below hbc
      have hf2c := hf2.below hbc
      have hBcH : Hid (Below w1.heap.size w1 wc) := hBrH.out.trans (hbc.mono hBrH.out.size)
      clear hf1 hf2 hbc hBrH hBr k0 k1 k2 k3 p0 p1 p2 p3 p4 r0 r1 r2 r3 r4
      go_wp2_with fail
      clear ux0 ux1 ux2 ux3 vx0 vx1 vx2 vx3 n0 n1 n2 n3 hne2
      go_loopg [78] f.code.length (fun gk i wr' => ∃ j : Nat, j ≤ f.code.length ∧ gk = f.code.length - j ∧ i = .int .i64 j ∧ Hid (Below wc.heap.size wc wr'))
      case atStart => exact ⟨0, Nat.zero_le _, rfl, rfl, Below.refl _ _⟩
      case round =>
        obtain ⟨j, hj, rfl, rfl, HI⟩ := hrel
        have hBj := HI.out
        clear HI
        by_cases hjlt : j < f.code.length
        · have hjI : (j : Int) < (f.code.length : Int) := by omega
          have hj0 : (0 : Int) ≤ (j : Int) := by omega
          obtain ⟨i, hi⟩ : ∃ i, f.code[j]? = some i := ⟨_, List.getElem?_eq_getElem hjlt⟩
          obtain ⟨gc, oc, h1, -, hgc, ci0, ci1, -, -⟩ := (hf1c.below hBj).code.get hi
          obtain ⟨gd, od, h2, -, hgd, di0, di1, -, -⟩ := (hf2c.below hBj).code.get hi
          subst h1 h2
          obtain ⟨-, -, -, -, ux4', -, -, -, -, -, lu'⟩ := cells_k5 ((hBj.block _ lu).trans hx6)
          obtain ⟨-, -, -, -, vx4', -, -, -, -, -, lv'⟩ := cells_k5 ((hBj.block _ lv).trans hx7)
          clear hi hf1c hf2c ux4 vx4
          go_wp2_with fail
          go_quiet (fail)
          have hnew : Hid (Below wc.heap.size wc (wr.drewN nq)) := hBj.trans ⟨rfl, rfl, rfl, Nat.le_refl _, fun _ _ => rfl⟩
          clear hcell hBf hBj hBcH ci0 ci1 di0 di1 ux4' vx4'
          go_wp2_with fail
          go_roundg (f.code.length - (j + 1))
          case measure => omega
          case rel => exact ⟨j + 1, by omega, rfl, by go_num, hnew⟩
        · have hjI : ¬ (j : Int) < (f.code.length : Int) := by omega
          have hnew : Hid (Below w1.heap.size w1 wr) := hBcH.out.trans (hBj.mono hBcH.out.size)
          clear hcell hBf hBj hBcH hf1c hf2c hx6 hx7 ux4 vx4
          go_wp2_with fail
          go_roundg (m.funcs.length - (q + 1))
          case measure => omega
          case rel => exact ⟨q + 1, by omega, rfl, by go_num, hnew⟩
end Go.Proofs.Ytndahpcjkcihlaa
/- Encode and Decode of anything: the statement's. -/
namespace Go.Proofs.Ytndahpcjkcihlaa
open Go.RowKit
set_option linter.unusedVariables false
set_option linter.unusedSimpArgs false
attribute [local go_sem ↓] Go.wp_at_zero Go.wp_at_succ

def EncOk : Prop := ∀ (B : Nat → Prop) (m : Md) (ac af : Option Addr) (cc cf : Nat) (w : World) (states : Int), IsMd B w m (.slice ac m.consts.length cc) (.slice af m.funcs.length cf) → Fit m → csz m.consts ≤ 10000 → fsz m.funcs ≤ 10000 → InR states → Calls Try.prog 13 #[.agg #[.slice ac m.consts.length cc, .slice af m.funcs.length cf], .int .i64 states] w fun e w' => OutE w (encE m states) e w'
def DecOk : Prop := ∀ (B : Nat → Prop) (ab : Option Addr) (cb : Nat) (b : List UInt8) (w : World) (states : Int), IsB B w (.slice ab b.length cb) b → b.length ≤ 900000 → InR states → Calls Try.prog 14 #[.slice ab b.length cb, .int .i64 states] w fun e w' => OutD w (decR b states) e w'
theorem OutD.md {w : World} {x : Md × Int} {e : Ending} {w' : World} (h : OutD w x e w') : (∃ a c fa fc, e = .returned (.tuple #[.agg #[.slice a x.1.consts.length c, .slice fa x.1.funcs.length fc], .int .i64 x.2]) ∧ IsMd (From w.heap.size) w' x.1 (.slice a x.1.consts.length c) (.slice fa x.1.funcs.length fc)) ∧ Below w.heap.size w w' := by
  obtain ⟨⟨a, c, fa, fc, n1, he, h1, h2, h3, h4⟩, hb⟩ := h
  exact ⟨⟨a, c, fa, fc, he, h1.vs.base (fun k hk _ => hk.1), h2.fus.base (fun k hk _ => by show w.heap.size ≤ k; have : n1 ≤ k := hk; omega)⟩, hb⟩
theorem decR_len {b : List UInt8} {states : Int} (hl : b.length ≤ 900000) : ∀ f ∈ (decR b states).1.funcs, f.code.length ≤ 9223372036854775807 := by
  unfold decR
  split
  · intro f hf; simp [Md.no] at hf
  · rename_i h1
    split
    · intro f hf; simp [Md.no] at hf
    · split
      · intro f hf; simp [Md.no] at hf
      · intro f hf
        have h2 := rdM_sz (b := b) (r := []) (Classical.byContradiction h1)
        have h3 := fsz_mem hf
        show f.code.length ≤ _
        have h4 : fsz ((rdM b).1, (0 : Int)).1.funcs = fsz (rdM b).1.funcs := rfl
        omega
end Go.Proofs.Ytndahpcjkcihlaa
/- Encode: the program's. -/
namespace Go.Proofs.Ytndahpcjkcihlaa
open Go.RowKit
set_option linter.unusedVariables false
set_option linter.unusedSimpArgs false
attribute [local go_sem ↓] Go.wp_at_zero Go.wp_at_succ

theorem box1 (w : World) (x0 : Value) (T : TypeId) : ∃ w0, w.alloc (.cells #[x0] T) = w0 ∧ Below w.heap.size w w0 ∧ w0.heap.size = w.heap.size + 1 ∧ w0.heap[w.heap.size]? = some (.cells #[x0] T (0, 0)) :=
  ⟨_, rfl, (Below.refl _ _).alloc (Nat.le_refl _) _, by simp, heap_new _ _⟩
theorem intsAt1 {w : World} {g : Nat} {x : Int} (h : w.heap[g]? = some (.cells #[iV x] 3 (0, 0))) : IntsAt w g [x] := by
  refine ⟨(Array.getElem?_eq_some_iff.1 h).1, fun q z hq => ?_⟩
  have : q = 0 := by have := (List.getElem?_eq_some_iff.1 hq).1; simp at this; omega
  subst this
  simp at hq
  subst hq
  simp [World.cell?, h]
theorem intsAt2 {w : World} {g : Nat} {x y : Int} (h : w.heap[g]? = some (.cells #[iV x, iV y] 3 (0, 0))) : IntsAt w g [x, y] := by
  refine ⟨(Array.getElem?_eq_some_iff.1 h).1, fun q z hq => ?_⟩
  have : q = 0 ∨ q = 1 := by have := (List.getElem?_eq_some_iff.1 hq).1; simp at this; omega
  rcases this with rfl | rfl
  · simp at hq
    subst hq
    simp [World.cell?, h]
  · simp at hq
    subst hq
    simp [World.cell?, h]
/-- A constant's bytes under its own type. -/
theorem encR_const {v : V} (h : ctype v ≠ []) : encR (ctype v) v = (enc v, 0) := by
  have hk := ctype_k v
  by_cases hc : tyK v.k ≠ [] ∧ v.l.length = 0 ∧ fitS (tyK v.k) v = true
  · rw [if_pos hc] at hk
    unfold encR
    rw [hk, if_pos hc.2.2]
  · rw [if_neg hc] at hk
    exact absurd hk h
theorem ctype_len (v : V) : (ctype v).length ≤ 9 := by
  rw [ctype_k]
  split
  · exact tyK_len _
  · simp
theorem OwnN.isB {w : World} {base : Nat} {a : Option Addr} {N c : Nat} {bs : List UInt8} (h : OwnN w base a N c bs) : IsB (From base) w (.slice a N c) bs := by
  obtain ⟨rfl, ho⟩ := h
  exact owns_b ho
/-- Put's answer, as a row of one's own. -/
theorem put_own {g cx : Nat} {xs : List Int} {w : World} (hxs : IntsAt w g xs) (hr : ∀ x ∈ xs, InR x) (hm : xs.length ≤ 50000) : Calls Try.prog 24 #[.slice none 0 0, .slice (some ⟨g, 0, none⟩) xs.length cx] w fun r w' => OutN w (nums xs) r w' := by
  refine (put_many hxs hr hm).mono fun e w' hP => ?_
  obtain ⟨⟨a, c, h1, h2⟩, h3⟩ := hP
  exact ⟨⟨a, _, c, h1, rfl, h2⟩, h3⟩
end Go.Proofs.Ytndahpcjkcihlaa
