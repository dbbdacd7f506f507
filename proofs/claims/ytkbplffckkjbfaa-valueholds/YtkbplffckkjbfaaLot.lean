/- others: the statement's. -/
import Derived.Test.YtkbplffckkjbfaaMh
import Derived.Test.YtkbplffckkjbfaaLor
import Derived.Test.YtkbplffckkjbfaaVat
import Derived.Test.YtkbplffckkjbfaaRcp
import Derived.Deep.QuietTactic
namespace Go.Proofs.Ytkbplffckkjbfaa
open Go.RowKit
set_option linter.unusedVariables false
set_option linter.unusedSimpArgs false
attribute [local go_sem ↓] Go.wp_at_zero Go.wp_at_succ

theorem wpE_name {P : Program} {md : Region.Mode} {ops : Array Oper} {Q : Exit → Act → World → Prop} {S : World → Prop} {N : Nat → Bool} {f : Nat} {l0 : Array Bool} {a0 : Act} {w : World} (h : ∀ a l, a = a0 → l = l0 → wpE P md ops Q S N f l a w) : wpE P md ops Q S N f l0 a0 w := h a0 l0 rfl rfl
theorem alloc_z (w : World) : ∃ w1, w.alloc (.cells #[.int .i64 0, .int .i64 0, .string ⟨#[]⟩, .slice none 0 0] 24) = w1 ∧ Below w.heap.size w w1 ∧ w1.heap.size = w.heap.size + 1 ∧ w1.heap[w.heap.size]? = some (.cells #[.int .i64 0, .int .i64 0, .string ⟨#[]⟩, .slice none 0 0] 24 (0, 0)) := ⟨_, rfl, (Below.refl _ _).alloc (Nat.le_refl _) _, by simp, heap_new _ _⟩
/-- A value that is put into a new box. -/
theorem rbox_set (w : World) (x0 x1 x2 x3 : Value) : ∃ wz w4, w.alloc (.cells #[.int .i64 0, .int .i64 0, .string ⟨#[]⟩, .slice none 0 0] 24) = wz ∧ set4 wz w.heap.size x0 x1 x2 x3 = w4 ∧ Below w.heap.size w w4 ∧ w4.heap.size = w.heap.size + 1 ∧ wz.heap.size = w.heap.size + 1 ∧ w4.heap[w.heap.size]? = some (.cells #[x0, x1, x2, x3] 24 (0, 0)) ∧
    (wz.cell? ⟨w.heap.size, 0, none⟩ = some (.int .i64 0) ∧ wz.cell? ⟨w.heap.size, 1, none⟩ = some (.int .i64 0) ∧ wz.cell? ⟨w.heap.size, 2, none⟩ = some (.string ⟨#[]⟩) ∧ wz.cell? ⟨w.heap.size, 3, none⟩ = some (.slice none 0 0)) ∧ (wz.frozen? ⟨w.heap.size, 0, none⟩ = false ∧ wz.frozen? ⟨w.heap.size, 1, none⟩ = false ∧ wz.frozen? ⟨w.heap.size, 2, none⟩ = false ∧ wz.frozen? ⟨w.heap.size, 3, none⟩ = false) := by
  obtain ⟨wz, hWz, hbz, hszz, hrz⟩ := rbox w
  obtain ⟨y0, y1, y2, y3, z0, z1, z2, z3, hzz⟩ := hrz wz (Below.refl _ _)
  exact ⟨wz, _, hWz, rfl, below_set4 hbz (Nat.le_refl _) _ _ _ _, by rw [set4_size]; omega, hszz, set4_blk (rbox_blk hWz (Below.refl _ _)) _ _ _ _, ⟨y0, y1, y2, y3⟩, ⟨z0, z1, z2, z3⟩⟩
theorem fitS_of {t : List UInt8} {T : Ty} {y : V} (hT : tyOf t = some T) (h1 : Shp T y) (h2 : wt y ≤ 16384) : fitS t y = true := by
  unfold fitS shpS
  rw [hT]
  simp [h2, shpB_iff.2 h1]
set_option maxRecDepth 100000 in
set_option maxHeartbeats 8000000 in
theorem others_any {B : Nat → Prop} {a b k : V} {aa ab ak : Option Addr} {ca cb ck : Nat} {w : World} (ha : IsW B w a (.slice aa a.l.length ca)) (hb : IsW B w b (.slice ab b.l.length cb)) (hk : IsW B w k (.slice ak k.l.length ck)) (hla : a.l.length ≤ 1000000) (hwb : wt b ≤ 400000) (htb : Tidy b)
    (hH : ∀ i x y, a.l[2 * i]? = some x → a.l[2 * i + 1]? = some y → x ≠ k → atV b x = (y, 0)) :
    Calls Try.prog 45 #[.agg #[.int .i64 a.k, .int .i64 a.n, .string ⟨a.t.toArray⟩, .slice aa a.l.length ca], .agg #[.int .i64 b.k, .int .i64 b.n, .string ⟨b.t.toArray⟩, .slice ab b.l.length cb], .agg #[.int .i64 k.k, .int .i64 k.n, .string ⟨k.t.toArray⟩, .slice ak k.l.length ck]] w fun r w' => r = .returned (.bool true) ∧ Below w.heap.size w w' := by
  obtain ⟨w0, w1, W, hW, hW1, hW2, hs0, hs1, hs2, hBW, hcell⟩ := boxed3 w a (.slice aa a.l.length ca) b (.slice ab b.l.length cb) k (.slice ak k.l.length ck)
  have hround : ∀ (q : Nat) (wr : World), q < a.l.length → Below W.heap.size W wr →
      ∃ x g o ax cx, a.l[q]? = some x ∧ aa = some ⟨g, o, none⟩ ∧ g < w.heap.size ∧
        (wr.cell? ⟨g, o + q * 4, none⟩ = some (.int .i64 x.k) ∧ wr.cell? ⟨g, o + q * 4 + 1, none⟩ = some (.int .i64 x.n) ∧ wr.cell? ⟨g, o + q * 4 + 2, none⟩ = some (.string ⟨x.t.toArray⟩) ∧ wr.cell? ⟨g, o + q * 4 + 3, none⟩ = some (.slice ax x.l.length cx)) ∧ IsW B wr x (.slice ax x.l.length cx) := by
    intro q wr h1 hBr
    have hx : a.l[q]? = some a.l[q] := List.getElem?_eq_getElem h1
    have hBw : Below w.heap.size w wr := hBW.trans (hBr.mono hBW.size)
    obtain ⟨g, o, ax, cx, e, _, hg, c0, c1, c2, c3, hw⟩ := ha.vs.get hx
    obtain ⟨f, -⟩ := bcell hBw
    exact ⟨a.l[q], g, o, ax, cx, hx, e, hg, ⟨(f _ _ hg).trans c0, (f _ _ hg).trans c1, (f _ _ hg).trans c2, (f _ _ hg).trans c3⟩, hw.below hBw⟩
  have hH' : Hid (∀ i x y, a.l[2 * i]? = some x → a.l[2 * i + 1]? = some y → x ≠ k → atV b x = (y, 0)) := hH
  have hkW : ∀ wr, Below W.heap.size W wr → IsW B wr k (.slice ak k.l.length ck) := fun wr h => (hk.below hBW).below h
  have hbW : ∀ wr, Below W.heap.size W wr → IsW B wr b (.slice ab b.l.length cb) := fun wr h => (hb.below hBW).below h
  have hBf : ∀ w', Below W.heap.size W w' → Below w.heap.size w w' := fun w' h => hBW.trans (h.mono hBW.size)
  clear ha hb hk hH
  go_enter Try.func45, Try.ntmps45
  go_wp2_with fail
  clear hW hW1 hW2
  go_loopg [7] a.l.length (fun g i wr => ∃ q m : Nat, Hid (m = 2 * q) ∧ m ≤ a.l.length ∧ g = a.l.length - m ∧ i = .int .i64 m ∧ Below W.heap.size W wr)
  case atStart => exact ⟨0, 0, rfl, Nat.zero_le _, rfl, rfl, Below.refl _ _⟩
  case round =>
    obtain ⟨q, m, Hm, hm, rfl, rfl, hBr⟩ := hrel
    obtain ⟨⟨p0, p1, p2, p3⟩, ⟨q0, q1, q2, q3⟩, ⟨k0, k1, k2, k3⟩⟩ := hcell wr hBr
    have hBrs := hBr.size
    by_cases hlt : m + 1 < a.l.length
    · obtain ⟨x, g, o, ax, cx, hx, rfl, hg, ⟨c0, c1, c2, c3⟩, hwx⟩ := hround m wr (by omega) hBr
      have hltI : (m : Int) + 1 < (a.l.length : Int) := by omega
      have hltI2 : (m : Int) < (a.l.length : Int) := by omega
      have hm0 : (0 : Int) ≤ (m : Int) := by omega
      have hgr : g < wr.heap.size := by omega
      have hgb : w.heap.size < wr.heap.size := by omega
      have hgb' : w.heap.size + 2 < wr.heap.size := by omega
      have hxx : Hid (a.l[m]? = some x) := hx
      have Hm2 : Hid (m + 2 = 2 * (q + 1)) := by have := Hm.out; show _ = _; omega
      have hC : ∀ w2, Below wr.heap.size wr w2 → Calls Try.prog 11 #[.agg #[.int .i64 x.k, .int .i64 x.n, .string ⟨x.t.toArray⟩, .slice ax x.l.length cx], .agg #[.int .i64 k.k, .int .i64 k.n, .string ⟨k.t.toArray⟩, .slice ak k.l.length ck]] w2 fun r w' => r = .returned (.bool (cmpV x k == 0)) ∧ Below w2.heap.size w2 w' := fun w2 h2 => rsame_any (hwx.below h2) ((hkW wr hBr).below h2)
      clear hx q0 q1 q2 q3 p0 p1 p2
      go_wp2_with fail
      go_region_held3 (fun w' => w'.cell? ⟨w.heap.size, 3, none⟩ = some (.slice (some ⟨g, o, none⟩) a.l.length ca) ∧ w'.cell? ⟨w.heap.size + 2, 0, none⟩ = some (.int .i64 k.k) ∧ w'.cell? ⟨w.heap.size + 2, 1, none⟩ = some (.int .i64 k.n) ∧ w'.cell? ⟨w.heap.size + 2, 2, none⟩ = some (.string ⟨k.t.toArray⟩) ∧ w'.cell? ⟨w.heap.size + 2, 3, none⟩ = some (.slice ak k.l.length ck) ∧ w'.cell? ⟨g, o + m * 4, none⟩ = some (.int .i64 x.k) ∧ w'.cell? ⟨g, o + m * 4 + 1, none⟩ = some (.int .i64 x.n) ∧ w'.cell? ⟨g, o + m * 4 + 2, none⟩ = some (.string ⟨x.t.toArray⟩) ∧ w'.cell? ⟨g, o + m * 4 + 3, none⟩ = some (.slice ax x.l.length cx)) (go_keep)
        ((go_at_call 11; refine (hC _ (Below.refl _ _).drew).mono ?_; rintro e w3 ⟨rfl, hb3⟩; replace hb3 := below_undrew hb3; obtain ⟨f9, -⟩ := bcell hb3))
      clear hC f9 c0 c1 c2 c3 k0 k1 k2 k3 p3
      have hB3 : Below W.heap.size W w3 := hBr.trans (hb3.mono hBr.size)
      by_cases hz : cmpV x k = 0
      · have hd : (cmpV x k == 0) = true := by simp [hz]
        rw [hd]
        clear hd hround hcell
        go_wp2_with fail
        go_roundg (a.l.length - (m + 2))
        case measure => omega
        case rel => exact ⟨q + 1, m + 2, Hm2, by omega, rfl, by go_num, hB3⟩
      · have hd : (cmpV x k == 0) = false := by simp [hz]
        have hne : x ≠ k := fun e => hz ((cmpV_zero x k).2 e)
        obtain ⟨y, g', o', ay, cy, hy, e, -, ⟨d0, d1, d2, d3⟩, hwy⟩ := hround (m + 1) w3 hlt hB3
        simp only [Option.some.injEq, Addr.mk.injEq] at e
        obtain ⟨rfl, rfl, -⟩ := e
        obtain ⟨x', g', o', ax', cx', hx', e, -, ⟨c0, c1, c2, c3⟩, hwx'⟩ := hround m w3 (by omega) hB3
        simp only [Option.some.injEq, Addr.mk.injEq] at e
        obtain ⟨rfl, rfl, -⟩ := e
        rw [hxx.out] at hx'
        obtain rfl := Option.some.inj hx'
        have hat : Hid (atV b x = (y, 0)) := hH'.out q x y (by rw [← Hm.out]; exact hxx.out) (by rw [← Hm.out]; exact hy) hne
        obtain ⟨⟨p0, p1, p2, p3⟩, ⟨q0, q1, q2, q3⟩, -⟩ := hcell w3 hB3
        have hs3 := hb3.size
        have hg3 : g < w3.heap.size := by omega
        have hSk : ∀ ww, Below w3.heap.size w3 ww → ww.cell? ⟨w.heap.size + 1, 0, none⟩ = some (.int .i64 b.k) ∧ ww.cell? ⟨w.heap.size + 1, 1, none⟩ = some (.int .i64 b.n) ∧ ww.cell? ⟨w.heap.size + 1, 2, none⟩ = some (.string ⟨b.t.toArray⟩) ∧ ww.cell? ⟨w.heap.size + 1, 3, none⟩ = some (.slice ab b.l.length cb) ∧ ww.cell? ⟨w.heap.size, 3, none⟩ = some (.slice (some ⟨g, o, none⟩) a.l.length ca) ∧ ww.cell? ⟨g, o + m * 4, none⟩ = some (.int .i64 x.k) ∧ ww.cell? ⟨g, o + m * 4 + 1, none⟩ = some (.int .i64 x.n) ∧ ww.cell? ⟨g, o + m * 4 + 2, none⟩ = some (.string ⟨x.t.toArray⟩) ∧ ww.cell? ⟨g, o + m * 4 + 3, none⟩ = some (.slice ax' x.l.length cx') := by
          intro ww hb
          obtain ⟨f, -⟩ := bcell hb
          exact ⟨(f _ _ (by omega)).trans q0, (f _ _ (by omega)).trans q1, (f _ _ (by omega)).trans q2, (f _ _ (by omega)).trans q3, (f _ _ (by omega)).trans p3, (f _ _ hg3).trans c0, (f _ _ hg3).trans c1, (f _ _ hg3).trans c2, (f _ _ hg3).trans c3⟩
        have hCat : ∀ w2, Below w3.heap.size w3 w2 → Calls Try.prog 31 #[.agg #[.int .i64 b.k, .int .i64 b.n, .string ⟨b.t.toArray⟩, .slice ab b.l.length cb], .agg #[.int .i64 x.k, .int .i64 x.n, .string ⟨x.t.toArray⟩, .slice ax' x.l.length cx']] w2 fun r w' => OutV w2 (y, 0) r w' := fun w2 h2 => by rw [← hat.out]; exact at_any ((hbW w3 hB3).below h2) (hwx'.below h2) hwb htb
        obtain ⟨n, Hn⟩ : ∃ n : Nat, Hid (m + 1 = n) := ⟨_, rfl⟩
        have hn1 : IntKind.i64.wrap ((m : Int) + 1) = (n : Int) := by have := Hn.out; rw [IntKind.wrap_i64]; omega
        have hn2 : (m : Int) + 1 = (n : Int) := by have := Hn.out; omega
        have hn3 : IntKind.i64.wrap (n : Int) = (n : Int) := by have := Hn.out; rw [IntKind.wrap_i64]; omega
        have hn4 : (n : Int) < (a.l.length : Int) := by have := Hn.out; omega
        have hn5 : (0 : Int) ≤ (n : Int) := by omega
        rw [Hn.out] at d0 d1 d2 d3
        rw [hd]
        clear hd hround hwx hz hne hltI hH'
        go_wp2_with fail
        refine wpE_begin (S := fun w' => w'.cell? ⟨w.heap.size + 1, 0, none⟩ = some (.int .i64 b.k) ∧ w'.cell? ⟨w.heap.size + 1, 1, none⟩ = some (.int .i64 b.n) ∧ w'.cell? ⟨w.heap.size + 1, 2, none⟩ = some (.string ⟨b.t.toArray⟩) ∧ w'.cell? ⟨w.heap.size + 1, 3, none⟩ = some (.slice ab b.l.length cb) ∧ w'.cell? ⟨w.heap.size, 3, none⟩ = some (.slice (some ⟨g, o, none⟩) a.l.length ca) ∧ w'.cell? ⟨g, o + m * 4, none⟩ = some (.int .i64 x.k) ∧ w'.cell? ⟨g, o + m * 4 + 1, none⟩ = some (.int .i64 x.n) ∧ w'.cell? ⟨g, o + m * 4 + 2, none⟩ = some (.string ⟨x.t.toArray⟩) ∧ w'.cell? ⟨g, o + m * 4 + 3, none⟩ = some (.slice ax' x.l.length cx')) (N := fun _ => true) (by kernel_rfl) ?_
        have hS0 : w3.drew.cell? ⟨w.heap.size + 1, 0, none⟩ = some (.int .i64 b.k) ∧ w3.drew.cell? ⟨w.heap.size + 1, 1, none⟩ = some (.int .i64 b.n) ∧ w3.drew.cell? ⟨w.heap.size + 1, 2, none⟩ = some (.string ⟨b.t.toArray⟩) ∧ w3.drew.cell? ⟨w.heap.size + 1, 3, none⟩ = some (.slice ab b.l.length cb) ∧ w3.drew.cell? ⟨w.heap.size, 3, none⟩ = some (.slice (some ⟨g, o, none⟩) a.l.length ca) ∧ w3.drew.cell? ⟨g, o + m * 4, none⟩ = some (.int .i64 x.k) ∧ w3.drew.cell? ⟨g, o + m * 4 + 1, none⟩ = some (.int .i64 x.n) ∧ w3.drew.cell? ⟨g, o + m * 4 + 2, none⟩ = some (.string ⟨x.t.toArray⟩) ∧ w3.drew.cell? ⟨g, o + m * 4 + 3, none⟩ = some (.slice ax' x.l.length cx') := hSk _ (Below.refl _ _).drew
        refine wpE_takeX (some 26) (fun _ => false) (i := 0) (v := .agg #[.int .i64 b.k, .int .i64 b.n, .string ⟨b.t.toArray⟩, .slice ab b.l.length cb]) rfl rfl (by kernel_rfl) (by kernel_rfl) (by kernel_rfl) (by kernel_rfl) (fun j hj => by cases hj) (fun _ _ _ h => h) rfl (fun w' hS => by obtain ⟨g0, g1, g2, g3, g4, g5, g6, g7, g8⟩ := hS; go_simp) (hS0) ?_
        try simp only [Act.put, List.setIfInBounds_toArray, List.set_cons_zero, List.set_cons_succ]
        refine wpE_takeX (some 27) (fun _ => false) (i := 1) (v := .pointer (some ⟨w.heap.size, 3, none⟩)) rfl rfl (by kernel_rfl) (by kernel_rfl) (by kernel_rfl) (by kernel_rfl) (fun j hj => by cases hj) (fun _ _ _ h => h) rfl (fun w' hS => by obtain ⟨g0, g1, g2, g3, g4, g5, g6, g7, g8⟩ := hS; go_simp) (hS0) ?_
        try simp only [Act.put, List.setIfInBounds_toArray, List.set_cons_zero, List.set_cons_succ]
        refine wpE_takeX (some 28) (fun _ => false) (i := 2) (v := .slice (some ⟨g, o, none⟩) a.l.length ca) rfl rfl (by kernel_rfl) (by kernel_rfl) (by kernel_rfl) (by kernel_rfl) (fun j hj => by cases hj) (fun _ _ _ h => h) rfl (fun w' hS => by obtain ⟨g0, g1, g2, g3, g4, g5, g6, g7, g8⟩ := hS; go_simp) (hS0) ?_
        try simp only [Act.put, List.setIfInBounds_toArray, List.set_cons_zero, List.set_cons_succ]
        refine wpE_takeX (some 29) (fun _ => false) (i := 3) (v := .int .i64 m) rfl rfl (by kernel_rfl) (by kernel_rfl) (by kernel_rfl) (by kernel_rfl) (fun j hj => by cases hj) (fun _ _ _ h => h) rfl (fun w' hS => by obtain ⟨g0, g1, g2, g3, g4, g5, g6, g7, g8⟩ := hS; go_simp) (hS0) ?_
        try simp only [Act.put, List.setIfInBounds_toArray, List.set_cons_zero, List.set_cons_succ]
        refine wpE_takeX (some 30) (fun _ => false) (i := 4) (v := .pointer (some ⟨g, o + m * 4, none⟩)) rfl rfl (by kernel_rfl) (by kernel_rfl) (by kernel_rfl) (by kernel_rfl) (fun j hj => by cases hj) (fun _ _ _ h => h) rfl (fun w' hS => by obtain ⟨g0, g1, g2, g3, g4, g5, g6, g7, g8⟩ := hS; go_simp) (hS0) ?_
        try simp only [Act.put, List.setIfInBounds_toArray, List.set_cons_zero, List.set_cons_succ]
        refine wpE_takeX (some 31) (fun _ => false) (i := 5) (v := .agg #[.int .i64 x.k, .int .i64 x.n, .string ⟨x.t.toArray⟩, .slice ax' x.l.length cx']) rfl rfl (by kernel_rfl) (by kernel_rfl) (by kernel_rfl) (by kernel_rfl) (fun j hj => by cases hj) (fun _ _ _ h => h) rfl (fun w' hS => by obtain ⟨g0, g1, g2, g3, g4, g5, g6, g7, g8⟩ := hS; go_simp) (hS0) ?_
        try simp only [Act.put, List.setIfInBounds_toArray, List.set_cons_zero, List.set_cons_succ]
        refine wpE_name ?_
        intro ac l hac hl
        suffices key : ∀ (wq : World) (gg : Nat) (a6 : Option Addr) (c6 : Nat), Below w3.heap.size w3 wq → w3.heap.size ≤ gg → wq.heap[gg]? = some (.cells #[.int .i64 0, .int .i64 0, .string ⟨#[]⟩, .slice none 0 0] 24 (0, 0)) → IsW (fun j => j ≠ gg) wq y (.slice a6 y.l.length c6) → wpE Try.prog .any _ _ _ _ 2 #[true, true, true, true, true, true, true, true, true, true, true, false, false] (((((ac.put (some 32) (.tuple #[.agg #[.int .i64 y.k, .int .i64 y.n, .string ⟨y.t.toArray⟩, .slice a6 y.l.length c6], .int .i64 0])).put (some 25) (.tuple #[.agg #[.int .i64 y.k, .int .i64 y.n, .string ⟨y.t.toArray⟩, .slice a6 y.l.length c6], .int .i64 0])).put (some 33) (.agg #[.int .i64 y.k, .int .i64 y.n, .string ⟨y.t.toArray⟩, .slice a6 y.l.length c6])).put (some 34) (.int .i64 0)).put (some 8) (.pointer (some ⟨gg, 0, none⟩))) wq by
          rw [hac, hl]
          refine wpE_two (i := 6) (j := 10) (by kernel_rfl) rfl rfl rfl rfl (fun K hK => ?_) (fun K hK => ?_)
          · go_simp
            refine (hCat _ (Below.refl _ _).drew).mono ?_
            rintro e w6 ⟨⟨a6, c6, rfl, hy6⟩, hb6⟩
            replace hb6 : Below w3.heap.size w3 w6 := below_undrew hb6
            replace hy6 : IsW (From w3.heap.size) w6 y (.slice a6 y.l.length c6) := hy6
            refine hK _ _ (fun _ => hSk _ hb6) ?_
            clear hK K
            try simp only [Act.put, List.setIfInBounds_toArray, List.set_cons_zero, List.set_cons_succ]
            refine wpE_takeX (some 25) (fun _ => false) (i := 7) (v := .tuple #[.agg #[.int .i64 y.k, .int .i64 y.n, .string ⟨y.t.toArray⟩, .slice a6 y.l.length c6], .int .i64 0]) rfl rfl (by kernel_rfl) (by kernel_rfl) (by kernel_rfl) (by kernel_rfl) (fun j hj => by cases hj) (fun _ _ _ h => h) rfl (fun w' hS => by obtain ⟨g0, g1, g2, g3, g4, g5, g6, g7, g8⟩ := hS; go_simp) (hSk _ hb6) ?_
            try simp only [Act.put, List.setIfInBounds_toArray, List.set_cons_zero, List.set_cons_succ]
            refine wpE_takeX (some 33) (fun _ => false) (i := 8) (v := .agg #[.int .i64 y.k, .int .i64 y.n, .string ⟨y.t.toArray⟩, .slice a6 y.l.length c6]) rfl rfl (by kernel_rfl) (by kernel_rfl) (by kernel_rfl) (by kernel_rfl) (fun j hj => by cases hj) (fun _ _ _ h => h) rfl (fun w' hS => by obtain ⟨g0, g1, g2, g3, g4, g5, g6, g7, g8⟩ := hS; go_simp) (hSk _ hb6) ?_
            try simp only [Act.put, List.setIfInBounds_toArray, List.set_cons_zero, List.set_cons_succ]
            refine wpE_takeX (some 34) (fun _ => false) (i := 9) (v := .int .i64 0) rfl rfl (by kernel_rfl) (by kernel_rfl) (by kernel_rfl) (by kernel_rfl) (fun j hj => by cases hj) (fun _ _ _ h => h) rfl (fun w' hS => by obtain ⟨g0, g1, g2, g3, g4, g5, g6, g7, g8⟩ := hS; go_simp) (hSk _ hb6) ?_
            try simp only [Act.put, List.setIfInBounds_toArray, List.set_cons_zero, List.set_cons_succ]
            obtain ⟨w7, hW7, hb67, hs7, hblk7⟩ := alloc_z w6
            have hs6 := hb6.size
            have hb37 : Below w3.heap.size w3 w7 := hb6.trans (hb67.mono hs6)
            refine wpE_one (i := 10) (by kernel_rfl) rfl rfl (fun K hK => ?_)
            go_simp
            refine hK _ _ (fun _ => hSk _ hb37) ?_
            clear hK K
            try simp only [Act.put, List.setIfInBounds_toArray, List.set_cons_zero, List.set_cons_succ]
            have h := key w7 w6.heap.size a6 c6 hb37 hs6 hblk7 ((hy6.base (B' := fun j => j ≠ w6.heap.size) (fun j _ h2 => by show j ≠ w6.heap.size; omega)).below hb67)
            rw [hac] at h
            simp only [Act.put, List.setIfInBounds_toArray, List.set_cons_zero, List.set_cons_succ] at h
            refine wpE_name ?_
            intro a2 l2 ha2 hl2
            have hl3 : l2 = #[true, true, true, true, true, true, true, true, true, true, true, false, false] := by rw [hl2]; kernel_rfl
            rw [hl3, ha2]
            exact h
          · go_simp
            obtain ⟨wz, hWz, hbz, hsz, hblkz⟩ := alloc_z w3
            have hb67 : Below w3.heap.size w3 wz.drew := hbz.trans ((below_drewN wz 1).mono hbz.size)
            have hblk7 : wz.drew.heap[w3.heap.size]? = some (.cells #[.int .i64 0, .int .i64 0, .string ⟨#[]⟩, .slice none 0 0] 24 (0, 0)) := hblkz
            have hs7 : wz.drew.heap.size = w3.heap.size + 1 := hsz
            try rw [hWz]
            refine hK _ _ (fun _ => hSk _ hb67) ?_
            clear hK K
            try simp only [Act.put, List.setIfInBounds_toArray, List.set_cons_zero, List.set_cons_succ]
            refine wpE_one (i := 6) (by kernel_rfl) rfl rfl (fun K hK => ?_)
            go_simp
            refine (hCat _ hb67).mono ?_
            rintro e w6 ⟨⟨a6, c6, rfl, hy6⟩, hb6⟩
            have hb36 : Below w3.heap.size w3 w6 := hb67.trans (hb6.mono hb67.size)
            refine hK _ _ (fun _ => hSk _ hb36) ?_
            clear hK K
            try simp only [Act.put, List.setIfInBounds_toArray, List.set_cons_zero, List.set_cons_succ]
            refine wpE_takeX (some 25) (fun _ => false) (i := 7) (v := .tuple #[.agg #[.int .i64 y.k, .int .i64 y.n, .string ⟨y.t.toArray⟩, .slice a6 y.l.length c6], .int .i64 0]) rfl rfl (by kernel_rfl) (by kernel_rfl) (by kernel_rfl) (by kernel_rfl) (fun j hj => by cases hj) (fun _ _ _ h => h) rfl (fun w' hS => by obtain ⟨g0, g1, g2, g3, g4, g5, g6, g7, g8⟩ := hS; go_simp) (hSk _ hb36) ?_
            try simp only [Act.put, List.setIfInBounds_toArray, List.set_cons_zero, List.set_cons_succ]
            refine wpE_takeX (some 33) (fun _ => false) (i := 8) (v := .agg #[.int .i64 y.k, .int .i64 y.n, .string ⟨y.t.toArray⟩, .slice a6 y.l.length c6]) rfl rfl (by kernel_rfl) (by kernel_rfl) (by kernel_rfl) (by kernel_rfl) (fun j hj => by cases hj) (fun _ _ _ h => h) rfl (fun w' hS => by obtain ⟨g0, g1, g2, g3, g4, g5, g6, g7, g8⟩ := hS; go_simp) (hSk _ hb36) ?_
            try simp only [Act.put, List.setIfInBounds_toArray, List.set_cons_zero, List.set_cons_succ]
            refine wpE_takeX (some 34) (fun _ => false) (i := 9) (v := .int .i64 0) rfl rfl (by kernel_rfl) (by kernel_rfl) (by kernel_rfl) (by kernel_rfl) (fun j hj => by cases hj) (fun _ _ _ h => h) rfl (fun w' hS => by obtain ⟨g0, g1, g2, g3, g4, g5, g6, g7, g8⟩ := hS; go_simp) (hSk _ hb36) ?_
            try simp only [Act.put, List.setIfInBounds_toArray, List.set_cons_zero, List.set_cons_succ]
            have h := key w6 w3.heap.size a6 c6 hb36 (Nat.le_refl _) ((hb6.block _ (by omega)).trans hblk7) (hy6.base (B' := fun j => j ≠ w3.heap.size) (fun j hj h2 => by show j ≠ w3.heap.size; have : wz.drew.heap.size ≤ j := hj; omega))
            rw [hac] at h
            simp only [Act.put, List.setIfInBounds_toArray, List.set_cons_zero, List.set_cons_succ] at h
            refine wpE_name ?_
            intro a2 l2 ha2 hl2
            have hl3 : l2 = #[true, true, true, true, true, true, true, true, true, true, true, false, false] := by rw [hl2]; kernel_rfl
            rw [hl3, ha2]
            exact h
        intro wq gg a6 c6 hbq hgg hblkg hyq
        rw [hac]
        simp only [Act.put, List.setIfInBounds_toArray, List.set_cons_zero, List.set_cons_succ]
        clear hac hl ac l hCat hS0
        have hggq : gg < wq.heap.size := (Array.getElem?_eq_some_iff.1 hblkg).1
        obtain ⟨s0', s1', s2', s3', t0', t1', t2', t3'⟩ := cells_of4 hblkg
        obtain ⟨w9, hW9⟩ : ∃ w9, set4 wq gg (.int .i64 y.k) (.int .i64 y.n) (.string ⟨y.t.toArray⟩) (.slice a6 y.l.length c6) = w9 := ⟨_, rfl⟩
        have hb39 : Below w3.heap.size w3 w9 := by rw [← hW9]; exact below_set4 hbq hgg _ _ _ _
        have hblk9 : w9.heap[gg]? = some (.cells #[.int .i64 y.k, .int .i64 y.n, .string ⟨y.t.toArray⟩, .slice a6 y.l.length c6] 24) := by rw [← hW9]; exact set4_blk hblkg _ _ _ _
        have hy9 : IsW (fun j => j ≠ gg) w9 y (.slice a6 y.l.length c6) := by rw [← hW9]; exact hyq.since (since_set4 (by simp) _ _ _ _)
        refine wpE_one (i := 11) (by kernel_rfl) rfl rfl (fun K hK => ?_)
        go_simp
        refine hK _ _ (fun _ => by first | exact hSk _ hb39 | (simp only [set4] at hW9; rw [hW9]; exact hSk _ hb39)) ?_
        clear hK K
        try simp only [Act.put, List.setIfInBounds_toArray, List.set_cons_zero, List.set_cons_succ]
        simp only [set4] at hW9
        try rw [hW9]
        refine wpE_one (i := 12) (by kernel_rfl) rfl rfl (fun K hK => ?_)
        go_simp
        refine hK _ _ (fun _ => hSk _ hb39) ?_
        clear hK K
        try simp only [Act.put, List.setIfInBounds_toArray, List.set_cons_zero, List.set_cons_succ]
        refine wpE_done (by kernel_rfl) ?_
        clear s0' s1' s2' s3' t0' t1' t2' t3' hW9 hblkg hyq
        have hB9 : Below W.heap.size W w9 := hB3.trans (hb39.mono hB3.size)
        obtain ⟨i0, i1, i2, i3, -⟩ := cells_of4 hblk9
        obtain ⟨⟨-, -, -, l3⟩, -, -⟩ := hcell w9 hB9
        obtain ⟨f9, -⟩ := bcell hb39
        have e0 := (f9 _ (o + n * 4) hg3).trans d0
        have e1 := (f9 _ (o + n * 4 + 1) hg3).trans d1
        have e2 := (f9 _ (o + n * 4 + 2) hg3).trans d2
        have e3 := (f9 _ (o + n * 4 + 3) hg3).trans d3
        have hs9 := hb39.size
        have hg9 : g < w9.heap.size := by omega
        have hgg9 : gg < w9.heap.size := (Array.getElem?_eq_some_iff.1 hblk9).1
        have hwb9 : w.heap.size < w9.heap.size := by omega
        have hC : ∀ w2, Below w9.heap.size w9 w2 → Calls Try.prog 11 #[.agg #[.int .i64 y.k, .int .i64 y.n, .string ⟨y.t.toArray⟩, .slice a6 y.l.length c6], .agg #[.int .i64 y.k, .int .i64 y.n, .string ⟨y.t.toArray⟩, .slice ay y.l.length cy]] w2 fun r w' => r = .returned (.bool true) ∧ Below w2.heap.size w2 w' := fun w2 h2 => by
          have h := rsame_any ((hy9.base (B' := fun _ => True) (fun _ _ _ => trivial)).below h2) (((hwy.base (B' := fun _ => True) (fun _ _ _ => trivial)).below hb39).below h2)
          rw [cmpV_self] at h
          exact h
        clear hcell hSk f9 d0 d1 d2 d3 p0 p1 p2 p3 q0 q1 q2 q3 c0 c1 c2 c3
        simp only [Exit.inBlock, Exit.then]
        refine ‹∀ (a : Act) (w : World), _ → _› _ _ ?_
        go_wp2_with fail
        go_region_held3 (fun w' => w'.cell? ⟨gg, 0, none⟩ = some (.int .i64 y.k) ∧ w'.cell? ⟨gg, 1, none⟩ = some (.int .i64 y.n) ∧ w'.cell? ⟨gg, 2, none⟩ = some (.string ⟨y.t.toArray⟩) ∧ w'.cell? ⟨gg, 3, none⟩ = some (.slice a6 y.l.length c6) ∧ w'.cell? ⟨w.heap.size, 3, none⟩ = some (.slice (some ⟨g, o, none⟩) a.l.length ca) ∧ w'.cell? ⟨g, o + n * 4, none⟩ = some (.int .i64 y.k) ∧ w'.cell? ⟨g, o + n * 4 + 1, none⟩ = some (.int .i64 y.n) ∧ w'.cell? ⟨g, o + n * 4 + 2, none⟩ = some (.string ⟨y.t.toArray⟩) ∧ w'.cell? ⟨g, o + n * 4 + 3, none⟩ = some (.slice ay y.l.length cy)) (go_keep)
          ((go_at_call 11; refine (hC _ (Below.refl _ _).drew).mono ?_; rintro e wA ⟨rfl, hbA⟩; replace hbA := below_undrew hbA; obtain ⟨fA, -⟩ := bcell hbA))
        have hBA : Below W.heap.size W wA := hB9.trans (hbA.mono hB9.size)
        clear hC fA e0 e1 e2 e3 i0 i1 i2 i3 l3
        go_wp2_with fail
        go_roundg (a.l.length - (m + 2))
        case measure => omega
        case rel => exact ⟨q + 1, m + 2, Hm2, by omega, rfl, by go_num, hBA⟩
    · have hltI : ¬ (m : Int) + 1 < (a.l.length : Int) := by omega
      clear hround hcell q0 q1 q2 q3 k0 k1 k2 k3
      go_wp2
      go_ret
      exact ⟨rfl, hBf _ hBr⟩
end Go.Proofs.Ytkbplffckkjbfaa
