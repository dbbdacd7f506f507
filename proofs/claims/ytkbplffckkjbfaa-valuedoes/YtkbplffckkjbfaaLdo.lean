/- What can be done to values: the statement, walked. -/
import Derived.Test.YtkbplffckkjbfaaLor
import Derived.Test.YtkbplffckkjbfaaLtd
import Derived.Test.YtkbplffckkjbfaaRpc
import Derived.Test.YtkbplffckkjbfaaRde
import Derived.Test.YtkbplffckkjbfaaRat
import Derived.Test.YtkbplffckkjbfaaVat
namespace Go.Proofs.Ytkbplffckkjbfaa
open Go.RowKit
set_option linter.unusedVariables false
set_option linter.unusedSimpArgs false
attribute [local go_sem ↓] Go.wp_at_zero Go.wp_at_succ

/-- What At answers of a map tells whether the key is there. -/
theorem at_err {v k : V} (h5 : v.k = 5) : (atV v k).2 = if hit k v.l = true then 0 else 52 := by
  have hp : plV v k = if hit k v.l = true then (2 * kat k v.l + 1, 0) else (0, 52) := by unfold plV; rw [if_neg (by omega), if_pos h5]
  unfold atV
  rw [hp]
  split <;> simp
theorem any_of {B : Nat → Prop} {w : World} {v : V} {s : Value} (h : IsW B w v s) : IsW Any w v s := h.base (fun _ _ _ => trivial)
set_option maxRecDepth 100000 in
set_option maxHeartbeats 8000000 in
theorem does_other {v k x : V} {av ak ax : Option Addr} {cv ck cx : Nat} {w : World} (hv : IsW Any w v (.slice av v.l.length cv)) (hk : IsW Any w k (.slice ak k.l.length ck)) (hx : IsW Any w x (.slice ax x.l.length cx)) (zv : SzV v) (zk : SzV k) (zx : SzV x) (h5 : v.k ≠ 5) :
    Calls Try.prog 5 #[.agg #[.int .i64 v.k, .int .i64 v.n, .string ⟨v.t.toArray⟩, .slice av v.l.length cv], .agg #[.int .i64 k.k, .int .i64 k.n, .string ⟨k.t.toArray⟩, .slice ak k.l.length ck], .agg #[.int .i64 x.k, .int .i64 x.n, .string ⟨x.t.toArray⟩, .slice ax x.l.length cx]] w fun r w' => r = .returned (.bool true) ∧ Below w.heap.size w w' := by
  obtain ⟨w0, w1, W, hW, hW1, hW2, hs0, hs1, hs2, hBW, hcell⟩ := boxed3 w v (.slice av v.l.length cv) k (.slice ak k.l.length ck) x (.slice ax x.l.length cx)
  replace hv := hv.below hBW
  replace hk := hk.below hBW
  replace hx := hx.below hBW
  have hWk := wakes_any W
  have hL : ∀ (u : V) (au : Option Addr) (cu : Nat) (w2 : World), Below W.heap.size W w2 → IsW Any W u (.slice au u.l.length cu) → SzV u → Calls Try.prog 10 #[.agg #[.int .i64 u.k, .int .i64 u.n, .string ⟨u.t.toArray⟩, .slice au u.l.length cu]] w2 fun r w' => r = .returned (.bool (decide (65536 < wt u))) ∧ Below W.heap.size W w' := fun u au cu w2 hb2 hu hz => (large_any hz (hu.below hb2)).mono fun e w' ⟨h1, h2⟩ => ⟨h1, hb2.trans (h2.mono hb2.size)⟩
  have hBf : ∀ w', Below W.heap.size W w' → Below w.heap.size w w' := fun w' h => hBW.trans (h.mono hBW.size)
  have hwts := wt_eq v
  have hlv := wts_len v.l
  have hk5 : (v.k != 5) = true := by simp [h5]
  have hk5' : (v.k == 5) = false := by simp [h5]
  have hh1 : (decide (v.k = 5) && hit k v.l) = false := by simp [h5]
  have hh2 : (if v.k = 5 then (0 : Int) else 40) = 40 := if_neg h5
  go_enter Try.func5, Try.ntmps5
  go_wp2_with fail
  refine hWk.mono ?_
  rintro e w3 ⟨rfl, hbX3⟩
  obtain ⟨⟨p0, p1, p2, p3⟩, ⟨q0, q1, q2, q3⟩, ⟨r0, r1, r2, r3⟩⟩ := hcell w3 hbX3
  clear hW hW1 hW2 hWk
  go_wp2_with fail
  refine (hL v av cv w3 hbX3 hv zv).mono ?_
  rintro e w4 ⟨rfl, hbX4⟩
  clear p0 p1 p2 p3 q0 q1 q2 q3 r0 r1 r2 r3
  by_cases hlv : 65536 < wt v
  · rw [decide_eq_true hlv]
    go_wp2
    go_ret
    exact ⟨rfl, hBf _ hbX4⟩
  rw [decide_eq_false hlv]
  obtain ⟨⟨p0, p1, p2, p3⟩, ⟨q0, q1, q2, q3⟩, ⟨r0, r1, r2, r3⟩⟩ := hcell w4 hbX4
  go_wp2_with fail
  refine (hL k ak ck w4 hbX4 hk zk).mono ?_
  rintro e w5 ⟨rfl, hbX5⟩
  clear p0 p1 p2 p3 q0 q1 q2 q3 r0 r1 r2 r3
  by_cases hlk : 65536 < wt k
  · rw [decide_eq_true hlk]
    go_wp2
    go_ret
    exact ⟨rfl, hBf _ hbX5⟩
  rw [decide_eq_false hlk]
  obtain ⟨⟨p0, p1, p2, p3⟩, ⟨q0, q1, q2, q3⟩, ⟨r0, r1, r2, r3⟩⟩ := hcell w5 hbX5
  go_wp2_with fail
  refine (hL x ax cx w5 hbX5 hx zx).mono ?_
  rintro e w6 ⟨rfl, hbX6⟩
  clear p0 p1 p2 p3 q0 q1 q2 q3 r0 r1 r2 r3
  by_cases hlx : 65536 < wt x
  · rw [decide_eq_true hlx]
    go_wp2
    go_ret
    exact ⟨rfl, hBf _ hbX6⟩
  rw [decide_eq_false hlx]
  obtain ⟨⟨p0, p1, p2, p3⟩, ⟨q0, q1, q2, q3⟩, ⟨r0, r1, r2, r3⟩⟩ := hcell w6 hbX6
  clear hL
  have hTd := tidy_any (hv.below hbX6) (by omega)
  go_wp2_with fail
  refine hTd.mono ?_
  rintro e w7 ⟨⟨b, rfl, hbT⟩, hb7⟩
  have hbX7 : Below W.heap.size W w7 := hbX6.trans (hb7.mono hbX6.size)
  clear hTd hb7
  clear p0 p1 p2 p3 q0 q1 q2 q3 r0 r1 r2 r3
  cases b
  · go_wp2
    go_ret
    exact ⟨rfl, hBf _ hbX7⟩
  have hT : Hid (Tidy v) := hbT rfl
  clear hbT
  have hLn : ∀ w2, Below W.heap.size W w2 → Calls Try.prog 29 #[.agg #[.int .i64 v.k, .int .i64 v.n, .string ⟨v.t.toArray⟩, .slice av v.l.length cv]] w2 fun r w' => r = .returned (.tuple #[.int .i64 ((lenV v).1 : Nat), .int .i64 (lenV v).2]) ∧ Below w2.heap.size w2 w' := fun w2 hb => len_any (hv.below hb)
  have hRLn : ∀ w2, Below W.heap.size W w2 → Calls Try.prog 30 #[.agg #[.int .i64 v.k, .int .i64 v.n, .string ⟨v.t.toArray⟩, .slice av v.l.length cv]] w2 fun r w' => r = .returned (.tuple #[.int .i64 ((lenV v).1 : Nat), .int .i64 (lenV v).2]) ∧ Below w2.heap.size w2 w' := fun w2 hb => rlen_any (hv.below hb)
  have H1a : ∀ w2, Below W.heap.size W w2 → Calls Try.prog 31 #[.agg #[.int .i64 v.k, .int .i64 v.n, .string ⟨v.t.toArray⟩, .slice av v.l.length cv], .agg #[.int .i64 k.k, .int .i64 k.n, .string ⟨k.t.toArray⟩, .slice ak k.l.length ck]] w2 fun r w' => OutV w2 (atV v k) r w' := fun w2 hb => at_any (hv.below hb) (hk.below hb) (by omega) hT.out
  have H2a : ∀ w2, Below W.heap.size W w2 → Calls Try.prog 32 #[.agg #[.int .i64 v.k, .int .i64 v.n, .string ⟨v.t.toArray⟩, .slice av v.l.length cv], .agg #[.int .i64 k.k, .int .i64 k.n, .string ⟨k.t.toArray⟩, .slice ak k.l.length ck]] w2 fun r w' => OutV w2 (atV v k) r w' := fun w2 hb => rat_any (hv.below hb) (hk.below hb) (by omega) hT.out
  have hHs : ∀ w2, Below W.heap.size W w2 → Calls Try.prog 33 #[.agg #[.int .i64 v.k, .int .i64 v.n, .string ⟨v.t.toArray⟩, .slice av v.l.length cv], .agg #[.int .i64 k.k, .int .i64 k.n, .string ⟨k.t.toArray⟩, .slice ak k.l.length ck]] w2 fun r w' => r = .returned (.tuple #[.bool (decide (v.k = 5) && hit k v.l), .int .i64 (if v.k = 5 then 0 else 40)]) ∧ Below w2.heap.size w2 w' := fun w2 hb => has_any (hv.below hb) (hk.below hb) (by omega) hT.out
  have H1p : ∀ w2, Below W.heap.size W w2 → Calls Try.prog 34 #[.agg #[.int .i64 v.k, .int .i64 v.n, .string ⟨v.t.toArray⟩, .slice av v.l.length cv], .agg #[.int .i64 k.k, .int .i64 k.n, .string ⟨k.t.toArray⟩, .slice ak k.l.length ck], .agg #[.int .i64 x.k, .int .i64 x.n, .string ⟨x.t.toArray⟩, .slice ax x.l.length cx]] w2 fun r w' => OutV w2 (putV v k x) r w' := fun w2 hb => put_any (hv.below hb) (hk.below hb) (hx.below hb) (by omega) (by omega) (by omega) hT.out
  have H2p : ∀ w2, Below W.heap.size W w2 → Calls Try.prog 35 #[.agg #[.int .i64 v.k, .int .i64 v.n, .string ⟨v.t.toArray⟩, .slice av v.l.length cv], .agg #[.int .i64 k.k, .int .i64 k.n, .string ⟨k.t.toArray⟩, .slice ak k.l.length ck], .agg #[.int .i64 x.k, .int .i64 x.n, .string ⟨x.t.toArray⟩, .slice ax x.l.length cx]] w2 fun r w' => OutV w2 (putV v k x) r w' := fun w2 hb => rput_any (hv.below hb) (hk.below hb) (hx.below hb) (by omega) (by omega) (by omega) hT.out
  have H1d : ∀ w2, Below W.heap.size W w2 → Calls Try.prog 36 #[.agg #[.int .i64 v.k, .int .i64 v.n, .string ⟨v.t.toArray⟩, .slice av v.l.length cv], .agg #[.int .i64 k.k, .int .i64 k.n, .string ⟨k.t.toArray⟩, .slice ak k.l.length ck]] w2 fun r w' => OutV w2 (delV v k) r w' := fun w2 hb => del_any (hv.below hb) (hk.below hb) (by omega) hT.out
  have H2d : ∀ w2, Below W.heap.size W w2 → Calls Try.prog 37 #[.agg #[.int .i64 v.k, .int .i64 v.n, .string ⟨v.t.toArray⟩, .slice av v.l.length cv], .agg #[.int .i64 k.k, .int .i64 k.n, .string ⟨k.t.toArray⟩, .slice ak k.l.length ck]] w2 fun r w' => OutV w2 (delV v k) r w' := fun w2 hb => rdel_any (hv.below hb) (hk.below hb) (by omega) hT.out
  have H1u : ∀ w2, Below W.heap.size W w2 → Calls Try.prog 38 #[.agg #[.int .i64 v.k, .int .i64 v.n, .string ⟨v.t.toArray⟩, .slice av v.l.length cv], .agg #[.int .i64 x.k, .int .i64 x.n, .string ⟨x.t.toArray⟩, .slice ax x.l.length cx]] w2 fun r w' => OutV w2 (pushV v x) r w' := fun w2 hb => push_any (hv.below hb) (hx.below hb) (by omega) (by omega)
  have H2u : ∀ w2, Below W.heap.size W w2 → Calls Try.prog 39 #[.agg #[.int .i64 v.k, .int .i64 v.n, .string ⟨v.t.toArray⟩, .slice av v.l.length cv], .agg #[.int .i64 x.k, .int .i64 x.n, .string ⟨x.t.toArray⟩, .slice ax x.l.length cx]] w2 fun r w' => OutV w2 (pushV v x) r w' := fun w2 hb => rpush_any (hv.below hb) (hx.below hb) (by omega) (by omega)
  clear hv hk hx zv zk zx hlv hlk hlx hwts
  obtain ⟨⟨p0, p1, p2, p3⟩, ⟨q0, q1, q2, q3⟩, ⟨r0, r1, r2, r3⟩⟩ := hcell w7 hbX7
  generalize lenV v = ln at *
  have hln : ((ln.1 : Int) != (ln.1 : Int)) = false := by simp
  have hln2 : (ln.2 != ln.2) = false := by simp
  go_wp2_with fail
  refine (hLn w7 hbX7).mono ?_
  rintro e w8 ⟨rfl, hb8⟩
  have hbX8 : Below W.heap.size W w8 := hbX7.trans (hb8.mono hbX7.size)
  clear p0 p1 p2 p3 q0 q1 q2 q3 r0 r1 r2 r3
  obtain ⟨⟨p0, p1, p2, p3⟩, ⟨q0, q1, q2, q3⟩, ⟨r0, r1, r2, r3⟩⟩ := hcell w8 hbX8
  clear hLn hb8
  go_wp2_with fail
  refine (hRLn w8 hbX8).mono ?_
  rintro e w9 ⟨rfl, hb9⟩
  have hbP : Below W.heap.size W w9 := hbX8.trans (hb9.mono hbX8.size)
  clear p0 p1 p2 p3 q0 q1 q2 q3 r0 r1 r2 r3
  obtain ⟨⟨p0, p1, p2, p3⟩, ⟨q0, q1, q2, q3⟩, ⟨r0, r1, r2, r3⟩⟩ := hcell w9 hbP
  clear hRLn hb9 hbX8 hbX7 hbX6 hbX5 hbX4 hbX3
  obtain ⟨oa, HOa⟩ : ∃ o, Hid (atV v k = o) := ⟨_, rfl⟩
  have hX1 : ∀ w2, Below W.heap.size W w2 → Calls Try.prog 31 #[.agg #[.int .i64 v.k, .int .i64 v.n, .string ⟨v.t.toArray⟩, .slice av v.l.length cv], .agg #[.int .i64 k.k, .int .i64 k.n, .string ⟨k.t.toArray⟩, .slice ak k.l.length ck]] w2 fun r w' => OutV w2 oa r w' := fun w2 hb => by rw [← HOa.out]; exact H1a w2 hb
  have hX2 : ∀ w2, Below W.heap.size W w2 → Calls Try.prog 32 #[.agg #[.int .i64 v.k, .int .i64 v.n, .string ⟨v.t.toArray⟩, .slice av v.l.length cv], .agg #[.int .i64 k.k, .int .i64 k.n, .string ⟨k.t.toArray⟩, .slice ak k.l.length ck]] w2 fun r w' => OutV w2 oa r w' := fun w2 hb => by rw [← HOa.out]; exact H2a w2 hb
  go_wp2_with fail
  refine (hX1 w9 hbP).mono ?_
  rintro e u1 ⟨⟨a1, c1, rfl, h1⟩, hb1⟩
  clear p0 p1 p2 p3 q0 q1 q2 q3 r0 r1 r2 r3
  have hs1 := hb1.size
  have hbW1 : Below W.heap.size W u1 := hbP.trans (hb1.mono hbP.size)
  obtain ⟨uz, u2, hUz, hU2, hb12, hs2, hsz2, hblkA, ⟨y0, y1, y2, y3⟩, ⟨z0, z1, z2, z3⟩⟩ := rbox_set u1 (.int .i64 oa.1.k) (.int .i64 oa.1.n) (.string ⟨oa.1.t.toArray⟩) (.slice a1 oa.1.l.length c1)
  have hbW2 : Below W.heap.size W u2 := hbW1.trans (hb12.mono hbW1.size)
  have hv1 : IsW Any u2 oa.1 (.slice a1 oa.1.l.length c1) := any_of (h1.below hb12)
  obtain ⟨A, hA⟩ : ∃ A, u1.heap.size = A := ⟨_, rfl⟩
  rw [hA] at hU2 hblkA y0 y1 y2 y3 z0 z1 z2 z3
  have hAW : W.heap.size ≤ A := by have := hbW1.size; omega
  have hA2 : A < u2.heap.size := by omega
  obtain ⟨⟨p0, p1, p2, p3⟩, ⟨q0, q1, q2, q3⟩, ⟨r0, r1, r2, r3⟩⟩ := hcell u2 hbW2
  clear h1 hX1
  go_wp2_with fail
  refine (hX2 u2 hbW2).mono ?_
  rintro e u3 ⟨⟨a3, c3, rfl, h3⟩, hb3⟩
  clear hX2 y0 y1 y2 y3 z0 z1 z2 z3 hU2
  clear p0 p1 p2 p3 q0 q1 q2 q3 r0 r1 r2 r3
  have hs3 := hb3.size
  have hbW3 : Below W.heap.size W u3 := hbW2.trans (hb3.mono hbW2.size)
  replace hblkA := (hb3.block _ hA2).trans hblkA
  replace hv1 := hv1.below hb3
  obtain ⟨uy, u4, hUy, hU4, hb34, hs4, hsz4, hblkB, ⟨y0, y1, y2, y3⟩, ⟨z0, z1, z2, z3⟩⟩ := rbox_set u3 (.int .i64 oa.1.k) (.int .i64 oa.1.n) (.string ⟨oa.1.t.toArray⟩) (.slice a3 oa.1.l.length c3)
  have hbW4 : Below W.heap.size W u4 := hbW3.trans (hb34.mono hbW3.size)
  have hv3 : IsW Any u4 oa.1 (.slice a3 oa.1.l.length c3) := any_of (h3.below hb34)
  replace hv1 := hv1.below hb34
  replace hblkA := (hb34.block _ (by omega)).trans hblkA
  obtain ⟨Bx, hB⟩ : ∃ Bx, u3.heap.size = Bx := ⟨_, rfl⟩
  rw [hB] at hU4 hblkB y0 y1 y2 y3 z0 z1 z2 z3
  have hBW : W.heap.size ≤ Bx := by have := hbW3.size; omega
  have hAB : A ≠ Bx := by omega
  obtain ⟨fA0, fA1, fA2, fA3, -⟩ := cells_of4 hblkA
  obtain ⟨fB0, fB1, fB2, fB3, -⟩ := cells_of4 hblkB
  have hSm := rsame_any hv1 hv3
  have hself : (cmpV oa.1 oa.1 == 0) = true := by rw [cmpV_self]; rfl
  have hne : (oa.2 != oa.2) = false := by simp
  rw [hself] at hSm
  clear h3 hself
  go_wp2_with fail
  refine hSm.mono ?_
  rintro e u5 ⟨rfl, hb5⟩
  clear hSm y0 y1 y2 y3 z0 z1 z2 z3 hU4 fA0 fA1 fA2 fA3 fB0 fB1 fB2 fB3 hv1 hv3
  have hs5 := hb5.size
  have hbW5 : Below W.heap.size W u5 := hbW4.trans (hb5.mono hbW4.size)
  replace hblkA := (hb5.block _ (by omega)).trans hblkA
  replace hblkB := (hb5.block _ (by omega)).trans hblkB
  have hAP : A < u5.heap.size := by omega
  have hBP : Bx < u5.heap.size := by omega
  obtain ⟨⟨p0, p1, p2, p3⟩, ⟨q0, q1, q2, q3⟩, ⟨r0, r1, r2, r3⟩⟩ := hcell u5 hbW5
  go_wp2_with fail
  refine (hHs u5 hbW5).mono ?_
  rintro e u6 ⟨rfl, hb6⟩
  have hbW6 : Below W.heap.size W u6 := hbW5.trans (hb6.mono hbW5.size)
  have hs6 := hb6.size
  replace hblkA := (hb6.block _ hAP).trans hblkA
  replace hblkB := (hb6.block _ hBP).trans hblkB
  clear p0 p1 p2 p3 q0 q1 q2 q3 r0 r1 r2 r3
  obtain ⟨⟨p0, p1, p2, p3⟩, ⟨q0, q1, q2, q3⟩, ⟨r0, r1, r2, r3⟩⟩ := hcell u6 hbW6
  clear hHs
  rw [hh1, hh2]
  obtain ⟨eA0, eA1, eA2, eA3, hblkA'⟩ : ∃ eA0 eA1 eA2 eA3, u6.heap[A]? = some (.cells #[eA0, eA1, eA2, eA3] 24 (0, 0)) := ⟨_, _, _, _, hblkA⟩
  obtain ⟨eB0, eB1, eB2, eB3, hblkB'⟩ : ∃ eB0 eB1 eB2 eB3, u6.heap[Bx]? = some (.cells #[eB0, eB1, eB2, eB3] 24 (0, 0)) := ⟨_, _, _, _, hblkB⟩
  clear hblkA hblkB
  have hblkA := hblkA'
  have hblkB := hblkB'
  clear hblkA' hblkB'
  have hAP' : A < u6.heap.size := by omega
  have hBP' : Bx < u6.heap.size := by omega
  clear hAP hBP
  have hAP := hAP'
  have hBP := hBP'
  clear hAP' hBP' hbP hb5 hs5 hbW5 hb1 hs1 hbW1 hb3 hs3 hbW3 hbW4 hs4 hs2 hbW2 hA2 hne HOa
  have hbP := hbW6
  obtain ⟨op, HOp⟩ : ∃ o, Hid (putV v k x = o) := ⟨_, rfl⟩
  have hX1 : ∀ w2, Below W.heap.size W w2 → Calls Try.prog 34 #[.agg #[.int .i64 v.k, .int .i64 v.n, .string ⟨v.t.toArray⟩, .slice av v.l.length cv], .agg #[.int .i64 k.k, .int .i64 k.n, .string ⟨k.t.toArray⟩, .slice ak k.l.length ck], .agg #[.int .i64 x.k, .int .i64 x.n, .string ⟨x.t.toArray⟩, .slice ax x.l.length cx]] w2 fun r w' => OutV w2 op r w' := fun w2 hb => by rw [← HOp.out]; exact H1p w2 hb
  have hX2 : ∀ w2, Below W.heap.size W w2 → Calls Try.prog 35 #[.agg #[.int .i64 v.k, .int .i64 v.n, .string ⟨v.t.toArray⟩, .slice av v.l.length cv], .agg #[.int .i64 k.k, .int .i64 k.n, .string ⟨k.t.toArray⟩, .slice ak k.l.length ck], .agg #[.int .i64 x.k, .int .i64 x.n, .string ⟨x.t.toArray⟩, .slice ax x.l.length cx]] w2 fun r w' => OutV w2 op r w' := fun w2 hb => by rw [← HOp.out]; exact H2p w2 hb
  go_wp2_with fail
  refine (hX1 u6 hbP).mono ?_
  rintro e up1 ⟨⟨a1, c1, rfl, h1⟩, hb1⟩
  clear p0 p1 p2 p3 q0 q1 q2 q3 r0 r1 r2 r3
  have hs1 := hb1.size
  have hbW1 : Below W.heap.size W up1 := hbP.trans (hb1.mono hbP.size)
  replace hblkA : up1.heap[A]? = some (.cells #[eA0, eA1, eA2, eA3] 24 (0, 0)) := (hb1.block _ hAP).trans hblkA
  obtain ⟨y0, y1, y2, y3, z0, z1, z2, z3⟩ := cells_of4 hblkA
  obtain ⟨up2, hU2⟩ : ∃ up2, set4 up1 A (.int .i64 op.1.k) (.int .i64 op.1.n) (.string ⟨op.1.t.toArray⟩) (.slice a1 op.1.l.length c1) = up2 := ⟨_, rfl⟩
  have hs2 : up2.heap.size = up1.heap.size := by rw [← hU2, set4_size]
  have hbW2 : Below W.heap.size W up2 := by rw [← hU2]; exact below_set4 hbW1 hAW _ _ _ _
  have hv1 : IsW (From u6.heap.size) up2 op.1 (.slice a1 op.1.l.length c1) := by rw [← hU2]; exact h1.since (since_set4 (by show ¬ (u6.heap.size ≤ A); omega) _ _ _ _)
  replace hblkA : up2.heap[A]? = some (.cells #[.int .i64 op.1.k, .int .i64 op.1.n, .string ⟨op.1.t.toArray⟩, .slice a1 op.1.l.length c1] 24 (0, 0)) := by rw [← hU2]; exact set4_blk hblkA _ _ _ _
  replace hblkB : up2.heap[Bx]? = some (.cells #[eB0, eB1, eB2, eB3] 24 (0, 0)) := by rw [← hU2, set4_other hAB.symm]; exact (hb1.block _ hBP).trans hblkB
  have hA2 : A < up2.heap.size := by omega
  obtain ⟨⟨p0, p1, p2, p3⟩, ⟨q0, q1, q2, q3⟩, ⟨r0, r1, r2, r3⟩⟩ := hcell up2 hbW2
  clear h1 hX1
  go_wp2_with fail
  refine (hX2 up2 hbW2).mono ?_
  rintro e up3 ⟨⟨a3, c3, rfl, h3⟩, hb3⟩
  clear hX2 y0 y1 y2 y3 z0 z1 z2 z3 hU2
  clear p0 p1 p2 p3 q0 q1 q2 q3 r0 r1 r2 r3
  have hs3 := hb3.size
  have hbW3 : Below W.heap.size W up3 := hbW2.trans (hb3.mono hbW2.size)
  replace hblkA := (hb3.block _ hA2).trans hblkA
  replace hv1 := hv1.below hb3
  replace hblkB : up3.heap[Bx]? = some (.cells #[eB0, eB1, eB2, eB3] 24 (0, 0)) := (hb3.block _ (by omega)).trans hblkB
  obtain ⟨y0, y1, y2, y3, z0, z1, z2, z3⟩ := cells_of4 hblkB
  obtain ⟨up4, hU4⟩ : ∃ up4, set4 up3 Bx (.int .i64 op.1.k) (.int .i64 op.1.n) (.string ⟨op.1.t.toArray⟩) (.slice a3 op.1.l.length c3) = up4 := ⟨_, rfl⟩
  have hs4 : up4.heap.size = up3.heap.size := by rw [← hU4, set4_size]
  have hbW4 : Below W.heap.size W up4 := by rw [← hU4]; exact below_set4 hbW3 hBW _ _ _ _
  have hv3 : IsW Any up4 op.1 (.slice a3 op.1.l.length c3) := by rw [← hU4]; exact any_of (h3.since (since_set4 (by show ¬ (up2.heap.size ≤ Bx); omega) _ _ _ _))
  replace hv1 : IsW Any up4 op.1 (.slice a1 op.1.l.length c1) := by rw [← hU4]; exact any_of (hv1.since (since_set4 (by show ¬ (u6.heap.size ≤ Bx); omega) _ _ _ _))
  replace hblkB : up4.heap[Bx]? = some (.cells #[.int .i64 op.1.k, .int .i64 op.1.n, .string ⟨op.1.t.toArray⟩, .slice a3 op.1.l.length c3] 24 (0, 0)) := by rw [← hU4]; exact set4_blk hblkB _ _ _ _
  replace hblkA : up4.heap[A]? = some (.cells #[.int .i64 op.1.k, .int .i64 op.1.n, .string ⟨op.1.t.toArray⟩, .slice a1 op.1.l.length c1] 24 (0, 0)) := by rw [← hU4, set4_other hAB]; exact hblkA
  obtain ⟨fA0, fA1, fA2, fA3, -⟩ := cells_of4 hblkA
  obtain ⟨fB0, fB1, fB2, fB3, -⟩ := cells_of4 hblkB
  have hSm := rsame_any hv1 hv3
  have hself : (cmpV op.1 op.1 == 0) = true := by rw [cmpV_self]; rfl
  have hne : (op.2 != op.2) = false := by simp
  rw [hself] at hSm
  clear h3 hself
  go_wp2_with fail
  refine hSm.mono ?_
  rintro e up5 ⟨rfl, hb5⟩
  clear hSm y0 y1 y2 y3 z0 z1 z2 z3 hU4 fA0 fA1 fA2 fA3 fB0 fB1 fB2 fB3 hv1 hv3
  have hs5 := hb5.size
  have hbW5 : Below W.heap.size W up5 := hbW4.trans (hb5.mono hbW4.size)
  replace hblkA := (hb5.block _ (by omega)).trans hblkA
  replace hblkB := (hb5.block _ (by omega)).trans hblkB
  have hAP : A < up5.heap.size := by omega
  have hBP : Bx < up5.heap.size := by omega
  obtain ⟨⟨p0, p1, p2, p3⟩, ⟨q0, q1, q2, q3⟩, ⟨r0, r1, r2, r3⟩⟩ := hcell up5 hbW5
  obtain ⟨eA0, eA1, eA2, eA3, hblkA'⟩ : ∃ eA0 eA1 eA2 eA3, up5.heap[A]? = some (.cells #[eA0, eA1, eA2, eA3] 24 (0, 0)) := ⟨_, _, _, _, hblkA⟩
  obtain ⟨eB0, eB1, eB2, eB3, hblkB'⟩ : ∃ eB0 eB1 eB2 eB3, up5.heap[Bx]? = some (.cells #[eB0, eB1, eB2, eB3] 24 (0, 0)) := ⟨_, _, _, _, hblkB⟩
  clear hblkA hblkB
  have hblkA := hblkA'
  have hblkB := hblkB'
  clear hblkA' hblkB'
  clear hbP hb5 hs5 hb1 hs1 hbW1 hb3 hs3 hbW3 hbW4 hs4 hs2 hbW2 hA2 hne HOp hbW6 hs6 hb6
  have hbP := hbW5
  clear hbW5
  obtain ⟨od, HOd⟩ : ∃ o, Hid (delV v k = o) := ⟨_, rfl⟩
  have hX1 : ∀ w2, Below W.heap.size W w2 → Calls Try.prog 36 #[.agg #[.int .i64 v.k, .int .i64 v.n, .string ⟨v.t.toArray⟩, .slice av v.l.length cv], .agg #[.int .i64 k.k, .int .i64 k.n, .string ⟨k.t.toArray⟩, .slice ak k.l.length ck]] w2 fun r w' => OutV w2 od r w' := fun w2 hb => by rw [← HOd.out]; exact H1d w2 hb
  have hX2 : ∀ w2, Below W.heap.size W w2 → Calls Try.prog 37 #[.agg #[.int .i64 v.k, .int .i64 v.n, .string ⟨v.t.toArray⟩, .slice av v.l.length cv], .agg #[.int .i64 k.k, .int .i64 k.n, .string ⟨k.t.toArray⟩, .slice ak k.l.length ck]] w2 fun r w' => OutV w2 od r w' := fun w2 hb => by rw [← HOd.out]; exact H2d w2 hb
  go_wp2_with fail
  refine (hX1 up5 hbP).mono ?_
  rintro e ud1 ⟨⟨a1, c1, rfl, h1⟩, hb1⟩
  clear p0 p1 p2 p3 q0 q1 q2 q3 r0 r1 r2 r3
  have hs1 := hb1.size
  have hbW1 : Below W.heap.size W ud1 := hbP.trans (hb1.mono hbP.size)
  replace hblkA : ud1.heap[A]? = some (.cells #[eA0, eA1, eA2, eA3] 24 (0, 0)) := (hb1.block _ hAP).trans hblkA
  obtain ⟨y0, y1, y2, y3, z0, z1, z2, z3⟩ := cells_of4 hblkA
  obtain ⟨ud2, hU2⟩ : ∃ ud2, set4 ud1 A (.int .i64 od.1.k) (.int .i64 od.1.n) (.string ⟨od.1.t.toArray⟩) (.slice a1 od.1.l.length c1) = ud2 := ⟨_, rfl⟩
  have hs2 : ud2.heap.size = ud1.heap.size := by rw [← hU2, set4_size]
  have hbW2 : Below W.heap.size W ud2 := by rw [← hU2]; exact below_set4 hbW1 hAW _ _ _ _
  have hv1 : IsW (From up5.heap.size) ud2 od.1 (.slice a1 od.1.l.length c1) := by rw [← hU2]; exact h1.since (since_set4 (by show ¬ (up5.heap.size ≤ A); omega) _ _ _ _)
  replace hblkA : ud2.heap[A]? = some (.cells #[.int .i64 od.1.k, .int .i64 od.1.n, .string ⟨od.1.t.toArray⟩, .slice a1 od.1.l.length c1] 24 (0, 0)) := by rw [← hU2]; exact set4_blk hblkA _ _ _ _
  replace hblkB : ud2.heap[Bx]? = some (.cells #[eB0, eB1, eB2, eB3] 24 (0, 0)) := by rw [← hU2, set4_other hAB.symm]; exact (hb1.block _ hBP).trans hblkB
  have hA2 : A < ud2.heap.size := by omega
  obtain ⟨⟨p0, p1, p2, p3⟩, ⟨q0, q1, q2, q3⟩, ⟨r0, r1, r2, r3⟩⟩ := hcell ud2 hbW2
  clear h1 hX1
  go_wp2_with fail
  refine (hX2 ud2 hbW2).mono ?_
  rintro e ud3 ⟨⟨a3, c3, rfl, h3⟩, hb3⟩
  clear hX2 y0 y1 y2 y3 z0 z1 z2 z3 hU2
  clear p0 p1 p2 p3 q0 q1 q2 q3 r0 r1 r2 r3
  have hs3 := hb3.size
  have hbW3 : Below W.heap.size W ud3 := hbW2.trans (hb3.mono hbW2.size)
  replace hblkA := (hb3.block _ hA2).trans hblkA
  replace hv1 := hv1.below hb3
  replace hblkB : ud3.heap[Bx]? = some (.cells #[eB0, eB1, eB2, eB3] 24 (0, 0)) := (hb3.block _ (by omega)).trans hblkB
  obtain ⟨y0, y1, y2, y3, z0, z1, z2, z3⟩ := cells_of4 hblkB
  obtain ⟨ud4, hU4⟩ : ∃ ud4, set4 ud3 Bx (.int .i64 od.1.k) (.int .i64 od.1.n) (.string ⟨od.1.t.toArray⟩) (.slice a3 od.1.l.length c3) = ud4 := ⟨_, rfl⟩
  have hs4 : ud4.heap.size = ud3.heap.size := by rw [← hU4, set4_size]
  have hbW4 : Below W.heap.size W ud4 := by rw [← hU4]; exact below_set4 hbW3 hBW _ _ _ _
  have hv3 : IsW Any ud4 od.1 (.slice a3 od.1.l.length c3) := by rw [← hU4]; exact any_of (h3.since (since_set4 (by show ¬ (ud2.heap.size ≤ Bx); omega) _ _ _ _))
  replace hv1 : IsW Any ud4 od.1 (.slice a1 od.1.l.length c1) := by rw [← hU4]; exact any_of (hv1.since (since_set4 (by show ¬ (up5.heap.size ≤ Bx); omega) _ _ _ _))
  replace hblkB : ud4.heap[Bx]? = some (.cells #[.int .i64 od.1.k, .int .i64 od.1.n, .string ⟨od.1.t.toArray⟩, .slice a3 od.1.l.length c3] 24 (0, 0)) := by rw [← hU4]; exact set4_blk hblkB _ _ _ _
  replace hblkA : ud4.heap[A]? = some (.cells #[.int .i64 od.1.k, .int .i64 od.1.n, .string ⟨od.1.t.toArray⟩, .slice a1 od.1.l.length c1] 24 (0, 0)) := by rw [← hU4, set4_other hAB]; exact hblkA
  obtain ⟨fA0, fA1, fA2, fA3, -⟩ := cells_of4 hblkA
  obtain ⟨fB0, fB1, fB2, fB3, -⟩ := cells_of4 hblkB
  have hSm := rsame_any hv1 hv3
  have hself : (cmpV od.1 od.1 == 0) = true := by rw [cmpV_self]; rfl
  have hne : (od.2 != od.2) = false := by simp
  rw [hself] at hSm
  clear h3 hself
  go_wp2_with fail
  refine hSm.mono ?_
  rintro e ud5 ⟨rfl, hb5⟩
  clear hSm y0 y1 y2 y3 z0 z1 z2 z3 hU4 fA0 fA1 fA2 fA3 fB0 fB1 fB2 fB3 hv1 hv3
  have hs5 := hb5.size
  have hbW5 : Below W.heap.size W ud5 := hbW4.trans (hb5.mono hbW4.size)
  replace hblkA := (hb5.block _ (by omega)).trans hblkA
  replace hblkB := (hb5.block _ (by omega)).trans hblkB
  have hAP : A < ud5.heap.size := by omega
  have hBP : Bx < ud5.heap.size := by omega
  obtain ⟨⟨p0, p1, p2, p3⟩, ⟨q0, q1, q2, q3⟩, ⟨r0, r1, r2, r3⟩⟩ := hcell ud5 hbW5
  obtain ⟨eA0, eA1, eA2, eA3, hblkA'⟩ : ∃ eA0 eA1 eA2 eA3, ud5.heap[A]? = some (.cells #[eA0, eA1, eA2, eA3] 24 (0, 0)) := ⟨_, _, _, _, hblkA⟩
  obtain ⟨eB0, eB1, eB2, eB3, hblkB'⟩ : ∃ eB0 eB1 eB2 eB3, ud5.heap[Bx]? = some (.cells #[eB0, eB1, eB2, eB3] 24 (0, 0)) := ⟨_, _, _, _, hblkB⟩
  clear hblkA hblkB
  have hblkA := hblkA'
  have hblkB := hblkB'
  clear hblkA' hblkB'
  clear hbP hb5 hs5 hb1 hs1 hbW1 hb3 hs3 hbW3 hbW4 hs4 hs2 hbW2 hA2 hne HOd
  have hbP := hbW5
  clear hbW5
  obtain ⟨ou, HOu⟩ : ∃ o, Hid (pushV v x = o) := ⟨_, rfl⟩
  have hX1 : ∀ w2, Below W.heap.size W w2 → Calls Try.prog 38 #[.agg #[.int .i64 v.k, .int .i64 v.n, .string ⟨v.t.toArray⟩, .slice av v.l.length cv], .agg #[.int .i64 x.k, .int .i64 x.n, .string ⟨x.t.toArray⟩, .slice ax x.l.length cx]] w2 fun r w' => OutV w2 ou r w' := fun w2 hb => by rw [← HOu.out]; exact H1u w2 hb
  have hX2 : ∀ w2, Below W.heap.size W w2 → Calls Try.prog 39 #[.agg #[.int .i64 v.k, .int .i64 v.n, .string ⟨v.t.toArray⟩, .slice av v.l.length cv], .agg #[.int .i64 x.k, .int .i64 x.n, .string ⟨x.t.toArray⟩, .slice ax x.l.length cx]] w2 fun r w' => OutV w2 ou r w' := fun w2 hb => by rw [← HOu.out]; exact H2u w2 hb
  go_wp2_with fail
  refine (hX1 ud5 hbP).mono ?_
  rintro e uu1 ⟨⟨a1, c1, rfl, h1⟩, hb1⟩
  clear p0 p1 p2 p3 q0 q1 q2 q3 r0 r1 r2 r3
  have hs1 := hb1.size
  have hbW1 : Below W.heap.size W uu1 := hbP.trans (hb1.mono hbP.size)
  replace hblkA : uu1.heap[A]? = some (.cells #[eA0, eA1, eA2, eA3] 24 (0, 0)) := (hb1.block _ hAP).trans hblkA
  obtain ⟨y0, y1, y2, y3, z0, z1, z2, z3⟩ := cells_of4 hblkA
  obtain ⟨uu2, hU2⟩ : ∃ uu2, set4 uu1 A (.int .i64 ou.1.k) (.int .i64 ou.1.n) (.string ⟨ou.1.t.toArray⟩) (.slice a1 ou.1.l.length c1) = uu2 := ⟨_, rfl⟩
  have hs2 : uu2.heap.size = uu1.heap.size := by rw [← hU2, set4_size]
  have hbW2 : Below W.heap.size W uu2 := by rw [← hU2]; exact below_set4 hbW1 hAW _ _ _ _
  have hv1 : IsW (From ud5.heap.size) uu2 ou.1 (.slice a1 ou.1.l.length c1) := by rw [← hU2]; exact h1.since (since_set4 (by show ¬ (ud5.heap.size ≤ A); omega) _ _ _ _)
  replace hblkA : uu2.heap[A]? = some (.cells #[.int .i64 ou.1.k, .int .i64 ou.1.n, .string ⟨ou.1.t.toArray⟩, .slice a1 ou.1.l.length c1] 24 (0, 0)) := by rw [← hU2]; exact set4_blk hblkA _ _ _ _
  replace hblkB : uu2.heap[Bx]? = some (.cells #[eB0, eB1, eB2, eB3] 24 (0, 0)) := by rw [← hU2, set4_other hAB.symm]; exact (hb1.block _ hBP).trans hblkB
  have hA2 : A < uu2.heap.size := by omega
  obtain ⟨⟨p0, p1, p2, p3⟩, ⟨q0, q1, q2, q3⟩, ⟨r0, r1, r2, r3⟩⟩ := hcell uu2 hbW2
  clear h1 hX1
  go_wp2_with fail
  refine (hX2 uu2 hbW2).mono ?_
  rintro e uu3 ⟨⟨a3, c3, rfl, h3⟩, hb3⟩
  clear hX2 y0 y1 y2 y3 z0 z1 z2 z3 hU2
  clear p0 p1 p2 p3 q0 q1 q2 q3 r0 r1 r2 r3
  have hs3 := hb3.size
  have hbW3 : Below W.heap.size W uu3 := hbW2.trans (hb3.mono hbW2.size)
  replace hblkA := (hb3.block _ hA2).trans hblkA
  replace hv1 := hv1.below hb3
  replace hblkB : uu3.heap[Bx]? = some (.cells #[eB0, eB1, eB2, eB3] 24 (0, 0)) := (hb3.block _ (by omega)).trans hblkB
  obtain ⟨y0, y1, y2, y3, z0, z1, z2, z3⟩ := cells_of4 hblkB
  obtain ⟨uu4, hU4⟩ : ∃ uu4, set4 uu3 Bx (.int .i64 ou.1.k) (.int .i64 ou.1.n) (.string ⟨ou.1.t.toArray⟩) (.slice a3 ou.1.l.length c3) = uu4 := ⟨_, rfl⟩
  have hs4 : uu4.heap.size = uu3.heap.size := by rw [← hU4, set4_size]
  have hbW4 : Below W.heap.size W uu4 := by rw [← hU4]; exact below_set4 hbW3 hBW _ _ _ _
  have hv3 : IsW Any uu4 ou.1 (.slice a3 ou.1.l.length c3) := by rw [← hU4]; exact any_of (h3.since (since_set4 (by show ¬ (uu2.heap.size ≤ Bx); omega) _ _ _ _))
  replace hv1 : IsW Any uu4 ou.1 (.slice a1 ou.1.l.length c1) := by rw [← hU4]; exact any_of (hv1.since (since_set4 (by show ¬ (ud5.heap.size ≤ Bx); omega) _ _ _ _))
  replace hblkB : uu4.heap[Bx]? = some (.cells #[.int .i64 ou.1.k, .int .i64 ou.1.n, .string ⟨ou.1.t.toArray⟩, .slice a3 ou.1.l.length c3] 24 (0, 0)) := by rw [← hU4]; exact set4_blk hblkB _ _ _ _
  replace hblkA : uu4.heap[A]? = some (.cells #[.int .i64 ou.1.k, .int .i64 ou.1.n, .string ⟨ou.1.t.toArray⟩, .slice a1 ou.1.l.length c1] 24 (0, 0)) := by rw [← hU4, set4_other hAB]; exact hblkA
  obtain ⟨fA0, fA1, fA2, fA3, -⟩ := cells_of4 hblkA
  obtain ⟨fB0, fB1, fB2, fB3, -⟩ := cells_of4 hblkB
  have hSm := rsame_any hv1 hv3
  have hself : (cmpV ou.1 ou.1 == 0) = true := by rw [cmpV_self]; rfl
  have hne : (ou.2 != ou.2) = false := by simp
  rw [hself] at hSm
  clear h3 hself
  go_wp2_with fail
  refine hSm.mono ?_
  rintro e uu5 ⟨rfl, hb5⟩
  clear hSm y0 y1 y2 y3 z0 z1 z2 z3 hU4 fA0 fA1 fA2 fA3 fB0 fB1 fB2 fB3 hv1 hv3
  have hs5 := hb5.size
  have hbW5 : Below W.heap.size W uu5 := hbW4.trans (hb5.mono hbW4.size)
  replace hblkA := (hb5.block _ (by omega)).trans hblkA
  replace hblkB := (hb5.block _ (by omega)).trans hblkB
  have hAP : A < uu5.heap.size := by omega
  have hBP : Bx < uu5.heap.size := by omega
  go_wp2
  go_ret
  exact ⟨ret_bool (by simp), hBf _ hbW5⟩
set_option maxRecDepth 100000 in
set_option maxHeartbeats 8000000 in
theorem does_hit {v k x : V} {av ak ax : Option Addr} {cv ck cx : Nat} {w : World} (hv : IsW Any w v (.slice av v.l.length cv)) (hk : IsW Any w k (.slice ak k.l.length ck)) (hx : IsW Any w x (.slice ax x.l.length cx)) (zv : SzV v) (zk : SzV k) (zx : SzV x) (h5 : v.k = 5) (hh : hit k v.l = true) :
    Calls Try.prog 5 #[.agg #[.int .i64 v.k, .int .i64 v.n, .string ⟨v.t.toArray⟩, .slice av v.l.length cv], .agg #[.int .i64 k.k, .int .i64 k.n, .string ⟨k.t.toArray⟩, .slice ak k.l.length ck], .agg #[.int .i64 x.k, .int .i64 x.n, .string ⟨x.t.toArray⟩, .slice ax x.l.length cx]] w fun r w' => r = .returned (.bool true) ∧ Below w.heap.size w w' := by
  obtain ⟨w0, w1, W, hW, hW1, hW2, hs0, hs1, hs2, hBW, hcell⟩ := boxed3 w v (.slice av v.l.length cv) k (.slice ak k.l.length ck) x (.slice ax x.l.length cx)
  replace hv := hv.below hBW
  replace hk := hk.below hBW
  replace hx := hx.below hBW
  have hWk := wakes_any W
  have hL : ∀ (u : V) (au : Option Addr) (cu : Nat) (w2 : World), Below W.heap.size W w2 → IsW Any W u (.slice au u.l.length cu) → SzV u → Calls Try.prog 10 #[.agg #[.int .i64 u.k, .int .i64 u.n, .string ⟨u.t.toArray⟩, .slice au u.l.length cu]] w2 fun r w' => r = .returned (.bool (decide (65536 < wt u))) ∧ Below W.heap.size W w' := fun u au cu w2 hb2 hu hz => (large_any hz (hu.below hb2)).mono fun e w' ⟨h1, h2⟩ => ⟨h1, hb2.trans (h2.mono hb2.size)⟩
  have hBf : ∀ w', Below W.heap.size W w' → Below w.heap.size w w' := fun w' h => hBW.trans (h.mono hBW.size)
  have hwts := wt_eq v
  have hlv := wts_len v.l
  have hk5 : (v.k != 5) = false := by simp [h5]
  have hk5' : (v.k == 5) = true := by simp [h5]
  have hh1 : (decide (v.k = 5) && hit k v.l) = true := by simp [h5, hh]
  have hh2 : (if v.k = 5 then (0 : Int) else 40) = 0 := if_pos h5
  have hoe : Hid ((atV v k).2 = 0) := by show _ = _; rw [at_err h5, if_pos hh]
  clear h5 hh
  go_enter Try.func5, Try.ntmps5
  go_wp2_with fail
  refine hWk.mono ?_
  rintro e w3 ⟨rfl, hbX3⟩
  obtain ⟨⟨p0, p1, p2, p3⟩, ⟨q0, q1, q2, q3⟩, ⟨r0, r1, r2, r3⟩⟩ := hcell w3 hbX3
  clear hW hW1 hW2 hWk
  go_wp2_with fail
  refine (hL v av cv w3 hbX3 hv zv).mono ?_
  rintro e w4 ⟨rfl, hbX4⟩
  clear p0 p1 p2 p3 q0 q1 q2 q3 r0 r1 r2 r3
  by_cases hlv : 65536 < wt v
  · rw [decide_eq_true hlv]
    go_wp2
    go_ret
    exact ⟨rfl, hBf _ hbX4⟩
  rw [decide_eq_false hlv]
  obtain ⟨⟨p0, p1, p2, p3⟩, ⟨q0, q1, q2, q3⟩, ⟨r0, r1, r2, r3⟩⟩ := hcell w4 hbX4
  go_wp2_with fail
  refine (hL k ak ck w4 hbX4 hk zk).mono ?_
  rintro e w5 ⟨rfl, hbX5⟩
  clear p0 p1 p2 p3 q0 q1 q2 q3 r0 r1 r2 r3
  by_cases hlk : 65536 < wt k
  · rw [decide_eq_true hlk]
    go_wp2
    go_ret
    exact ⟨rfl, hBf _ hbX5⟩
  rw [decide_eq_false hlk]
  obtain ⟨⟨p0, p1, p2, p3⟩, ⟨q0, q1, q2, q3⟩, ⟨r0, r1, r2, r3⟩⟩ := hcell w5 hbX5
  go_wp2_with fail
  refine (hL x ax cx w5 hbX5 hx zx).mono ?_
  rintro e w6 ⟨rfl, hbX6⟩
  clear p0 p1 p2 p3 q0 q1 q2 q3 r0 r1 r2 r3
  by_cases hlx : 65536 < wt x
  · rw [decide_eq_true hlx]
    go_wp2
    go_ret
    exact ⟨rfl, hBf _ hbX6⟩
  rw [decide_eq_false hlx]
  obtain ⟨⟨p0, p1, p2, p3⟩, ⟨q0, q1, q2, q3⟩, ⟨r0, r1, r2, r3⟩⟩ := hcell w6 hbX6
  clear hL
  have hTd := tidy_any (hv.below hbX6) (by omega)
  go_wp2_with fail
  refine hTd.mono ?_
  rintro e w7 ⟨⟨b, rfl, hbT⟩, hb7⟩
  have hbX7 : Below W.heap.size W w7 := hbX6.trans (hb7.mono hbX6.size)
  clear hTd hb7
  clear p0 p1 p2 p3 q0 q1 q2 q3 r0 r1 r2 r3
  cases b
  · go_wp2
    go_ret
    exact ⟨rfl, hBf _ hbX7⟩
  have hT : Hid (Tidy v) := hbT rfl
  clear hbT
  have hLn : ∀ w2, Below W.heap.size W w2 → Calls Try.prog 29 #[.agg #[.int .i64 v.k, .int .i64 v.n, .string ⟨v.t.toArray⟩, .slice av v.l.length cv]] w2 fun r w' => r = .returned (.tuple #[.int .i64 ((lenV v).1 : Nat), .int .i64 (lenV v).2]) ∧ Below w2.heap.size w2 w' := fun w2 hb => len_any (hv.below hb)
  have hRLn : ∀ w2, Below W.heap.size W w2 → Calls Try.prog 30 #[.agg #[.int .i64 v.k, .int .i64 v.n, .string ⟨v.t.toArray⟩, .slice av v.l.length cv]] w2 fun r w' => r = .returned (.tuple #[.int .i64 ((lenV v).1 : Nat), .int .i64 (lenV v).2]) ∧ Below w2.heap.size w2 w' := fun w2 hb => rlen_any (hv.below hb)
  have H1a : ∀ w2, Below W.heap.size W w2 → Calls Try.prog 31 #[.agg #[.int .i64 v.k, .int .i64 v.n, .string ⟨v.t.toArray⟩, .slice av v.l.length cv], .agg #[.int .i64 k.k, .int .i64 k.n, .string ⟨k.t.toArray⟩, .slice ak k.l.length ck]] w2 fun r w' => OutV w2 (atV v k) r w' := fun w2 hb => at_any (hv.below hb) (hk.below hb) (by omega) hT.out
  have H2a : ∀ w2, Below W.heap.size W w2 → Calls Try.prog 32 #[.agg #[.int .i64 v.k, .int .i64 v.n, .string ⟨v.t.toArray⟩, .slice av v.l.length cv], .agg #[.int .i64 k.k, .int .i64 k.n, .string ⟨k.t.toArray⟩, .slice ak k.l.length ck]] w2 fun r w' => OutV w2 (atV v k) r w' := fun w2 hb => rat_any (hv.below hb) (hk.below hb) (by omega) hT.out
  have hHs : ∀ w2, Below W.heap.size W w2 → Calls Try.prog 33 #[.agg #[.int .i64 v.k, .int .i64 v.n, .string ⟨v.t.toArray⟩, .slice av v.l.length cv], .agg #[.int .i64 k.k, .int .i64 k.n, .string ⟨k.t.toArray⟩, .slice ak k.l.length ck]] w2 fun r w' => r = .returned (.tuple #[.bool (decide (v.k = 5) && hit k v.l), .int .i64 (if v.k = 5 then 0 else 40)]) ∧ Below w2.heap.size w2 w' := fun w2 hb => has_any (hv.below hb) (hk.below hb) (by omega) hT.out
  have H1p : ∀ w2, Below W.heap.size W w2 → Calls Try.prog 34 #[.agg #[.int .i64 v.k, .int .i64 v.n, .string ⟨v.t.toArray⟩, .slice av v.l.length cv], .agg #[.int .i64 k.k, .int .i64 k.n, .string ⟨k.t.toArray⟩, .slice ak k.l.length ck], .agg #[.int .i64 x.k, .int .i64 x.n, .string ⟨x.t.toArray⟩, .slice ax x.l.length cx]] w2 fun r w' => OutV w2 (putV v k x) r w' := fun w2 hb => put_any (hv.below hb) (hk.below hb) (hx.below hb) (by omega) (by omega) (by omega) hT.out
  have H2p : ∀ w2, Below W.heap.size W w2 → Calls Try.prog 35 #[.agg #[.int .i64 v.k, .int .i64 v.n, .string ⟨v.t.toArray⟩, .slice av v.l.length cv], .agg #[.int .i64 k.k, .int .i64 k.n, .string ⟨k.t.toArray⟩, .slice ak k.l.length ck], .agg #[.int .i64 x.k, .int .i64 x.n, .string ⟨x.t.toArray⟩, .slice ax x.l.length cx]] w2 fun r w' => OutV w2 (putV v k x) r w' := fun w2 hb => rput_any (hv.below hb) (hk.below hb) (hx.below hb) (by omega) (by omega) (by omega) hT.out
  have H1d : ∀ w2, Below W.heap.size W w2 → Calls Try.prog 36 #[.agg #[.int .i64 v.k, .int .i64 v.n, .string ⟨v.t.toArray⟩, .slice av v.l.length cv], .agg #[.int .i64 k.k, .int .i64 k.n, .string ⟨k.t.toArray⟩, .slice ak k.l.length ck]] w2 fun r w' => OutV w2 (delV v k) r w' := fun w2 hb => del_any (hv.below hb) (hk.below hb) (by omega) hT.out
  have H2d : ∀ w2, Below W.heap.size W w2 → Calls Try.prog 37 #[.agg #[.int .i64 v.k, .int .i64 v.n, .string ⟨v.t.toArray⟩, .slice av v.l.length cv], .agg #[.int .i64 k.k, .int .i64 k.n, .string ⟨k.t.toArray⟩, .slice ak k.l.length ck]] w2 fun r w' => OutV w2 (delV v k) r w' := fun w2 hb => rdel_any (hv.below hb) (hk.below hb) (by omega) hT.out
  have H1u : ∀ w2, Below W.heap.size W w2 → Calls Try.prog 38 #[.agg #[.int .i64 v.k, .int .i64 v.n, .string ⟨v.t.toArray⟩, .slice av v.l.length cv], .agg #[.int .i64 x.k, .int .i64 x.n, .string ⟨x.t.toArray⟩, .slice ax x.l.length cx]] w2 fun r w' => OutV w2 (pushV v x) r w' := fun w2 hb => push_any (hv.below hb) (hx.below hb) (by omega) (by omega)
  have H2u : ∀ w2, Below W.heap.size W w2 → Calls Try.prog 39 #[.agg #[.int .i64 v.k, .int .i64 v.n, .string ⟨v.t.toArray⟩, .slice av v.l.length cv], .agg #[.int .i64 x.k, .int .i64 x.n, .string ⟨x.t.toArray⟩, .slice ax x.l.length cx]] w2 fun r w' => OutV w2 (pushV v x) r w' := fun w2 hb => rpush_any (hv.below hb) (hx.below hb) (by omega) (by omega)
  clear hv hk hx zv zk zx hlv hlk hlx hwts
  obtain ⟨⟨p0, p1, p2, p3⟩, ⟨q0, q1, q2, q3⟩, ⟨r0, r1, r2, r3⟩⟩ := hcell w7 hbX7
  generalize lenV v = ln at *
  have hln : ((ln.1 : Int) != (ln.1 : Int)) = false := by simp
  have hln2 : (ln.2 != ln.2) = false := by simp
  go_wp2_with fail
  refine (hLn w7 hbX7).mono ?_
  rintro e w8 ⟨rfl, hb8⟩
  have hbX8 : Below W.heap.size W w8 := hbX7.trans (hb8.mono hbX7.size)
  clear p0 p1 p2 p3 q0 q1 q2 q3 r0 r1 r2 r3
  obtain ⟨⟨p0, p1, p2, p3⟩, ⟨q0, q1, q2, q3⟩, ⟨r0, r1, r2, r3⟩⟩ := hcell w8 hbX8
  clear hLn hb8
  go_wp2_with fail
  refine (hRLn w8 hbX8).mono ?_
  rintro e w9 ⟨rfl, hb9⟩
  have hbP : Below W.heap.size W w9 := hbX8.trans (hb9.mono hbX8.size)
  clear p0 p1 p2 p3 q0 q1 q2 q3 r0 r1 r2 r3
  obtain ⟨⟨p0, p1, p2, p3⟩, ⟨q0, q1, q2, q3⟩, ⟨r0, r1, r2, r3⟩⟩ := hcell w9 hbP
  clear hRLn hb9 hbX8 hbX7 hbX6 hbX5 hbX4 hbX3
  obtain ⟨oa, HOa⟩ : ∃ o, Hid (atV v k = o) := ⟨_, rfl⟩
  have hX1 : ∀ w2, Below W.heap.size W w2 → Calls Try.prog 31 #[.agg #[.int .i64 v.k, .int .i64 v.n, .string ⟨v.t.toArray⟩, .slice av v.l.length cv], .agg #[.int .i64 k.k, .int .i64 k.n, .string ⟨k.t.toArray⟩, .slice ak k.l.length ck]] w2 fun r w' => OutV w2 oa r w' := fun w2 hb => by rw [← HOa.out]; exact H1a w2 hb
  have hX2 : ∀ w2, Below W.heap.size W w2 → Calls Try.prog 32 #[.agg #[.int .i64 v.k, .int .i64 v.n, .string ⟨v.t.toArray⟩, .slice av v.l.length cv], .agg #[.int .i64 k.k, .int .i64 k.n, .string ⟨k.t.toArray⟩, .slice ak k.l.length ck]] w2 fun r w' => OutV w2 oa r w' := fun w2 hb => by rw [← HOa.out]; exact H2a w2 hb
  go_wp2_with fail
  refine (hX1 w9 hbP).mono ?_
  rintro e u1 ⟨⟨a1, c1, rfl, h1⟩, hb1⟩
  clear p0 p1 p2 p3 q0 q1 q2 q3 r0 r1 r2 r3
  have hs1 := hb1.size
  have hbW1 : Below W.heap.size W u1 := hbP.trans (hb1.mono hbP.size)
  obtain ⟨uz, u2, hUz, hU2, hb12, hs2, hsz2, hblkA, ⟨y0, y1, y2, y3⟩, ⟨z0, z1, z2, z3⟩⟩ := rbox_set u1 (.int .i64 oa.1.k) (.int .i64 oa.1.n) (.string ⟨oa.1.t.toArray⟩) (.slice a1 oa.1.l.length c1)
  have hbW2 : Below W.heap.size W u2 := hbW1.trans (hb12.mono hbW1.size)
  have hv1 : IsW Any u2 oa.1 (.slice a1 oa.1.l.length c1) := any_of (h1.below hb12)
  obtain ⟨A, hA⟩ : ∃ A, u1.heap.size = A := ⟨_, rfl⟩
  rw [hA] at hU2 hblkA y0 y1 y2 y3 z0 z1 z2 z3
  have hAW : W.heap.size ≤ A := by have := hbW1.size; omega
  have hA2 : A < u2.heap.size := by omega
  obtain ⟨⟨p0, p1, p2, p3⟩, ⟨q0, q1, q2, q3⟩, ⟨r0, r1, r2, r3⟩⟩ := hcell u2 hbW2
  clear h1 hX1
  go_wp2_with fail
  refine (hX2 u2 hbW2).mono ?_
  rintro e u3 ⟨⟨a3, c3, rfl, h3⟩, hb3⟩
  clear hX2 y0 y1 y2 y3 z0 z1 z2 z3 hU2
  clear p0 p1 p2 p3 q0 q1 q2 q3 r0 r1 r2 r3
  have hs3 := hb3.size
  have hbW3 : Below W.heap.size W u3 := hbW2.trans (hb3.mono hbW2.size)
  replace hblkA := (hb3.block _ hA2).trans hblkA
  replace hv1 := hv1.below hb3
  obtain ⟨uy, u4, hUy, hU4, hb34, hs4, hsz4, hblkB, ⟨y0, y1, y2, y3⟩, ⟨z0, z1, z2, z3⟩⟩ := rbox_set u3 (.int .i64 oa.1.k) (.int .i64 oa.1.n) (.string ⟨oa.1.t.toArray⟩) (.slice a3 oa.1.l.length c3)
  have hbW4 : Below W.heap.size W u4 := hbW3.trans (hb34.mono hbW3.size)
  have hv3 : IsW Any u4 oa.1 (.slice a3 oa.1.l.length c3) := any_of (h3.below hb34)
  replace hv1 := hv1.below hb34
  replace hblkA := (hb34.block _ (by omega)).trans hblkA
  obtain ⟨Bx, hB⟩ : ∃ Bx, u3.heap.size = Bx := ⟨_, rfl⟩
  rw [hB] at hU4 hblkB y0 y1 y2 y3 z0 z1 z2 z3
  have hBW : W.heap.size ≤ Bx := by have := hbW3.size; omega
  have hAB : A ≠ Bx := by omega
  obtain ⟨fA0, fA1, fA2, fA3, -⟩ := cells_of4 hblkA
  obtain ⟨fB0, fB1, fB2, fB3, -⟩ := cells_of4 hblkB
  have hSm := rsame_any hv1 hv3
  have hself : (cmpV oa.1 oa.1 == 0) = true := by rw [cmpV_self]; rfl
  have hne : (oa.2 != oa.2) = false := by simp
  rw [hself] at hSm
  clear h3 hself
  go_wp2_with fail
  refine hSm.mono ?_
  rintro e u5 ⟨rfl, hb5⟩
  clear hSm y0 y1 y2 y3 z0 z1 z2 z3 hU4 fA0 fA1 fA2 fA3 fB0 fB1 fB2 fB3 hv1 hv3
  have hs5 := hb5.size
  have hbW5 : Below W.heap.size W u5 := hbW4.trans (hb5.mono hbW4.size)
  replace hblkA := (hb5.block _ (by omega)).trans hblkA
  replace hblkB := (hb5.block _ (by omega)).trans hblkB
  have hAP : A < u5.heap.size := by omega
  have hBP : Bx < u5.heap.size := by omega
  obtain ⟨⟨p0, p1, p2, p3⟩, ⟨q0, q1, q2, q3⟩, ⟨r0, r1, r2, r3⟩⟩ := hcell u5 hbW5
  go_wp2_with fail
  refine (hHs u5 hbW5).mono ?_
  rintro e u6 ⟨rfl, hb6⟩
  have hbW6 : Below W.heap.size W u6 := hbW5.trans (hb6.mono hbW5.size)
  have hs6 := hb6.size
  replace hblkA := (hb6.block _ hAP).trans hblkA
  replace hblkB := (hb6.block _ hBP).trans hblkB
  clear p0 p1 p2 p3 q0 q1 q2 q3 r0 r1 r2 r3
  obtain ⟨⟨p0, p1, p2, p3⟩, ⟨q0, q1, q2, q3⟩, ⟨r0, r1, r2, r3⟩⟩ := hcell u6 hbW6
  clear hHs
  rw [hh1, hh2]
  have hoe2 : (oa.2 == 0) = true := by rw [← HOa.out, hoe.out]; rfl
  obtain ⟨eA0, eA1, eA2, eA3, hblkA'⟩ : ∃ eA0 eA1 eA2 eA3, u6.heap[A]? = some (.cells #[eA0, eA1, eA2, eA3] 24 (0, 0)) := ⟨_, _, _, _, hblkA⟩
  obtain ⟨eB0, eB1, eB2, eB3, hblkB'⟩ : ∃ eB0 eB1 eB2 eB3, u6.heap[Bx]? = some (.cells #[eB0, eB1, eB2, eB3] 24 (0, 0)) := ⟨_, _, _, _, hblkB⟩
  clear hblkA hblkB
  have hblkA := hblkA'
  have hblkB := hblkB'
  clear hblkA' hblkB'
  have hAP' : A < u6.heap.size := by omega
  have hBP' : Bx < u6.heap.size := by omega
  clear hAP hBP
  have hAP := hAP'
  have hBP := hBP'
  clear hAP' hBP' hbP hb5 hs5 hbW5 hb1 hs1 hbW1 hb3 hs3 hbW3 hbW4 hs4 hs2 hbW2 hA2 hne HOa
  have hbP := hbW6
  obtain ⟨op, HOp⟩ : ∃ o, Hid (putV v k x = o) := ⟨_, rfl⟩
  have hX1 : ∀ w2, Below W.heap.size W w2 → Calls Try.prog 34 #[.agg #[.int .i64 v.k, .int .i64 v.n, .string ⟨v.t.toArray⟩, .slice av v.l.length cv], .agg #[.int .i64 k.k, .int .i64 k.n, .string ⟨k.t.toArray⟩, .slice ak k.l.length ck], .agg #[.int .i64 x.k, .int .i64 x.n, .string ⟨x.t.toArray⟩, .slice ax x.l.length cx]] w2 fun r w' => OutV w2 op r w' := fun w2 hb => by rw [← HOp.out]; exact H1p w2 hb
  have hX2 : ∀ w2, Below W.heap.size W w2 → Calls Try.prog 35 #[.agg #[.int .i64 v.k, .int .i64 v.n, .string ⟨v.t.toArray⟩, .slice av v.l.length cv], .agg #[.int .i64 k.k, .int .i64 k.n, .string ⟨k.t.toArray⟩, .slice ak k.l.length ck], .agg #[.int .i64 x.k, .int .i64 x.n, .string ⟨x.t.toArray⟩, .slice ax x.l.length cx]] w2 fun r w' => OutV w2 op r w' := fun w2 hb => by rw [← HOp.out]; exact H2p w2 hb
  go_wp2_with fail
  refine (hX1 u6 hbP).mono ?_
  rintro e up1 ⟨⟨a1, c1, rfl, h1⟩, hb1⟩
  clear p0 p1 p2 p3 q0 q1 q2 q3 r0 r1 r2 r3
  have hs1 := hb1.size
  have hbW1 : Below W.heap.size W up1 := hbP.trans (hb1.mono hbP.size)
  replace hblkA : up1.heap[A]? = some (.cells #[eA0, eA1, eA2, eA3] 24 (0, 0)) := (hb1.block _ hAP).trans hblkA
  obtain ⟨y0, y1, y2, y3, z0, z1, z2, z3⟩ := cells_of4 hblkA
  obtain ⟨up2, hU2⟩ : ∃ up2, set4 up1 A (.int .i64 op.1.k) (.int .i64 op.1.n) (.string ⟨op.1.t.toArray⟩) (.slice a1 op.1.l.length c1) = up2 := ⟨_, rfl⟩
  have hs2 : up2.heap.size = up1.heap.size := by rw [← hU2, set4_size]
  have hbW2 : Below W.heap.size W up2 := by rw [← hU2]; exact below_set4 hbW1 hAW _ _ _ _
  have hv1 : IsW (From u6.heap.size) up2 op.1 (.slice a1 op.1.l.length c1) := by rw [← hU2]; exact h1.since (since_set4 (by show ¬ (u6.heap.size ≤ A); omega) _ _ _ _)
  replace hblkA : up2.heap[A]? = some (.cells #[.int .i64 op.1.k, .int .i64 op.1.n, .string ⟨op.1.t.toArray⟩, .slice a1 op.1.l.length c1] 24 (0, 0)) := by rw [← hU2]; exact set4_blk hblkA _ _ _ _
  replace hblkB : up2.heap[Bx]? = some (.cells #[eB0, eB1, eB2, eB3] 24 (0, 0)) := by rw [← hU2, set4_other hAB.symm]; exact (hb1.block _ hBP).trans hblkB
  have hA2 : A < up2.heap.size := by omega
  obtain ⟨⟨p0, p1, p2, p3⟩, ⟨q0, q1, q2, q3⟩, ⟨r0, r1, r2, r3⟩⟩ := hcell up2 hbW2
  clear h1 hX1
  go_wp2_with fail
  refine (hX2 up2 hbW2).mono ?_
  rintro e up3 ⟨⟨a3, c3, rfl, h3⟩, hb3⟩
  clear hX2 y0 y1 y2 y3 z0 z1 z2 z3 hU2
  clear p0 p1 p2 p3 q0 q1 q2 q3 r0 r1 r2 r3
  have hs3 := hb3.size
  have hbW3 : Below W.heap.size W up3 := hbW2.trans (hb3.mono hbW2.size)
  replace hblkA := (hb3.block _ hA2).trans hblkA
  replace hv1 := hv1.below hb3
  replace hblkB : up3.heap[Bx]? = some (.cells #[eB0, eB1, eB2, eB3] 24 (0, 0)) := (hb3.block _ (by omega)).trans hblkB
  obtain ⟨y0, y1, y2, y3, z0, z1, z2, z3⟩ := cells_of4 hblkB
  obtain ⟨up4, hU4⟩ : ∃ up4, set4 up3 Bx (.int .i64 op.1.k) (.int .i64 op.1.n) (.string ⟨op.1.t.toArray⟩) (.slice a3 op.1.l.length c3) = up4 := ⟨_, rfl⟩
  have hs4 : up4.heap.size = up3.heap.size := by rw [← hU4, set4_size]
  have hbW4 : Below W.heap.size W up4 := by rw [← hU4]; exact below_set4 hbW3 hBW _ _ _ _
  have hv3 : IsW Any up4 op.1 (.slice a3 op.1.l.length c3) := by rw [← hU4]; exact any_of (h3.since (since_set4 (by show ¬ (up2.heap.size ≤ Bx); omega) _ _ _ _))
  replace hv1 : IsW Any up4 op.1 (.slice a1 op.1.l.length c1) := by rw [← hU4]; exact any_of (hv1.since (since_set4 (by show ¬ (u6.heap.size ≤ Bx); omega) _ _ _ _))
  replace hblkB : up4.heap[Bx]? = some (.cells #[.int .i64 op.1.k, .int .i64 op.1.n, .string ⟨op.1.t.toArray⟩, .slice a3 op.1.l.length c3] 24 (0, 0)) := by rw [← hU4]; exact set4_blk hblkB _ _ _ _
  replace hblkA : up4.heap[A]? = some (.cells #[.int .i64 op.1.k, .int .i64 op.1.n, .string ⟨op.1.t.toArray⟩, .slice a1 op.1.l.length c1] 24 (0, 0)) := by rw [← hU4, set4_other hAB]; exact hblkA
  obtain ⟨fA0, fA1, fA2, fA3, -⟩ := cells_of4 hblkA
  obtain ⟨fB0, fB1, fB2, fB3, -⟩ := cells_of4 hblkB
  have hSm := rsame_any hv1 hv3
  have hself : (cmpV op.1 op.1 == 0) = true := by rw [cmpV_self]; rfl
  have hne : (op.2 != op.2) = false := by simp
  rw [hself] at hSm
  clear h3 hself
  go_wp2_with fail
  refine hSm.mono ?_
  rintro e up5 ⟨rfl, hb5⟩
  clear hSm y0 y1 y2 y3 z0 z1 z2 z3 hU4 fA0 fA1 fA2 fA3 fB0 fB1 fB2 fB3 hv1 hv3
  have hs5 := hb5.size
  have hbW5 : Below W.heap.size W up5 := hbW4.trans (hb5.mono hbW4.size)
  replace hblkA := (hb5.block _ (by omega)).trans hblkA
  replace hblkB := (hb5.block _ (by omega)).trans hblkB
  have hAP : A < up5.heap.size := by omega
  have hBP : Bx < up5.heap.size := by omega
  obtain ⟨⟨p0, p1, p2, p3⟩, ⟨q0, q1, q2, q3⟩, ⟨r0, r1, r2, r3⟩⟩ := hcell up5 hbW5
  obtain ⟨eA0, eA1, eA2, eA3, hblkA'⟩ : ∃ eA0 eA1 eA2 eA3, up5.heap[A]? = some (.cells #[eA0, eA1, eA2, eA3] 24 (0, 0)) := ⟨_, _, _, _, hblkA⟩
  obtain ⟨eB0, eB1, eB2, eB3, hblkB'⟩ : ∃ eB0 eB1 eB2 eB3, up5.heap[Bx]? = some (.cells #[eB0, eB1, eB2, eB3] 24 (0, 0)) := ⟨_, _, _, _, hblkB⟩
  clear hblkA hblkB
  have hblkA := hblkA'
  have hblkB := hblkB'
  clear hblkA' hblkB'
  clear hbP hb5 hs5 hb1 hs1 hbW1 hb3 hs3 hbW3 hbW4 hs4 hs2 hbW2 hA2 hne HOp hbW6 hs6 hb6
  have hbP := hbW5
  clear hbW5
  obtain ⟨od, HOd⟩ : ∃ o, Hid (delV v k = o) := ⟨_, rfl⟩
  have hX1 : ∀ w2, Below W.heap.size W w2 → Calls Try.prog 36 #[.agg #[.int .i64 v.k, .int .i64 v.n, .string ⟨v.t.toArray⟩, .slice av v.l.length cv], .agg #[.int .i64 k.k, .int .i64 k.n, .string ⟨k.t.toArray⟩, .slice ak k.l.length ck]] w2 fun r w' => OutV w2 od r w' := fun w2 hb => by rw [← HOd.out]; exact H1d w2 hb
  have hX2 : ∀ w2, Below W.heap.size W w2 → Calls Try.prog 37 #[.agg #[.int .i64 v.k, .int .i64 v.n, .string ⟨v.t.toArray⟩, .slice av v.l.length cv], .agg #[.int .i64 k.k, .int .i64 k.n, .string ⟨k.t.toArray⟩, .slice ak k.l.length ck]] w2 fun r w' => OutV w2 od r w' := fun w2 hb => by rw [← HOd.out]; exact H2d w2 hb
  go_wp2_with fail
  refine (hX1 up5 hbP).mono ?_
  rintro e ud1 ⟨⟨a1, c1, rfl, h1⟩, hb1⟩
  clear p0 p1 p2 p3 q0 q1 q2 q3 r0 r1 r2 r3
  have hs1 := hb1.size
  have hbW1 : Below W.heap.size W ud1 := hbP.trans (hb1.mono hbP.size)
  replace hblkA : ud1.heap[A]? = some (.cells #[eA0, eA1, eA2, eA3] 24 (0, 0)) := (hb1.block _ hAP).trans hblkA
  obtain ⟨y0, y1, y2, y3, z0, z1, z2, z3⟩ := cells_of4 hblkA
  obtain ⟨ud2, hU2⟩ : ∃ ud2, set4 ud1 A (.int .i64 od.1.k) (.int .i64 od.1.n) (.string ⟨od.1.t.toArray⟩) (.slice a1 od.1.l.length c1) = ud2 := ⟨_, rfl⟩
  have hs2 : ud2.heap.size = ud1.heap.size := by rw [← hU2, set4_size]
  have hbW2 : Below W.heap.size W ud2 := by rw [← hU2]; exact below_set4 hbW1 hAW _ _ _ _
  have hv1 : IsW (From up5.heap.size) ud2 od.1 (.slice a1 od.1.l.length c1) := by rw [← hU2]; exact h1.since (since_set4 (by show ¬ (up5.heap.size ≤ A); omega) _ _ _ _)
  replace hblkA : ud2.heap[A]? = some (.cells #[.int .i64 od.1.k, .int .i64 od.1.n, .string ⟨od.1.t.toArray⟩, .slice a1 od.1.l.length c1] 24 (0, 0)) := by rw [← hU2]; exact set4_blk hblkA _ _ _ _
  replace hblkB : ud2.heap[Bx]? = some (.cells #[eB0, eB1, eB2, eB3] 24 (0, 0)) := by rw [← hU2, set4_other hAB.symm]; exact (hb1.block _ hBP).trans hblkB
  have hA2 : A < ud2.heap.size := by omega
  obtain ⟨⟨p0, p1, p2, p3⟩, ⟨q0, q1, q2, q3⟩, ⟨r0, r1, r2, r3⟩⟩ := hcell ud2 hbW2
  clear h1 hX1
  go_wp2_with fail
  refine (hX2 ud2 hbW2).mono ?_
  rintro e ud3 ⟨⟨a3, c3, rfl, h3⟩, hb3⟩
  clear hX2 y0 y1 y2 y3 z0 z1 z2 z3 hU2
  clear p0 p1 p2 p3 q0 q1 q2 q3 r0 r1 r2 r3
  have hs3 := hb3.size
  have hbW3 : Below W.heap.size W ud3 := hbW2.trans (hb3.mono hbW2.size)
  replace hblkA := (hb3.block _ hA2).trans hblkA
  replace hv1 := hv1.below hb3
  replace hblkB : ud3.heap[Bx]? = some (.cells #[eB0, eB1, eB2, eB3] 24 (0, 0)) := (hb3.block _ (by omega)).trans hblkB
  obtain ⟨y0, y1, y2, y3, z0, z1, z2, z3⟩ := cells_of4 hblkB
  obtain ⟨ud4, hU4⟩ : ∃ ud4, set4 ud3 Bx (.int .i64 od.1.k) (.int .i64 od.1.n) (.string ⟨od.1.t.toArray⟩) (.slice a3 od.1.l.length c3) = ud4 := ⟨_, rfl⟩
  have hs4 : ud4.heap.size = ud3.heap.size := by rw [← hU4, set4_size]
  have hbW4 : Below W.heap.size W ud4 := by rw [← hU4]; exact below_set4 hbW3 hBW _ _ _ _
  have hv3 : IsW Any ud4 od.1 (.slice a3 od.1.l.length c3) := by rw [← hU4]; exact any_of (h3.since (since_set4 (by show ¬ (ud2.heap.size ≤ Bx); omega) _ _ _ _))
  replace hv1 : IsW Any ud4 od.1 (.slice a1 od.1.l.length c1) := by rw [← hU4]; exact any_of (hv1.since (since_set4 (by show ¬ (up5.heap.size ≤ Bx); omega) _ _ _ _))
  replace hblkB : ud4.heap[Bx]? = some (.cells #[.int .i64 od.1.k, .int .i64 od.1.n, .string ⟨od.1.t.toArray⟩, .slice a3 od.1.l.length c3] 24 (0, 0)) := by rw [← hU4]; exact set4_blk hblkB _ _ _ _
  replace hblkA : ud4.heap[A]? = some (.cells #[.int .i64 od.1.k, .int .i64 od.1.n, .string ⟨od.1.t.toArray⟩, .slice a1 od.1.l.length c1] 24 (0, 0)) := by rw [← hU4, set4_other hAB]; exact hblkA
  obtain ⟨fA0, fA1, fA2, fA3, -⟩ := cells_of4 hblkA
  obtain ⟨fB0, fB1, fB2, fB3, -⟩ := cells_of4 hblkB
  have hSm := rsame_any hv1 hv3
  have hself : (cmpV od.1 od.1 == 0) = true := by rw [cmpV_self]; rfl
  have hne : (od.2 != od.2) = false := by simp
  rw [hself] at hSm
  clear h3 hself
  go_wp2_with fail
  refine hSm.mono ?_
  rintro e ud5 ⟨rfl, hb5⟩
  clear hSm y0 y1 y2 y3 z0 z1 z2 z3 hU4 fA0 fA1 fA2 fA3 fB0 fB1 fB2 fB3 hv1 hv3
  have hs5 := hb5.size
  have hbW5 : Below W.heap.size W ud5 := hbW4.trans (hb5.mono hbW4.size)
  replace hblkA := (hb5.block _ (by omega)).trans hblkA
  replace hblkB := (hb5.block _ (by omega)).trans hblkB
  have hAP : A < ud5.heap.size := by omega
  have hBP : Bx < ud5.heap.size := by omega
  obtain ⟨⟨p0, p1, p2, p3⟩, ⟨q0, q1, q2, q3⟩, ⟨r0, r1, r2, r3⟩⟩ := hcell ud5 hbW5
  obtain ⟨eA0, eA1, eA2, eA3, hblkA'⟩ : ∃ eA0 eA1 eA2 eA3, ud5.heap[A]? = some (.cells #[eA0, eA1, eA2, eA3] 24 (0, 0)) := ⟨_, _, _, _, hblkA⟩
  obtain ⟨eB0, eB1, eB2, eB3, hblkB'⟩ : ∃ eB0 eB1 eB2 eB3, ud5.heap[Bx]? = some (.cells #[eB0, eB1, eB2, eB3] 24 (0, 0)) := ⟨_, _, _, _, hblkB⟩
  clear hblkA hblkB
  have hblkA := hblkA'
  have hblkB := hblkB'
  clear hblkA' hblkB'
  clear hbP hb5 hs5 hb1 hs1 hbW1 hb3 hs3 hbW3 hbW4 hs4 hs2 hbW2 hA2 hne HOd
  have hbP := hbW5
  clear hbW5
  obtain ⟨ou, HOu⟩ : ∃ o, Hid (pushV v x = o) := ⟨_, rfl⟩
  have hX1 : ∀ w2, Below W.heap.size W w2 → Calls Try.prog 38 #[.agg #[.int .i64 v.k, .int .i64 v.n, .string ⟨v.t.toArray⟩, .slice av v.l.length cv], .agg #[.int .i64 x.k, .int .i64 x.n, .string ⟨x.t.toArray⟩, .slice ax x.l.length cx]] w2 fun r w' => OutV w2 ou r w' := fun w2 hb => by rw [← HOu.out]; exact H1u w2 hb
  have hX2 : ∀ w2, Below W.heap.size W w2 → Calls Try.prog 39 #[.agg #[.int .i64 v.k, .int .i64 v.n, .string ⟨v.t.toArray⟩, .slice av v.l.length cv], .agg #[.int .i64 x.k, .int .i64 x.n, .string ⟨x.t.toArray⟩, .slice ax x.l.length cx]] w2 fun r w' => OutV w2 ou r w' := fun w2 hb => by rw [← HOu.out]; exact H2u w2 hb
  go_wp2_with fail
  refine (hX1 ud5 hbP).mono ?_
  rintro e uu1 ⟨⟨a1, c1, rfl, h1⟩, hb1⟩
  clear p0 p1 p2 p3 q0 q1 q2 q3 r0 r1 r2 r3
  have hs1 := hb1.size
  have hbW1 : Below W.heap.size W uu1 := hbP.trans (hb1.mono hbP.size)
  replace hblkA : uu1.heap[A]? = some (.cells #[eA0, eA1, eA2, eA3] 24 (0, 0)) := (hb1.block _ hAP).trans hblkA
  obtain ⟨y0, y1, y2, y3, z0, z1, z2, z3⟩ := cells_of4 hblkA
  obtain ⟨uu2, hU2⟩ : ∃ uu2, set4 uu1 A (.int .i64 ou.1.k) (.int .i64 ou.1.n) (.string ⟨ou.1.t.toArray⟩) (.slice a1 ou.1.l.length c1) = uu2 := ⟨_, rfl⟩
  have hs2 : uu2.heap.size = uu1.heap.size := by rw [← hU2, set4_size]
  have hbW2 : Below W.heap.size W uu2 := by rw [← hU2]; exact below_set4 hbW1 hAW _ _ _ _
  have hv1 : IsW (From ud5.heap.size) uu2 ou.1 (.slice a1 ou.1.l.length c1) := by rw [← hU2]; exact h1.since (since_set4 (by show ¬ (ud5.heap.size ≤ A); omega) _ _ _ _)
  replace hblkA : uu2.heap[A]? = some (.cells #[.int .i64 ou.1.k, .int .i64 ou.1.n, .string ⟨ou.1.t.toArray⟩, .slice a1 ou.1.l.length c1] 24 (0, 0)) := by rw [← hU2]; exact set4_blk hblkA _ _ _ _
  replace hblkB : uu2.heap[Bx]? = some (.cells #[eB0, eB1, eB2, eB3] 24 (0, 0)) := by rw [← hU2, set4_other hAB.symm]; exact (hb1.block _ hBP).trans hblkB
  have hA2 : A < uu2.heap.size := by omega
  obtain ⟨⟨p0, p1, p2, p3⟩, ⟨q0, q1, q2, q3⟩, ⟨r0, r1, r2, r3⟩⟩ := hcell uu2 hbW2
  clear h1 hX1
  go_wp2_with fail
  refine (hX2 uu2 hbW2).mono ?_
  rintro e uu3 ⟨⟨a3, c3, rfl, h3⟩, hb3⟩
  clear hX2 y0 y1 y2 y3 z0 z1 z2 z3 hU2
  clear p0 p1 p2 p3 q0 q1 q2 q3 r0 r1 r2 r3
  have hs3 := hb3.size
  have hbW3 : Below W.heap.size W uu3 := hbW2.trans (hb3.mono hbW2.size)
  replace hblkA := (hb3.block _ hA2).trans hblkA
  replace hv1 := hv1.below hb3
  replace hblkB : uu3.heap[Bx]? = some (.cells #[eB0, eB1, eB2, eB3] 24 (0, 0)) := (hb3.block _ (by omega)).trans hblkB
  obtain ⟨y0, y1, y2, y3, z0, z1, z2, z3⟩ := cells_of4 hblkB
  obtain ⟨uu4, hU4⟩ : ∃ uu4, set4 uu3 Bx (.int .i64 ou.1.k) (.int .i64 ou.1.n) (.string ⟨ou.1.t.toArray⟩) (.slice a3 ou.1.l.length c3) = uu4 := ⟨_, rfl⟩
  have hs4 : uu4.heap.size = uu3.heap.size := by rw [← hU4, set4_size]
  have hbW4 : Below W.heap.size W uu4 := by rw [← hU4]; exact below_set4 hbW3 hBW _ _ _ _
  have hv3 : IsW Any uu4 ou.1 (.slice a3 ou.1.l.length c3) := by rw [← hU4]; exact any_of (h3.since (since_set4 (by show ¬ (uu2.heap.size ≤ Bx); omega) _ _ _ _))
  replace hv1 : IsW Any uu4 ou.1 (.slice a1 ou.1.l.length c1) := by rw [← hU4]; exact any_of (hv1.since (since_set4 (by show ¬ (ud5.heap.size ≤ Bx); omega) _ _ _ _))
  replace hblkB : uu4.heap[Bx]? = some (.cells #[.int .i64 ou.1.k, .int .i64 ou.1.n, .string ⟨ou.1.t.toArray⟩, .slice a3 ou.1.l.length c3] 24 (0, 0)) := by rw [← hU4]; exact set4_blk hblkB _ _ _ _
  replace hblkA : uu4.heap[A]? = some (.cells #[.int .i64 ou.1.k, .int .i64 ou.1.n, .string ⟨ou.1.t.toArray⟩, .slice a1 ou.1.l.length c1] 24 (0, 0)) := by rw [← hU4, set4_other hAB]; exact hblkA
  obtain ⟨fA0, fA1, fA2, fA3, -⟩ := cells_of4 hblkA
  obtain ⟨fB0, fB1, fB2, fB3, -⟩ := cells_of4 hblkB
  have hSm := rsame_any hv1 hv3
  have hself : (cmpV ou.1 ou.1 == 0) = true := by rw [cmpV_self]; rfl
  have hne : (ou.2 != ou.2) = false := by simp
  rw [hself] at hSm
  clear h3 hself
  go_wp2_with fail
  refine hSm.mono ?_
  rintro e uu5 ⟨rfl, hb5⟩
  clear hSm y0 y1 y2 y3 z0 z1 z2 z3 hU4 fA0 fA1 fA2 fA3 fB0 fB1 fB2 fB3 hv1 hv3
  have hs5 := hb5.size
  have hbW5 : Below W.heap.size W uu5 := hbW4.trans (hb5.mono hbW4.size)
  replace hblkA := (hb5.block _ (by omega)).trans hblkA
  replace hblkB := (hb5.block _ (by omega)).trans hblkB
  have hAP : A < uu5.heap.size := by omega
  have hBP : Bx < uu5.heap.size := by omega
  go_wp2
  go_ret
  exact ⟨ret_bool (by simp), hBf _ hbW5⟩
set_option maxRecDepth 100000 in
set_option maxHeartbeats 8000000 in
theorem does_miss {v k x : V} {av ak ax : Option Addr} {cv ck cx : Nat} {w : World} (hv : IsW Any w v (.slice av v.l.length cv)) (hk : IsW Any w k (.slice ak k.l.length ck)) (hx : IsW Any w x (.slice ax x.l.length cx)) (zv : SzV v) (zk : SzV k) (zx : SzV x) (h5 : v.k = 5) (hh : hit k v.l = false) :
    Calls Try.prog 5 #[.agg #[.int .i64 v.k, .int .i64 v.n, .string ⟨v.t.toArray⟩, .slice av v.l.length cv], .agg #[.int .i64 k.k, .int .i64 k.n, .string ⟨k.t.toArray⟩, .slice ak k.l.length ck], .agg #[.int .i64 x.k, .int .i64 x.n, .string ⟨x.t.toArray⟩, .slice ax x.l.length cx]] w fun r w' => r = .returned (.bool true) ∧ Below w.heap.size w w' := by
  obtain ⟨w0, w1, W, hW, hW1, hW2, hs0, hs1, hs2, hBW, hcell⟩ := boxed3 w v (.slice av v.l.length cv) k (.slice ak k.l.length ck) x (.slice ax x.l.length cx)
  replace hv := hv.below hBW
  replace hk := hk.below hBW
  replace hx := hx.below hBW
  have hWk := wakes_any W
  have hL : ∀ (u : V) (au : Option Addr) (cu : Nat) (w2 : World), Below W.heap.size W w2 → IsW Any W u (.slice au u.l.length cu) → SzV u → Calls Try.prog 10 #[.agg #[.int .i64 u.k, .int .i64 u.n, .string ⟨u.t.toArray⟩, .slice au u.l.length cu]] w2 fun r w' => r = .returned (.bool (decide (65536 < wt u))) ∧ Below W.heap.size W w' := fun u au cu w2 hb2 hu hz => (large_any hz (hu.below hb2)).mono fun e w' ⟨h1, h2⟩ => ⟨h1, hb2.trans (h2.mono hb2.size)⟩
  have hBf : ∀ w', Below W.heap.size W w' → Below w.heap.size w w' := fun w' h => hBW.trans (h.mono hBW.size)
  have hwts := wt_eq v
  have hlv := wts_len v.l
  have hk5 : (v.k != 5) = false := by simp [h5]
  have hk5' : (v.k == 5) = true := by simp [h5]
  have hh1 : (decide (v.k = 5) && hit k v.l) = false := by simp [h5, hh]
  have hh2 : (if v.k = 5 then (0 : Int) else 40) = 0 := if_pos h5
  have hoe : Hid ((atV v k).2 = 52) := by show _ = _; rw [at_err h5, if_neg (by rw [hh]; simp)]
  clear h5 hh
  go_enter Try.func5, Try.ntmps5
  go_wp2_with fail
  refine hWk.mono ?_
  rintro e w3 ⟨rfl, hbX3⟩
  obtain ⟨⟨p0, p1, p2, p3⟩, ⟨q0, q1, q2, q3⟩, ⟨r0, r1, r2, r3⟩⟩ := hcell w3 hbX3
  clear hW hW1 hW2 hWk
  go_wp2_with fail
  refine (hL v av cv w3 hbX3 hv zv).mono ?_
  rintro e w4 ⟨rfl, hbX4⟩
  clear p0 p1 p2 p3 q0 q1 q2 q3 r0 r1 r2 r3
  by_cases hlv : 65536 < wt v
  · rw [decide_eq_true hlv]
    go_wp2
    go_ret
    exact ⟨rfl, hBf _ hbX4⟩
  rw [decide_eq_false hlv]
  obtain ⟨⟨p0, p1, p2, p3⟩, ⟨q0, q1, q2, q3⟩, ⟨r0, r1, r2, r3⟩⟩ := hcell w4 hbX4
  go_wp2_with fail
  refine (hL k ak ck w4 hbX4 hk zk).mono ?_
  rintro e w5 ⟨rfl, hbX5⟩
  clear p0 p1 p2 p3 q0 q1 q2 q3 r0 r1 r2 r3
  by_cases hlk : 65536 < wt k
  · rw [decide_eq_true hlk]
    go_wp2
    go_ret
    exact ⟨rfl, hBf _ hbX5⟩
  rw [decide_eq_false hlk]
  obtain ⟨⟨p0, p1, p2, p3⟩, ⟨q0, q1, q2, q3⟩, ⟨r0, r1, r2, r3⟩⟩ := hcell w5 hbX5
  go_wp2_with fail
  refine (hL x ax cx w5 hbX5 hx zx).mono ?_
  rintro e w6 ⟨rfl, hbX6⟩
  clear p0 p1 p2 p3 q0 q1 q2 q3 r0 r1 r2 r3
  by_cases hlx : 65536 < wt x
  · rw [decide_eq_true hlx]
    go_wp2
    go_ret
    exact ⟨rfl, hBf _ hbX6⟩
  rw [decide_eq_false hlx]
  obtain ⟨⟨p0, p1, p2, p3⟩, ⟨q0, q1, q2, q3⟩, ⟨r0, r1, r2, r3⟩⟩ := hcell w6 hbX6
  clear hL
  have hTd := tidy_any (hv.below hbX6) (by omega)
  go_wp2_with fail
  refine hTd.mono ?_
  rintro e w7 ⟨⟨b, rfl, hbT⟩, hb7⟩
  have hbX7 : Below W.heap.size W w7 := hbX6.trans (hb7.mono hbX6.size)
  clear hTd hb7
  clear p0 p1 p2 p3 q0 q1 q2 q3 r0 r1 r2 r3
  cases b
  · go_wp2
    go_ret
    exact ⟨rfl, hBf _ hbX7⟩
  have hT : Hid (Tidy v) := hbT rfl
  clear hbT
  have hLn : ∀ w2, Below W.heap.size W w2 → Calls Try.prog 29 #[.agg #[.int .i64 v.k, .int .i64 v.n, .string ⟨v.t.toArray⟩, .slice av v.l.length cv]] w2 fun r w' => r = .returned (.tuple #[.int .i64 ((lenV v).1 : Nat), .int .i64 (lenV v).2]) ∧ Below w2.heap.size w2 w' := fun w2 hb => len_any (hv.below hb)
  have hRLn : ∀ w2, Below W.heap.size W w2 → Calls Try.prog 30 #[.agg #[.int .i64 v.k, .int .i64 v.n, .string ⟨v.t.toArray⟩, .slice av v.l.length cv]] w2 fun r w' => r = .returned (.tuple #[.int .i64 ((lenV v).1 : Nat), .int .i64 (lenV v).2]) ∧ Below w2.heap.size w2 w' := fun w2 hb => rlen_any (hv.below hb)
  have H1a : ∀ w2, Below W.heap.size W w2 → Calls Try.prog 31 #[.agg #[.int .i64 v.k, .int .i64 v.n, .string ⟨v.t.toArray⟩, .slice av v.l.length cv], .agg #[.int .i64 k.k, .int .i64 k.n, .string ⟨k.t.toArray⟩, .slice ak k.l.length ck]] w2 fun r w' => OutV w2 (atV v k) r w' := fun w2 hb => at_any (hv.below hb) (hk.below hb) (by omega) hT.out
  have H2a : ∀ w2, Below W.heap.size W w2 → Calls Try.prog 32 #[.agg #[.int .i64 v.k, .int .i64 v.n, .string ⟨v.t.toArray⟩, .slice av v.l.length cv], .agg #[.int .i64 k.k, .int .i64 k.n, .string ⟨k.t.toArray⟩, .slice ak k.l.length ck]] w2 fun r w' => OutV w2 (atV v k) r w' := fun w2 hb => rat_any (hv.below hb) (hk.below hb) (by omega) hT.out
  have hHs : ∀ w2, Below W.heap.size W w2 → Calls Try.prog 33 #[.agg #[.int .i64 v.k, .int .i64 v.n, .string ⟨v.t.toArray⟩, .slice av v.l.length cv], .agg #[.int .i64 k.k, .int .i64 k.n, .string ⟨k.t.toArray⟩, .slice ak k.l.length ck]] w2 fun r w' => r = .returned (.tuple #[.bool (decide (v.k = 5) && hit k v.l), .int .i64 (if v.k = 5 then 0 else 40)]) ∧ Below w2.heap.size w2 w' := fun w2 hb => has_any (hv.below hb) (hk.below hb) (by omega) hT.out
  have H1p : ∀ w2, Below W.heap.size W w2 → Calls Try.prog 34 #[.agg #[.int .i64 v.k, .int .i64 v.n, .string ⟨v.t.toArray⟩, .slice av v.l.length cv], .agg #[.int .i64 k.k, .int .i64 k.n, .string ⟨k.t.toArray⟩, .slice ak k.l.length ck], .agg #[.int .i64 x.k, .int .i64 x.n, .string ⟨x.t.toArray⟩, .slice ax x.l.length cx]] w2 fun r w' => OutV w2 (putV v k x) r w' := fun w2 hb => put_any (hv.below hb) (hk.below hb) (hx.below hb) (by omega) (by omega) (by omega) hT.out
  have H2p : ∀ w2, Below W.heap.size W w2 → Calls Try.prog 35 #[.agg #[.int .i64 v.k, .int .i64 v.n, .string ⟨v.t.toArray⟩, .slice av v.l.length cv], .agg #[.int .i64 k.k, .int .i64 k.n, .string ⟨k.t.toArray⟩, .slice ak k.l.length ck], .agg #[.int .i64 x.k, .int .i64 x.n, .string ⟨x.t.toArray⟩, .slice ax x.l.length cx]] w2 fun r w' => OutV w2 (putV v k x) r w' := fun w2 hb => rput_any (hv.below hb) (hk.below hb) (hx.below hb) (by omega) (by omega) (by omega) hT.out
  have H1d : ∀ w2, Below W.heap.size W w2 → Calls Try.prog 36 #[.agg #[.int .i64 v.k, .int .i64 v.n, .string ⟨v.t.toArray⟩, .slice av v.l.length cv], .agg #[.int .i64 k.k, .int .i64 k.n, .string ⟨k.t.toArray⟩, .slice ak k.l.length ck]] w2 fun r w' => OutV w2 (delV v k) r w' := fun w2 hb => del_any (hv.below hb) (hk.below hb) (by omega) hT.out
  have H2d : ∀ w2, Below W.heap.size W w2 → Calls Try.prog 37 #[.agg #[.int .i64 v.k, .int .i64 v.n, .string ⟨v.t.toArray⟩, .slice av v.l.length cv], .agg #[.int .i64 k.k, .int .i64 k.n, .string ⟨k.t.toArray⟩, .slice ak k.l.length ck]] w2 fun r w' => OutV w2 (delV v k) r w' := fun w2 hb => rdel_any (hv.below hb) (hk.below hb) (by omega) hT.out
  have H1u : ∀ w2, Below W.heap.size W w2 → Calls Try.prog 38 #[.agg #[.int .i64 v.k, .int .i64 v.n, .string ⟨v.t.toArray⟩, .slice av v.l.length cv], .agg #[.int .i64 x.k, .int .i64 x.n, .string ⟨x.t.toArray⟩, .slice ax x.l.length cx]] w2 fun r w' => OutV w2 (pushV v x) r w' := fun w2 hb => push_any (hv.below hb) (hx.below hb) (by omega) (by omega)
  have H2u : ∀ w2, Below W.heap.size W w2 → Calls Try.prog 39 #[.agg #[.int .i64 v.k, .int .i64 v.n, .string ⟨v.t.toArray⟩, .slice av v.l.length cv], .agg #[.int .i64 x.k, .int .i64 x.n, .string ⟨x.t.toArray⟩, .slice ax x.l.length cx]] w2 fun r w' => OutV w2 (pushV v x) r w' := fun w2 hb => rpush_any (hv.below hb) (hx.below hb) (by omega) (by omega)
  clear hv hk hx zv zk zx hlv hlk hlx hwts
  obtain ⟨⟨p0, p1, p2, p3⟩, ⟨q0, q1, q2, q3⟩, ⟨r0, r1, r2, r3⟩⟩ := hcell w7 hbX7
  generalize lenV v = ln at *
  have hln : ((ln.1 : Int) != (ln.1 : Int)) = false := by simp
  have hln2 : (ln.2 != ln.2) = false := by simp
  go_wp2_with fail
  refine (hLn w7 hbX7).mono ?_
  rintro e w8 ⟨rfl, hb8⟩
  have hbX8 : Below W.heap.size W w8 := hbX7.trans (hb8.mono hbX7.size)
  clear p0 p1 p2 p3 q0 q1 q2 q3 r0 r1 r2 r3
  obtain ⟨⟨p0, p1, p2, p3⟩, ⟨q0, q1, q2, q3⟩, ⟨r0, r1, r2, r3⟩⟩ := hcell w8 hbX8
  clear hLn hb8
  go_wp2_with fail
  refine (hRLn w8 hbX8).mono ?_
  rintro e w9 ⟨rfl, hb9⟩
  have hbP : Below W.heap.size W w9 := hbX8.trans (hb9.mono hbX8.size)
  clear p0 p1 p2 p3 q0 q1 q2 q3 r0 r1 r2 r3
  obtain ⟨⟨p0, p1, p2, p3⟩, ⟨q0, q1, q2, q3⟩, ⟨r0, r1, r2, r3⟩⟩ := hcell w9 hbP
  clear hRLn hb9 hbX8 hbX7 hbX6 hbX5 hbX4 hbX3
  obtain ⟨oa, HOa⟩ : ∃ o, Hid (atV v k = o) := ⟨_, rfl⟩
  have hX1 : ∀ w2, Below W.heap.size W w2 → Calls Try.prog 31 #[.agg #[.int .i64 v.k, .int .i64 v.n, .string ⟨v.t.toArray⟩, .slice av v.l.length cv], .agg #[.int .i64 k.k, .int .i64 k.n, .string ⟨k.t.toArray⟩, .slice ak k.l.length ck]] w2 fun r w' => OutV w2 oa r w' := fun w2 hb => by rw [← HOa.out]; exact H1a w2 hb
  have hX2 : ∀ w2, Below W.heap.size W w2 → Calls Try.prog 32 #[.agg #[.int .i64 v.k, .int .i64 v.n, .string ⟨v.t.toArray⟩, .slice av v.l.length cv], .agg #[.int .i64 k.k, .int .i64 k.n, .string ⟨k.t.toArray⟩, .slice ak k.l.length ck]] w2 fun r w' => OutV w2 oa r w' := fun w2 hb => by rw [← HOa.out]; exact H2a w2 hb
  go_wp2_with fail
  refine (hX1 w9 hbP).mono ?_
  rintro e u1 ⟨⟨a1, c1, rfl, h1⟩, hb1⟩
  clear p0 p1 p2 p3 q0 q1 q2 q3 r0 r1 r2 r3
  have hs1 := hb1.size
  have hbW1 : Below W.heap.size W u1 := hbP.trans (hb1.mono hbP.size)
  obtain ⟨uz, u2, hUz, hU2, hb12, hs2, hsz2, hblkA, ⟨y0, y1, y2, y3⟩, ⟨z0, z1, z2, z3⟩⟩ := rbox_set u1 (.int .i64 oa.1.k) (.int .i64 oa.1.n) (.string ⟨oa.1.t.toArray⟩) (.slice a1 oa.1.l.length c1)
  have hbW2 : Below W.heap.size W u2 := hbW1.trans (hb12.mono hbW1.size)
  have hv1 : IsW Any u2 oa.1 (.slice a1 oa.1.l.length c1) := any_of (h1.below hb12)
  obtain ⟨A, hA⟩ : ∃ A, u1.heap.size = A := ⟨_, rfl⟩
  rw [hA] at hU2 hblkA y0 y1 y2 y3 z0 z1 z2 z3
  have hAW : W.heap.size ≤ A := by have := hbW1.size; omega
  have hA2 : A < u2.heap.size := by omega
  obtain ⟨⟨p0, p1, p2, p3⟩, ⟨q0, q1, q2, q3⟩, ⟨r0, r1, r2, r3⟩⟩ := hcell u2 hbW2
  clear h1 hX1
  go_wp2_with fail
  refine (hX2 u2 hbW2).mono ?_
  rintro e u3 ⟨⟨a3, c3, rfl, h3⟩, hb3⟩
  clear hX2 y0 y1 y2 y3 z0 z1 z2 z3 hU2
  clear p0 p1 p2 p3 q0 q1 q2 q3 r0 r1 r2 r3
  have hs3 := hb3.size
  have hbW3 : Below W.heap.size W u3 := hbW2.trans (hb3.mono hbW2.size)
  replace hblkA := (hb3.block _ hA2).trans hblkA
  replace hv1 := hv1.below hb3
  obtain ⟨uy, u4, hUy, hU4, hb34, hs4, hsz4, hblkB, ⟨y0, y1, y2, y3⟩, ⟨z0, z1, z2, z3⟩⟩ := rbox_set u3 (.int .i64 oa.1.k) (.int .i64 oa.1.n) (.string ⟨oa.1.t.toArray⟩) (.slice a3 oa.1.l.length c3)
  have hbW4 : Below W.heap.size W u4 := hbW3.trans (hb34.mono hbW3.size)
  have hv3 : IsW Any u4 oa.1 (.slice a3 oa.1.l.length c3) := any_of (h3.below hb34)
  replace hv1 := hv1.below hb34
  replace hblkA := (hb34.block _ (by omega)).trans hblkA
  obtain ⟨Bx, hB⟩ : ∃ Bx, u3.heap.size = Bx := ⟨_, rfl⟩
  rw [hB] at hU4 hblkB y0 y1 y2 y3 z0 z1 z2 z3
  have hBW : W.heap.size ≤ Bx := by have := hbW3.size; omega
  have hAB : A ≠ Bx := by omega
  obtain ⟨fA0, fA1, fA2, fA3, -⟩ := cells_of4 hblkA
  obtain ⟨fB0, fB1, fB2, fB3, -⟩ := cells_of4 hblkB
  have hSm := rsame_any hv1 hv3
  have hself : (cmpV oa.1 oa.1 == 0) = true := by rw [cmpV_self]; rfl
  have hne : (oa.2 != oa.2) = false := by simp
  rw [hself] at hSm
  clear h3 hself
  go_wp2_with fail
  refine hSm.mono ?_
  rintro e u5 ⟨rfl, hb5⟩
  clear hSm y0 y1 y2 y3 z0 z1 z2 z3 hU4 fA0 fA1 fA2 fA3 fB0 fB1 fB2 fB3 hv1 hv3
  have hs5 := hb5.size
  have hbW5 : Below W.heap.size W u5 := hbW4.trans (hb5.mono hbW4.size)
  replace hblkA := (hb5.block _ (by omega)).trans hblkA
  replace hblkB := (hb5.block _ (by omega)).trans hblkB
  have hAP : A < u5.heap.size := by omega
  have hBP : Bx < u5.heap.size := by omega
  obtain ⟨⟨p0, p1, p2, p3⟩, ⟨q0, q1, q2, q3⟩, ⟨r0, r1, r2, r3⟩⟩ := hcell u5 hbW5
  go_wp2_with fail
  refine (hHs u5 hbW5).mono ?_
  rintro e u6 ⟨rfl, hb6⟩
  have hbW6 : Below W.heap.size W u6 := hbW5.trans (hb6.mono hbW5.size)
  have hs6 := hb6.size
  replace hblkA := (hb6.block _ hAP).trans hblkA
  replace hblkB := (hb6.block _ hBP).trans hblkB
  clear p0 p1 p2 p3 q0 q1 q2 q3 r0 r1 r2 r3
  obtain ⟨⟨p0, p1, p2, p3⟩, ⟨q0, q1, q2, q3⟩, ⟨r0, r1, r2, r3⟩⟩ := hcell u6 hbW6
  clear hHs
  rw [hh1, hh2]
  have hoe2 : (oa.2 == 0) = false := by rw [← HOa.out, hoe.out]; rfl
  obtain ⟨eA0, eA1, eA2, eA3, hblkA'⟩ : ∃ eA0 eA1 eA2 eA3, u6.heap[A]? = some (.cells #[eA0, eA1, eA2, eA3] 24 (0, 0)) := ⟨_, _, _, _, hblkA⟩
  obtain ⟨eB0, eB1, eB2, eB3, hblkB'⟩ : ∃ eB0 eB1 eB2 eB3, u6.heap[Bx]? = some (.cells #[eB0, eB1, eB2, eB3] 24 (0, 0)) := ⟨_, _, _, _, hblkB⟩
  clear hblkA hblkB
  have hblkA := hblkA'
  have hblkB := hblkB'
  clear hblkA' hblkB'
  have hAP' : A < u6.heap.size := by omega
  have hBP' : Bx < u6.heap.size := by omega
  clear hAP hBP
  have hAP := hAP'
  have hBP := hBP'
  clear hAP' hBP' hbP hb5 hs5 hbW5 hb1 hs1 hbW1 hb3 hs3 hbW3 hbW4 hs4 hs2 hbW2 hA2 hne HOa
  have hbP := hbW6
  obtain ⟨op, HOp⟩ : ∃ o, Hid (putV v k x = o) := ⟨_, rfl⟩
  have hX1 : ∀ w2, Below W.heap.size W w2 → Calls Try.prog 34 #[.agg #[.int .i64 v.k, .int .i64 v.n, .string ⟨v.t.toArray⟩, .slice av v.l.length cv], .agg #[.int .i64 k.k, .int .i64 k.n, .string ⟨k.t.toArray⟩, .slice ak k.l.length ck], .agg #[.int .i64 x.k, .int .i64 x.n, .string ⟨x.t.toArray⟩, .slice ax x.l.length cx]] w2 fun r w' => OutV w2 op r w' := fun w2 hb => by rw [← HOp.out]; exact H1p w2 hb
  have hX2 : ∀ w2, Below W.heap.size W w2 → Calls Try.prog 35 #[.agg #[.int .i64 v.k, .int .i64 v.n, .string ⟨v.t.toArray⟩, .slice av v.l.length cv], .agg #[.int .i64 k.k, .int .i64 k.n, .string ⟨k.t.toArray⟩, .slice ak k.l.length ck], .agg #[.int .i64 x.k, .int .i64 x.n, .string ⟨x.t.toArray⟩, .slice ax x.l.length cx]] w2 fun r w' => OutV w2 op r w' := fun w2 hb => by rw [← HOp.out]; exact H2p w2 hb
  go_wp2_with fail
  refine (hX1 u6 hbP).mono ?_
  rintro e up1 ⟨⟨a1, c1, rfl, h1⟩, hb1⟩
  clear p0 p1 p2 p3 q0 q1 q2 q3 r0 r1 r2 r3
  have hs1 := hb1.size
  have hbW1 : Below W.heap.size W up1 := hbP.trans (hb1.mono hbP.size)
  replace hblkA : up1.heap[A]? = some (.cells #[eA0, eA1, eA2, eA3] 24 (0, 0)) := (hb1.block _ hAP).trans hblkA
  obtain ⟨y0, y1, y2, y3, z0, z1, z2, z3⟩ := cells_of4 hblkA
  obtain ⟨up2, hU2⟩ : ∃ up2, set4 up1 A (.int .i64 op.1.k) (.int .i64 op.1.n) (.string ⟨op.1.t.toArray⟩) (.slice a1 op.1.l.length c1) = up2 := ⟨_, rfl⟩
  have hs2 : up2.heap.size = up1.heap.size := by rw [← hU2, set4_size]
  have hbW2 : Below W.heap.size W up2 := by rw [← hU2]; exact below_set4 hbW1 hAW _ _ _ _
  have hv1 : IsW (From u6.heap.size) up2 op.1 (.slice a1 op.1.l.length c1) := by rw [← hU2]; exact h1.since (since_set4 (by show ¬ (u6.heap.size ≤ A); omega) _ _ _ _)
  replace hblkA : up2.heap[A]? = some (.cells #[.int .i64 op.1.k, .int .i64 op.1.n, .string ⟨op.1.t.toArray⟩, .slice a1 op.1.l.length c1] 24 (0, 0)) := by rw [← hU2]; exact set4_blk hblkA _ _ _ _
  replace hblkB : up2.heap[Bx]? = some (.cells #[eB0, eB1, eB2, eB3] 24 (0, 0)) := by rw [← hU2, set4_other hAB.symm]; exact (hb1.block _ hBP).trans hblkB
  have hA2 : A < up2.heap.size := by omega
  obtain ⟨⟨p0, p1, p2, p3⟩, ⟨q0, q1, q2, q3⟩, ⟨r0, r1, r2, r3⟩⟩ := hcell up2 hbW2
  clear h1 hX1
  go_wp2_with fail
  refine (hX2 up2 hbW2).mono ?_
  rintro e up3 ⟨⟨a3, c3, rfl, h3⟩, hb3⟩
  clear hX2 y0 y1 y2 y3 z0 z1 z2 z3 hU2
  clear p0 p1 p2 p3 q0 q1 q2 q3 r0 r1 r2 r3
  have hs3 := hb3.size
  have hbW3 : Below W.heap.size W up3 := hbW2.trans (hb3.mono hbW2.size)
  replace hblkA := (hb3.block _ hA2).trans hblkA
  replace hv1 := hv1.below hb3
  replace hblkB : up3.heap[Bx]? = some (.cells #[eB0, eB1, eB2, eB3] 24 (0, 0)) := (hb3.block _ (by omega)).trans hblkB
  obtain ⟨y0, y1, y2, y3, z0, z1, z2, z3⟩ := cells_of4 hblkB
  obtain ⟨up4, hU4⟩ : ∃ up4, set4 up3 Bx (.int .i64 op.1.k) (.int .i64 op.1.n) (.string ⟨op.1.t.toArray⟩) (.slice a3 op.1.l.length c3) = up4 := ⟨_, rfl⟩
  have hs4 : up4.heap.size = up3.heap.size := by rw [← hU4, set4_size]
  have hbW4 : Below W.heap.size W up4 := by rw [← hU4]; exact below_set4 hbW3 hBW _ _ _ _
  have hv3 : IsW Any up4 op.1 (.slice a3 op.1.l.length c3) := by rw [← hU4]; exact any_of (h3.since (since_set4 (by show ¬ (up2.heap.size ≤ Bx); omega) _ _ _ _))
  replace hv1 : IsW Any up4 op.1 (.slice a1 op.1.l.length c1) := by rw [← hU4]; exact any_of (hv1.since (since_set4 (by show ¬ (u6.heap.size ≤ Bx); omega) _ _ _ _))
  replace hblkB : up4.heap[Bx]? = some (.cells #[.int .i64 op.1.k, .int .i64 op.1.n, .string ⟨op.1.t.toArray⟩, .slice a3 op.1.l.length c3] 24 (0, 0)) := by rw [← hU4]; exact set4_blk hblkB _ _ _ _
  replace hblkA : up4.heap[A]? = some (.cells #[.int .i64 op.1.k, .int .i64 op.1.n, .string ⟨op.1.t.toArray⟩, .slice a1 op.1.l.length c1] 24 (0, 0)) := by rw [← hU4, set4_other hAB]; exact hblkA
  obtain ⟨fA0, fA1, fA2, fA3, -⟩ := cells_of4 hblkA
  obtain ⟨fB0, fB1, fB2, fB3, -⟩ := cells_of4 hblkB
  have hSm := rsame_any hv1 hv3
  have hself : (cmpV op.1 op.1 == 0) = true := by rw [cmpV_self]; rfl
  have hne : (op.2 != op.2) = false := by simp
  rw [hself] at hSm
  clear h3 hself
  go_wp2_with fail
  refine hSm.mono ?_
  rintro e up5 ⟨rfl, hb5⟩
  clear hSm y0 y1 y2 y3 z0 z1 z2 z3 hU4 fA0 fA1 fA2 fA3 fB0 fB1 fB2 fB3 hv1 hv3
  have hs5 := hb5.size
  have hbW5 : Below W.heap.size W up5 := hbW4.trans (hb5.mono hbW4.size)
  replace hblkA := (hb5.block _ (by omega)).trans hblkA
  replace hblkB := (hb5.block _ (by omega)).trans hblkB
  have hAP : A < up5.heap.size := by omega
  have hBP : Bx < up5.heap.size := by omega
  obtain ⟨⟨p0, p1, p2, p3⟩, ⟨q0, q1, q2, q3⟩, ⟨r0, r1, r2, r3⟩⟩ := hcell up5 hbW5
  obtain ⟨eA0, eA1, eA2, eA3, hblkA'⟩ : ∃ eA0 eA1 eA2 eA3, up5.heap[A]? = some (.cells #[eA0, eA1, eA2, eA3] 24 (0, 0)) := ⟨_, _, _, _, hblkA⟩
  obtain ⟨eB0, eB1, eB2, eB3, hblkB'⟩ : ∃ eB0 eB1 eB2 eB3, up5.heap[Bx]? = some (.cells #[eB0, eB1, eB2, eB3] 24 (0, 0)) := ⟨_, _, _, _, hblkB⟩
  clear hblkA hblkB
  have hblkA := hblkA'
  have hblkB := hblkB'
  clear hblkA' hblkB'
  clear hbP hb5 hs5 hb1 hs1 hbW1 hb3 hs3 hbW3 hbW4 hs4 hs2 hbW2 hA2 hne HOp hbW6 hs6 hb6
  have hbP := hbW5
  clear hbW5
  obtain ⟨od, HOd⟩ : ∃ o, Hid (delV v k = o) := ⟨_, rfl⟩
  have hX1 : ∀ w2, Below W.heap.size W w2 → Calls Try.prog 36 #[.agg #[.int .i64 v.k, .int .i64 v.n, .string ⟨v.t.toArray⟩, .slice av v.l.length cv], .agg #[.int .i64 k.k, .int .i64 k.n, .string ⟨k.t.toArray⟩, .slice ak k.l.length ck]] w2 fun r w' => OutV w2 od r w' := fun w2 hb => by rw [← HOd.out]; exact H1d w2 hb
  have hX2 : ∀ w2, Below W.heap.size W w2 → Calls Try.prog 37 #[.agg #[.int .i64 v.k, .int .i64 v.n, .string ⟨v.t.toArray⟩, .slice av v.l.length cv], .agg #[.int .i64 k.k, .int .i64 k.n, .string ⟨k.t.toArray⟩, .slice ak k.l.length ck]] w2 fun r w' => OutV w2 od r w' := fun w2 hb => by rw [← HOd.out]; exact H2d w2 hb
  go_wp2_with fail
  refine (hX1 up5 hbP).mono ?_
  rintro e ud1 ⟨⟨a1, c1, rfl, h1⟩, hb1⟩
  clear p0 p1 p2 p3 q0 q1 q2 q3 r0 r1 r2 r3
  have hs1 := hb1.size
  have hbW1 : Below W.heap.size W ud1 := hbP.trans (hb1.mono hbP.size)
  replace hblkA : ud1.heap[A]? = some (.cells #[eA0, eA1, eA2, eA3] 24 (0, 0)) := (hb1.block _ hAP).trans hblkA
  obtain ⟨y0, y1, y2, y3, z0, z1, z2, z3⟩ := cells_of4 hblkA
  obtain ⟨ud2, hU2⟩ : ∃ ud2, set4 ud1 A (.int .i64 od.1.k) (.int .i64 od.1.n) (.string ⟨od.1.t.toArray⟩) (.slice a1 od.1.l.length c1) = ud2 := ⟨_, rfl⟩
  have hs2 : ud2.heap.size = ud1.heap.size := by rw [← hU2, set4_size]
  have hbW2 : Below W.heap.size W ud2 := by rw [← hU2]; exact below_set4 hbW1 hAW _ _ _ _
  have hv1 : IsW (From up5.heap.size) ud2 od.1 (.slice a1 od.1.l.length c1) := by rw [← hU2]; exact h1.since (since_set4 (by show ¬ (up5.heap.size ≤ A); omega) _ _ _ _)
  replace hblkA : ud2.heap[A]? = some (.cells #[.int .i64 od.1.k, .int .i64 od.1.n, .string ⟨od.1.t.toArray⟩, .slice a1 od.1.l.length c1] 24 (0, 0)) := by rw [← hU2]; exact set4_blk hblkA _ _ _ _
  replace hblkB : ud2.heap[Bx]? = some (.cells #[eB0, eB1, eB2, eB3] 24 (0, 0)) := by rw [← hU2, set4_other hAB.symm]; exact (hb1.block _ hBP).trans hblkB
  have hA2 : A < ud2.heap.size := by omega
  obtain ⟨⟨p0, p1, p2, p3⟩, ⟨q0, q1, q2, q3⟩, ⟨r0, r1, r2, r3⟩⟩ := hcell ud2 hbW2
  clear h1 hX1
  go_wp2_with fail
  refine (hX2 ud2 hbW2).mono ?_
  rintro e ud3 ⟨⟨a3, c3, rfl, h3⟩, hb3⟩
  clear hX2 y0 y1 y2 y3 z0 z1 z2 z3 hU2
  clear p0 p1 p2 p3 q0 q1 q2 q3 r0 r1 r2 r3
  have hs3 := hb3.size
  have hbW3 : Below W.heap.size W ud3 := hbW2.trans (hb3.mono hbW2.size)
  replace hblkA := (hb3.block _ hA2).trans hblkA
  replace hv1 := hv1.below hb3
  replace hblkB : ud3.heap[Bx]? = some (.cells #[eB0, eB1, eB2, eB3] 24 (0, 0)) := (hb3.block _ (by omega)).trans hblkB
  obtain ⟨y0, y1, y2, y3, z0, z1, z2, z3⟩ := cells_of4 hblkB
  obtain ⟨ud4, hU4⟩ : ∃ ud4, set4 ud3 Bx (.int .i64 od.1.k) (.int .i64 od.1.n) (.string ⟨od.1.t.toArray⟩) (.slice a3 od.1.l.length c3) = ud4 := ⟨_, rfl⟩
  have hs4 : ud4.heap.size = ud3.heap.size := by rw [← hU4, set4_size]
  have hbW4 : Below W.heap.size W ud4 := by rw [← hU4]; exact below_set4 hbW3 hBW _ _ _ _
  have hv3 : IsW Any ud4 od.1 (.slice a3 od.1.l.length c3) := by rw [← hU4]; exact any_of (h3.since (since_set4 (by show ¬ (ud2.heap.size ≤ Bx); omega) _ _ _ _))
  replace hv1 : IsW Any ud4 od.1 (.slice a1 od.1.l.length c1) := by rw [← hU4]; exact any_of (hv1.since (since_set4 (by show ¬ (up5.heap.size ≤ Bx); omega) _ _ _ _))
  replace hblkB : ud4.heap[Bx]? = some (.cells #[.int .i64 od.1.k, .int .i64 od.1.n, .string ⟨od.1.t.toArray⟩, .slice a3 od.1.l.length c3] 24 (0, 0)) := by rw [← hU4]; exact set4_blk hblkB _ _ _ _
  replace hblkA : ud4.heap[A]? = some (.cells #[.int .i64 od.1.k, .int .i64 od.1.n, .string ⟨od.1.t.toArray⟩, .slice a1 od.1.l.length c1] 24 (0, 0)) := by rw [← hU4, set4_other hAB]; exact hblkA
  obtain ⟨fA0, fA1, fA2, fA3, -⟩ := cells_of4 hblkA
  obtain ⟨fB0, fB1, fB2, fB3, -⟩ := cells_of4 hblkB
  have hSm := rsame_any hv1 hv3
  have hself : (cmpV od.1 od.1 == 0) = true := by rw [cmpV_self]; rfl
  have hne : (od.2 != od.2) = false := by simp
  rw [hself] at hSm
  clear h3 hself
  go_wp2_with fail
  refine hSm.mono ?_
  rintro e ud5 ⟨rfl, hb5⟩
  clear hSm y0 y1 y2 y3 z0 z1 z2 z3 hU4 fA0 fA1 fA2 fA3 fB0 fB1 fB2 fB3 hv1 hv3
  have hs5 := hb5.size
  have hbW5 : Below W.heap.size W ud5 := hbW4.trans (hb5.mono hbW4.size)
  replace hblkA := (hb5.block _ (by omega)).trans hblkA
  replace hblkB := (hb5.block _ (by omega)).trans hblkB
  have hAP : A < ud5.heap.size := by omega
  have hBP : Bx < ud5.heap.size := by omega
  obtain ⟨⟨p0, p1, p2, p3⟩, ⟨q0, q1, q2, q3⟩, ⟨r0, r1, r2, r3⟩⟩ := hcell ud5 hbW5
  obtain ⟨eA0, eA1, eA2, eA3, hblkA'⟩ : ∃ eA0 eA1 eA2 eA3, ud5.heap[A]? = some (.cells #[eA0, eA1, eA2, eA3] 24 (0, 0)) := ⟨_, _, _, _, hblkA⟩
  obtain ⟨eB0, eB1, eB2, eB3, hblkB'⟩ : ∃ eB0 eB1 eB2 eB3, ud5.heap[Bx]? = some (.cells #[eB0, eB1, eB2, eB3] 24 (0, 0)) := ⟨_, _, _, _, hblkB⟩
  clear hblkA hblkB
  have hblkA := hblkA'
  have hblkB := hblkB'
  clear hblkA' hblkB'
  clear hbP hb5 hs5 hb1 hs1 hbW1 hb3 hs3 hbW3 hbW4 hs4 hs2 hbW2 hA2 hne HOd
  have hbP := hbW5
  clear hbW5
  obtain ⟨ou, HOu⟩ : ∃ o, Hid (pushV v x = o) := ⟨_, rfl⟩
  have hX1 : ∀ w2, Below W.heap.size W w2 → Calls Try.prog 38 #[.agg #[.int .i64 v.k, .int .i64 v.n, .string ⟨v.t.toArray⟩, .slice av v.l.length cv], .agg #[.int .i64 x.k, .int .i64 x.n, .string ⟨x.t.toArray⟩, .slice ax x.l.length cx]] w2 fun r w' => OutV w2 ou r w' := fun w2 hb => by rw [← HOu.out]; exact H1u w2 hb
  have hX2 : ∀ w2, Below W.heap.size W w2 → Calls Try.prog 39 #[.agg #[.int .i64 v.k, .int .i64 v.n, .string ⟨v.t.toArray⟩, .slice av v.l.length cv], .agg #[.int .i64 x.k, .int .i64 x.n, .string ⟨x.t.toArray⟩, .slice ax x.l.length cx]] w2 fun r w' => OutV w2 ou r w' := fun w2 hb => by rw [← HOu.out]; exact H2u w2 hb
  go_wp2_with fail
  refine (hX1 ud5 hbP).mono ?_
  rintro e uu1 ⟨⟨a1, c1, rfl, h1⟩, hb1⟩
  clear p0 p1 p2 p3 q0 q1 q2 q3 r0 r1 r2 r3
  have hs1 := hb1.size
  have hbW1 : Below W.heap.size W uu1 := hbP.trans (hb1.mono hbP.size)
  replace hblkA : uu1.heap[A]? = some (.cells #[eA0, eA1, eA2, eA3] 24 (0, 0)) := (hb1.block _ hAP).trans hblkA
  obtain ⟨y0, y1, y2, y3, z0, z1, z2, z3⟩ := cells_of4 hblkA
  obtain ⟨uu2, hU2⟩ : ∃ uu2, set4 uu1 A (.int .i64 ou.1.k) (.int .i64 ou.1.n) (.string ⟨ou.1.t.toArray⟩) (.slice a1 ou.1.l.length c1) = uu2 := ⟨_, rfl⟩
  have hs2 : uu2.heap.size = uu1.heap.size := by rw [← hU2, set4_size]
  have hbW2 : Below W.heap.size W uu2 := by rw [← hU2]; exact below_set4 hbW1 hAW _ _ _ _
  have hv1 : IsW (From ud5.heap.size) uu2 ou.1 (.slice a1 ou.1.l.length c1) := by rw [← hU2]; exact h1.since (since_set4 (by show ¬ (ud5.heap.size ≤ A); omega) _ _ _ _)
  replace hblkA : uu2.heap[A]? = some (.cells #[.int .i64 ou.1.k, .int .i64 ou.1.n, .string ⟨ou.1.t.toArray⟩, .slice a1 ou.1.l.length c1] 24 (0, 0)) := by rw [← hU2]; exact set4_blk hblkA _ _ _ _
  replace hblkB : uu2.heap[Bx]? = some (.cells #[eB0, eB1, eB2, eB3] 24 (0, 0)) := by rw [← hU2, set4_other hAB.symm]; exact (hb1.block _ hBP).trans hblkB
  have hA2 : A < uu2.heap.size := by omega
  obtain ⟨⟨p0, p1, p2, p3⟩, ⟨q0, q1, q2, q3⟩, ⟨r0, r1, r2, r3⟩⟩ := hcell uu2 hbW2
  clear h1 hX1
  go_wp2_with fail
  refine (hX2 uu2 hbW2).mono ?_
  rintro e uu3 ⟨⟨a3, c3, rfl, h3⟩, hb3⟩
  clear hX2 y0 y1 y2 y3 z0 z1 z2 z3 hU2
  clear p0 p1 p2 p3 q0 q1 q2 q3 r0 r1 r2 r3
  have hs3 := hb3.size
  have hbW3 : Below W.heap.size W uu3 := hbW2.trans (hb3.mono hbW2.size)
  replace hblkA := (hb3.block _ hA2).trans hblkA
  replace hv1 := hv1.below hb3
  replace hblkB : uu3.heap[Bx]? = some (.cells #[eB0, eB1, eB2, eB3] 24 (0, 0)) := (hb3.block _ (by omega)).trans hblkB
  obtain ⟨y0, y1, y2, y3, z0, z1, z2, z3⟩ := cells_of4 hblkB
  obtain ⟨uu4, hU4⟩ : ∃ uu4, set4 uu3 Bx (.int .i64 ou.1.k) (.int .i64 ou.1.n) (.string ⟨ou.1.t.toArray⟩) (.slice a3 ou.1.l.length c3) = uu4 := ⟨_, rfl⟩
  have hs4 : uu4.heap.size = uu3.heap.size := by rw [← hU4, set4_size]
  have hbW4 : Below W.heap.size W uu4 := by rw [← hU4]; exact below_set4 hbW3 hBW _ _ _ _
  have hv3 : IsW Any uu4 ou.1 (.slice a3 ou.1.l.length c3) := by rw [← hU4]; exact any_of (h3.since (since_set4 (by show ¬ (uu2.heap.size ≤ Bx); omega) _ _ _ _))
  replace hv1 : IsW Any uu4 ou.1 (.slice a1 ou.1.l.length c1) := by rw [← hU4]; exact any_of (hv1.since (since_set4 (by show ¬ (ud5.heap.size ≤ Bx); omega) _ _ _ _))
  replace hblkB : uu4.heap[Bx]? = some (.cells #[.int .i64 ou.1.k, .int .i64 ou.1.n, .string ⟨ou.1.t.toArray⟩, .slice a3 ou.1.l.length c3] 24 (0, 0)) := by rw [← hU4]; exact set4_blk hblkB _ _ _ _
  replace hblkA : uu4.heap[A]? = some (.cells #[.int .i64 ou.1.k, .int .i64 ou.1.n, .string ⟨ou.1.t.toArray⟩, .slice a1 ou.1.l.length c1] 24 (0, 0)) := by rw [← hU4, set4_other hAB]; exact hblkA
  obtain ⟨fA0, fA1, fA2, fA3, -⟩ := cells_of4 hblkA
  obtain ⟨fB0, fB1, fB2, fB3, -⟩ := cells_of4 hblkB
  have hSm := rsame_any hv1 hv3
  have hself : (cmpV ou.1 ou.1 == 0) = true := by rw [cmpV_self]; rfl
  have hne : (ou.2 != ou.2) = false := by simp
  rw [hself] at hSm
  clear h3 hself
  go_wp2_with fail
  refine hSm.mono ?_
  rintro e uu5 ⟨rfl, hb5⟩
  clear hSm y0 y1 y2 y3 z0 z1 z2 z3 hU4 fA0 fA1 fA2 fA3 fB0 fB1 fB2 fB3 hv1 hv3
  have hs5 := hb5.size
  have hbW5 : Below W.heap.size W uu5 := hbW4.trans (hb5.mono hbW4.size)
  replace hblkA := (hb5.block _ (by omega)).trans hblkA
  replace hblkB := (hb5.block _ (by omega)).trans hblkB
  have hAP : A < uu5.heap.size := by omega
  have hBP : Bx < uu5.heap.size := by omega
  go_wp2
  go_ret
  exact ⟨ret_bool (by simp), hBf _ hbW5⟩
theorem does_walk {v k x : V} {av ak ax : Option Addr} {cv ck cx : Nat} {w : World} (hv : IsW Any w v (.slice av v.l.length cv)) (hk : IsW Any w k (.slice ak k.l.length ck)) (hx : IsW Any w x (.slice ax x.l.length cx)) (zv : SzV v) (zk : SzV k) (zx : SzV x) :
    Calls Try.prog 5 #[.agg #[.int .i64 v.k, .int .i64 v.n, .string ⟨v.t.toArray⟩, .slice av v.l.length cv], .agg #[.int .i64 k.k, .int .i64 k.n, .string ⟨k.t.toArray⟩, .slice ak k.l.length ck], .agg #[.int .i64 x.k, .int .i64 x.n, .string ⟨x.t.toArray⟩, .slice ax x.l.length cx]] w fun r w' => r = .returned (.bool true) ∧ Below w.heap.size w w' := by
  by_cases h5 : v.k = 5
  · rcases hh : hit k v.l with _ | _
    · exact does_miss hv hk hx zv zk zx h5 hh
    · exact does_hit hv hk hx zv zk zx h5 hh
  · exact does_other hv hk hx zv zk zx h5
end Go.Proofs.Ytkbplffckkjbfaa
