/- What is handed in stays, what is answered is its own: the statement, walked. -/
import Derived.Test.YtkbplffckkjbfabLkr
import Derived.Test.YtkbplffckkjbfabLsp
import Derived.Test.YtkbplffckkjbfabLtd
import Derived.Test.YtkbplffckkjbfabVat
namespace Go.Proofs.Ytkbplffckkjbfab
open Go.RowKit
set_option linter.unusedVariables false
set_option linter.unusedSimpArgs false
attribute [local go_sem ↓] Go.wp_at_zero Go.wp_at_succ

theorem any_of {B : Nat → Prop} {w : World} {v : V} {s : Value} (h : IsW B w v s) : IsW Any w v s := h.base (fun _ _ _ => trivial)
theorem wpE_name {P : Program} {md : Region.Mode} {ops : Array Oper} {Q : Exit → Act → World → Prop} {S : World → Prop} {N : Nat → Bool} {f : Nat} {l0 : Array Bool} {a0 : Act} {w : World} (h : ∀ a l, a = a0 → l = l0 → wpE P md ops Q S N f l a w) : wpE P md ops Q S N f l0 a0 w := h a0 l0 rfl rfl
/-- A value that is put into a new box. -/
theorem rbox_set (w : World) (x0 x1 x2 x3 : Value) : ∃ wz w4, w.alloc (.cells #[.int .i64 0, .int .i64 0, .string ⟨#[]⟩, .slice none 0 0] 24) = wz ∧ set4 wz w.heap.size x0 x1 x2 x3 = w4 ∧ Below w.heap.size w w4 ∧ w4.heap.size = w.heap.size + 1 ∧ wz.heap.size = w.heap.size + 1 ∧ w4.heap[w.heap.size]? = some (.cells #[x0, x1, x2, x3] 24 (0, 0)) ∧
    (wz.cell? ⟨w.heap.size, 0, none⟩ = some (.int .i64 0) ∧ wz.cell? ⟨w.heap.size, 1, none⟩ = some (.int .i64 0) ∧ wz.cell? ⟨w.heap.size, 2, none⟩ = some (.string ⟨#[]⟩) ∧ wz.cell? ⟨w.heap.size, 3, none⟩ = some (.slice none 0 0)) ∧ (wz.frozen? ⟨w.heap.size, 0, none⟩ = false ∧ wz.frozen? ⟨w.heap.size, 1, none⟩ = false ∧ wz.frozen? ⟨w.heap.size, 2, none⟩ = false ∧ wz.frozen? ⟨w.heap.size, 3, none⟩ = false) := by
  obtain ⟨wz, hWz, hbz, hszz, hrz⟩ := rbox w
  obtain ⟨y0, y1, y2, y3, z0, z1, z2, z3, hzz⟩ := hrz wz (Below.refl _ _)
  exact ⟨wz, _, hWz, rfl, below_set4 hbz (Nat.le_refl _) _ _ _ _, by rw [set4_size]; omega, hszz, set4_blk (rbox_blk hWz (Below.refl _ _)) _ _ _ _, ⟨y0, y1, y2, y3⟩, ⟨z0, z1, z2, z3⟩⟩
theorem at4_of {w : World} {g : Nat} {v : V} {s : Value} (h : w.heap[g]? = some (.cells #[.int .i64 v.k, .int .i64 v.n, .string ⟨v.t.toArray⟩, s] 24)) : At4 w g v s := by
  obtain ⟨h0, h1, h2, h3, -⟩ := cells_of4 h
  exact ⟨h0, h1, h2, h3⟩
abbrev Rng (a b : Nat) : Nat → Prop := fun j => a ≤ j ∧ j < b
set_option maxRecDepth 100000 in
set_option maxHeartbeats 8000000 in
theorem keeps_walk {v k x : V} {av ak ax : Option Addr} {cv ck cx : Nat} {w : World} (hv : IsW Any w v (.slice av v.l.length cv)) (hk : IsW Any w k (.slice ak k.l.length ck)) (hx : IsW Any w x (.slice ax x.l.length cx)) (zv : SzV v) (zk : SzV k) (zx : SzV x) :
    Calls Try.prog 3 #[.agg #[.int .i64 v.k, .int .i64 v.n, .string ⟨v.t.toArray⟩, .slice av v.l.length cv], .agg #[.int .i64 k.k, .int .i64 k.n, .string ⟨k.t.toArray⟩, .slice ak k.l.length ck], .agg #[.int .i64 x.k, .int .i64 x.n, .string ⟨x.t.toArray⟩, .slice ax x.l.length cx]] w fun r w' => r = .returned (.bool true) ∧ Below w.heap.size w w' := by
  obtain ⟨w0, w1, W, hW, hW1, hW2, hs0, hs1, hs2, hBW, hcell⟩ := boxed3 w v (.slice av v.l.length cv) k (.slice ak k.l.length ck) x (.slice ax x.l.length cx)
  replace hv := hv.below hBW
  replace hk := hk.below hBW
  replace hx := hx.below hBW
  have hWk := wakes_any W
  have hL : ∀ (u : V) (au : Option Addr) (cu : Nat) (w2 : World), Below W.heap.size W w2 → IsW Any W u (.slice au u.l.length cu) → SzV u → Calls Try.prog 6 #[.agg #[.int .i64 u.k, .int .i64 u.n, .string ⟨u.t.toArray⟩, .slice au u.l.length cu]] w2 fun r w' => r = .returned (.bool (decide (65536 < wt u))) ∧ Below W.heap.size W w' := fun u au cu w2 hb2 hu hz => (large_any hz (hu.below hb2)).mono fun e w' ⟨h1, h2⟩ => ⟨h1, hb2.trans (h2.mono hb2.size)⟩
  have hBf : ∀ w', Below W.heap.size W w' → Below w.heap.size w w' := fun w' h => hBW.trans (h.mono hBW.size)
  have hwts := wt_eq v
  have hlv := wts_len v.l
  go_enter Try.func3, Try.ntmps3
  go_wp2_with fail
  refine hWk.mono ?_
  rintro e w3 ⟨rfl, hbX3⟩
  obtain ⟨⟨p0, p1, p2, p3⟩, ⟨q0, q1, q2, q3⟩, ⟨r0, r1, r2, r3⟩⟩ := hcell w3 hbX3
  clear hW hW1 hW2 hWk
  go_wp2_with fail
  refine (hL v av cv w3 hbX3 hv zv).mono ?_
  rintro e w4 ⟨rfl, hbX4⟩
  clear p0 p1 p2 p3 q0 q1 q2 q3 r0 r1 r2 r3
  by_cases hlv : 65536 < wt v
  · rw [decide_eq_true hlv]
    go_wp2
    go_ret
    exact ⟨rfl, hBf _ hbX4⟩
  rw [decide_eq_false hlv]
  obtain ⟨⟨p0, p1, p2, p3⟩, ⟨q0, q1, q2, q3⟩, ⟨r0, r1, r2, r3⟩⟩ := hcell w4 hbX4
  go_wp2_with fail
  refine (hL k ak ck w4 hbX4 hk zk).mono ?_
  rintro e w5 ⟨rfl, hbX5⟩
  clear p0 p1 p2 p3 q0 q1 q2 q3 r0 r1 r2 r3
  by_cases hlk : 65536 < wt k
  · rw [decide_eq_true hlk]
    go_wp2
    go_ret
    exact ⟨rfl, hBf _ hbX5⟩
  rw [decide_eq_false hlk]
  obtain ⟨⟨p0, p1, p2, p3⟩, ⟨q0, q1, q2, q3⟩, ⟨r0, r1, r2, r3⟩⟩ := hcell w5 hbX5
  go_wp2_with fail
  refine (hL x ax cx w5 hbX5 hx zx).mono ?_
  rintro e w6 ⟨rfl, hbX6⟩
  clear p0 p1 p2 p3 q0 q1 q2 q3 r0 r1 r2 r3
  by_cases hlx : 65536 < wt x
  · rw [decide_eq_true hlx]
    go_wp2
    go_ret
    exact ⟨rfl, hBf _ hbX6⟩
  rw [decide_eq_false hlx]
  obtain ⟨⟨p0, p1, p2, p3⟩, ⟨q0, q1, q2, q3⟩, ⟨r0, r1, r2, r3⟩⟩ := hcell w6 hbX6
  clear hL
  have hTd := tidy_any (hv.below hbX6) (by omega)
  go_wp2_with fail
  refine hTd.mono ?_
  rintro e w7 ⟨⟨b, rfl, hbT⟩, hb7⟩
  have hbX7 : Below W.heap.size W w7 := hbX6.trans (hb7.mono hbX6.size)
  clear hTd hb7
  clear p0 p1 p2 p3 q0 q1 q2 q3 r0 r1 r2 r3
  cases b
  · go_wp2
    go_ret
    exact ⟨rfl, hBf _ hbX7⟩
  have hT : Hid (Tidy v) := hbT rfl
  clear hbT zv zk zx hwts
  obtain ⟨⟨p0, p1, p2, p3⟩, ⟨q0, q1, q2, q3⟩, ⟨r0, r1, r2, r3⟩⟩ := hcell w7 hbX7
  have hSk : ∀ ww, Below W.heap.size W ww → ww.cell? ⟨w.heap.size, 0, none⟩ = some (.int .i64 v.k) ∧ ww.cell? ⟨w.heap.size, 1, none⟩ = some (.int .i64 v.n) ∧ ww.cell? ⟨w.heap.size, 2, none⟩ = some (.string ⟨v.t.toArray⟩) ∧ ww.cell? ⟨w.heap.size, 3, none⟩ = some (.slice av v.l.length cv) ∧ ww.cell? ⟨w.heap.size + 1, 0, none⟩ = some (.int .i64 k.k) ∧ ww.cell? ⟨w.heap.size + 1, 1, none⟩ = some (.int .i64 k.n) ∧ ww.cell? ⟨w.heap.size + 1, 2, none⟩ = some (.string ⟨k.t.toArray⟩) ∧ ww.cell? ⟨w.heap.size + 1, 3, none⟩ = some (.slice ak k.l.length ck) ∧ ww.cell? ⟨w.heap.size + 2, 0, none⟩ = some (.int .i64 x.k) ∧ ww.cell? ⟨w.heap.size + 2, 1, none⟩ = some (.int .i64 x.n) ∧ ww.cell? ⟨w.heap.size + 2, 2, none⟩ = some (.string ⟨x.t.toArray⟩) ∧ ww.cell? ⟨w.heap.size + 2, 3, none⟩ = some (.slice ax x.l.length cx) := by
    intro ww hb
    obtain ⟨⟨p0, p1, p2, p3⟩, ⟨q0, q1, q2, q3⟩, ⟨r0, r1, r2, r3⟩⟩ := hcell ww hb
    exact ⟨p0, p1, p2, p3, q0, q1, q2, q3, r0, r1, r2, r3⟩
  have hbd : Below W.heap.size W w7.drew := hbX7.trans ((below_drewN w7 1).mono hbX7.size)
  go_wp2_with fail
  refine wpE_begin (S := fun w' => w'.cell? ⟨w.heap.size, 0, none⟩ = some (.int .i64 v.k) ∧ w'.cell? ⟨w.heap.size, 1, none⟩ = some (.int .i64 v.n) ∧ w'.cell? ⟨w.heap.size, 2, none⟩ = some (.string ⟨v.t.toArray⟩) ∧ w'.cell? ⟨w.heap.size, 3, none⟩ = some (.slice av v.l.length cv) ∧ w'.cell? ⟨w.heap.size + 1, 0, none⟩ = some (.int .i64 k.k) ∧ w'.cell? ⟨w.heap.size + 1, 1, none⟩ = some (.int .i64 k.n) ∧ w'.cell? ⟨w.heap.size + 1, 2, none⟩ = some (.string ⟨k.t.toArray⟩) ∧ w'.cell? ⟨w.heap.size + 1, 3, none⟩ = some (.slice ak k.l.length ck) ∧ w'.cell? ⟨w.heap.size + 2, 0, none⟩ = some (.int .i64 x.k) ∧ w'.cell? ⟨w.heap.size + 2, 1, none⟩ = some (.int .i64 x.n) ∧ w'.cell? ⟨w.heap.size + 2, 2, none⟩ = some (.string ⟨x.t.toArray⟩) ∧ w'.cell? ⟨w.heap.size + 2, 3, none⟩ = some (.slice ax x.l.length cx)) (N := fun j => decide (j < 9)) (by kernel_rfl) ?_
  have hS0 : w7.drew.cell? ⟨w.heap.size, 0, none⟩ = some (.int .i64 v.k) ∧ w7.drew.cell? ⟨w.heap.size, 1, none⟩ = some (.int .i64 v.n) ∧ w7.drew.cell? ⟨w.heap.size, 2, none⟩ = some (.string ⟨v.t.toArray⟩) ∧ w7.drew.cell? ⟨w.heap.size, 3, none⟩ = some (.slice av v.l.length cv) ∧ w7.drew.cell? ⟨w.heap.size + 1, 0, none⟩ = some (.int .i64 k.k) ∧ w7.drew.cell? ⟨w.heap.size + 1, 1, none⟩ = some (.int .i64 k.n) ∧ w7.drew.cell? ⟨w.heap.size + 1, 2, none⟩ = some (.string ⟨k.t.toArray⟩) ∧ w7.drew.cell? ⟨w.heap.size + 1, 3, none⟩ = some (.slice ak k.l.length ck) ∧ w7.drew.cell? ⟨w.heap.size + 2, 0, none⟩ = some (.int .i64 x.k) ∧ w7.drew.cell? ⟨w.heap.size + 2, 1, none⟩ = some (.int .i64 x.n) ∧ w7.drew.cell? ⟨w.heap.size + 2, 2, none⟩ = some (.string ⟨x.t.toArray⟩) ∧ w7.drew.cell? ⟨w.heap.size + 2, 3, none⟩ = some (.slice ax x.l.length cx) := hSk _ hbd
  refine wpE_takeX (some 36) (fun j => [1, 3, 5, 9, 10, 11].contains j) (i := 0) (v := .agg #[.int .i64 v.k, .int .i64 v.n, .string ⟨v.t.toArray⟩, .slice av v.l.length cv]) rfl rfl (by kernel_rfl) (by kernel_rfl) (by kernel_rfl) (by kernel_rfl) (fun j hj => by simp at hj; show j < 12; omega) (fun _ _ _ h => h) rfl (fun w' hS => by obtain ⟨g0, g1, g2, g3, g4, g5, g6, g7, g8, g9, g10, g11⟩ := hS; go_simp) hS0 ?_
  try simp only [Act.put, List.setIfInBounds_toArray, List.set_cons_zero, List.set_cons_succ]
  refine wpE_takeX (some 38) (fun j => [3, 5, 9, 10, 11].contains j) (i := 2) (v := .agg #[.int .i64 k.k, .int .i64 k.n, .string ⟨k.t.toArray⟩, .slice ak k.l.length ck]) rfl rfl (by kernel_rfl) (by kernel_rfl) (by kernel_rfl) (by kernel_rfl) (fun j hj => by simp at hj; show j < 12; omega) (fun _ _ _ h => h) rfl (fun w' hS => by obtain ⟨g0, g1, g2, g3, g4, g5, g6, g7, g8, g9, g10, g11⟩ := hS; go_simp) hS0 ?_
  try simp only [Act.put, List.setIfInBounds_toArray, List.set_cons_zero, List.set_cons_succ]
  refine wpE_takeX (some 40) (fun j => [5, 9, 10, 11].contains j) (i := 4) (v := .agg #[.int .i64 x.k, .int .i64 x.n, .string ⟨x.t.toArray⟩, .slice ax x.l.length cx]) rfl rfl (by kernel_rfl) (by kernel_rfl) (by kernel_rfl) (by kernel_rfl) (fun j hj => by simp at hj; show j < 12; omega) (fun _ _ _ h => h) rfl (fun w' hS => by obtain ⟨g0, g1, g2, g3, g4, g5, g6, g7, g8, g9, g10, g11⟩ := hS; go_simp) hS0 ?_
  try simp only [Act.put, List.setIfInBounds_toArray, List.set_cons_zero, List.set_cons_succ]
  refine wpE_name ?_
  intro a l ha hl
  have hl' : l = lis3 ⟨none, none, none, none, none, none⟩ := by rw [hl]; kernel_rfl
  have e0 : act3 a v k x ⟨none, none, none, none, none, none⟩ = a := by rw [ha]; rfl
  rw [hl', ← e0]
  clear e0 hl hl' l
  refine all3 (a0 := a) (W := W) (sv := .slice av v.l.length cv) (sk := .slice ak k.l.length ck) (sx := .slice ax x.l.length cx) ⟨_, rfl, rfl, rfl, rfl⟩ ⟨_, rfl, rfl, rfl, rfl⟩ ⟨_, rfl, rfl, rfl, rfl⟩ ⟨_, rfl, rfl, rfl, rfl⟩ ⟨_, rfl, rfl, rfl, rfl⟩ ⟨_, rfl, rfl, rfl, rfl⟩ ?_ (by rw [ha]; rfl) (by rw [ha]; rfl) (by rw [ha]; rfl) (fun w2 hb => rcopy_any _ v _ Any w2 (Nat.lt_succ_self _) (by omega) (hv.below hb)) (fun w2 hb => rcopy_any _ k _ Any w2 (Nat.lt_succ_self _) (by omega) (hk.below hb)) (fun w2 hb => rcopy_any _ x _ Any w2 (Nat.lt_succ_self _) (by omega) (hx.below hb)) hSk ?_ 9 (St3.mk none none none none none none) _ rfl ⟨hbd, (fun _ _ h => by cases h), (fun _ _ h => by cases h), (fun _ _ h => by cases h), (fun g h => by rcases h with h | h | h <;> cases h), (fun g h => by cases h), (fun g h => by cases h), (fun h => by cases h), (fun h => by cases h)⟩
  · intro b1 b3 b5 b6 b7 b8 ho1 ho2 hb
    cases b1 <;> cases b3 <;> cases b5 <;> cases b6 <;> cases b7 <;> cases b8 <;> first | (cases hb; done) | (cases ho1 rfl; done) | (cases ho2 rfl; done) | exact of_decide_eq_true (by kernel_rfl)
  rintro ⟨ov, ok, ox, op, oq, or⟩ w8 hall hI
  rcases ov with _ | ⟨a1, c1⟩
  · simp at hall
  rcases ok with _ | ⟨a2, c2⟩
  · simp at hall
  rcases ox with _ | ⟨a3, c3⟩
  · simp at hall
  rcases op with _ | g7
  · simp at hall
  rcases oq with _ | g8
  · simp at hall
  rcases or with _ | g9
  · simp at hall
  obtain ⟨hb8, iv, ik, ix, ib, pq, qr, -, -⟩ := hI
  replace iv := iv a1 c1 rfl
  replace ik := ik a2 c2 rfl
  replace ix := ix a3 c3 rfl
  obtain ⟨hg7, hz7⟩ := ib g7 (Or.inl rfl)
  obtain ⟨hg8, hz8⟩ := ib g8 (Or.inr (Or.inl rfl))
  obtain ⟨hg9, hz9⟩ := ib g9 (Or.inr (Or.inr rfl))
  have n78 : g8 ≠ g7 := fun e => (pq g7 rfl).1 (by rw [e])
  have n79 : g9 ≠ g7 := fun e => (pq g7 rfl).2 (by rw [e])
  have n89 : g9 ≠ g8 := fun e => qr g8 rfl (by rw [e])
  have hnb : ∀ j, ¬ box3 ⟨some (a1, c1), some (a2, c2), some (a3, c3), some g7, some g8, some g9⟩ j → j ≠ g7 ∧ j ≠ g8 ∧ j ≠ g9 := fun j hj => ⟨fun e => hj (Or.inl (by rw [e])), fun e => hj (Or.inr (Or.inl (by rw [e]))), fun e => hj (Or.inr (Or.inr (by rw [e])))⟩
  have iv' : IsW (fun j => j ≠ g7 ∧ j ≠ g8 ∧ j ≠ g9) w8 v (.slice a1 v.l.length c1) := iv.base (fun j hj _ => hnb j hj.2)
  have ik' : IsW (fun j => j ≠ g7 ∧ j ≠ g8 ∧ j ≠ g9) w8 k (.slice a2 k.l.length c2) := ik.base (fun j hj _ => hnb j hj.2)
  have ix' : IsW (fun j => j ≠ g7 ∧ j ≠ g8 ∧ j ≠ g9) w8 x (.slice a3 x.l.length c3) := ix.base (fun j hj _ => hnb j hj.2)
  clear pq qr ib iv ik ix hnb hall hSk hS0 hbd
  subst ha
  simp only [act3, vx, gx, lis3, Act.put, List.setIfInBounds_toArray, List.set_cons_zero, List.set_cons_succ]
  unfold zObj at hz7 hz8 hz9
  obtain ⟨s0', s1', s2', s3', t0', t1', t2', t3'⟩ := cells_of4 hz7
  obtain ⟨wA, hwA⟩ : ∃ wA, set4 w8 g7 (.int .i64 v.k) (.int .i64 v.n) (.string ⟨v.t.toArray⟩) (.slice a1 v.l.length c1) = wA := ⟨_, rfl⟩
  refine wpE_one (i := 9) (by kernel_rfl) rfl rfl (fun K hK => ?_)
  go_simp
  refine hK _ _ (fun h => by cases h) ?_
  clear hK K
  try simp only [Act.put, List.setIfInBounds_toArray, List.set_cons_zero, List.set_cons_succ]
  have ewA : wA.heap.size = w8.heap.size := by rw [← hwA, set4_size]
  replace hz7 : wA.heap[g7]? = some (.cells #[.int .i64 v.k, .int .i64 v.n, .string ⟨v.t.toArray⟩, .slice a1 v.l.length c1] 24) := by rw [← hwA]; exact set4_blk hz7 _ _ _ _
  replace hz8 : wA.heap[g8]? = some (.cells #[.int .i64 0, .int .i64 0, .string ⟨#[]⟩, .slice none 0 0] 24 (0, 0)) := by rw [← hwA, set4_other n78]; exact hz8
  replace hz9 : wA.heap[g9]? = some (.cells #[.int .i64 0, .int .i64 0, .string ⟨#[]⟩, .slice none 0 0] 24 (0, 0)) := by rw [← hwA, set4_other n79]; exact hz9
  replace iv' := iv'.since (since_set4 (w := w8) (g := g7) (by simp) (.int .i64 v.k) (.int .i64 v.n) (.string ⟨v.t.toArray⟩) (.slice a1 v.l.length c1))
  rw [hwA] at iv'
  replace ik' := ik'.since (since_set4 (w := w8) (g := g7) (by simp) (.int .i64 v.k) (.int .i64 v.n) (.string ⟨v.t.toArray⟩) (.slice a1 v.l.length c1))
  rw [hwA] at ik'
  replace ix' := ix'.since (since_set4 (w := w8) (g := g7) (by simp) (.int .i64 v.k) (.int .i64 v.n) (.string ⟨v.t.toArray⟩) (.slice a1 v.l.length c1))
  rw [hwA] at ix'
  have bwA : Below W.heap.size W wA := by rw [← hwA]; exact below_set4 hb8 hg7 _ _ _ _
  simp only [set4] at hwA
  try rw [hwA]
  clear s0' s1' s2' s3' t0' t1' t2' t3' hwA
  obtain ⟨s0', s1', s2', s3', t0', t1', t2', t3'⟩ := cells_of4 hz8
  obtain ⟨wB, hwB⟩ : ∃ wB, set4 wA g8 (.int .i64 k.k) (.int .i64 k.n) (.string ⟨k.t.toArray⟩) (.slice a2 k.l.length c2) = wB := ⟨_, rfl⟩
  refine wpE_one (i := 10) (by kernel_rfl) rfl rfl (fun K hK => ?_)
  go_simp
  refine hK _ _ (fun h => by cases h) ?_
  clear hK K
  try simp only [Act.put, List.setIfInBounds_toArray, List.set_cons_zero, List.set_cons_succ]
  have ewB : wB.heap.size = wA.heap.size := by rw [← hwB, set4_size]
  replace hz8 : wB.heap[g8]? = some (.cells #[.int .i64 k.k, .int .i64 k.n, .string ⟨k.t.toArray⟩, .slice a2 k.l.length c2] 24) := by rw [← hwB]; exact set4_blk hz8 _ _ _ _
  replace hz7 : wB.heap[g7]? = some (.cells #[.int .i64 v.k, .int .i64 v.n, .string ⟨v.t.toArray⟩, .slice a1 v.l.length c1] 24) := by rw [← hwB, set4_other n78.symm]; exact hz7
  replace hz9 : wB.heap[g9]? = some (.cells #[.int .i64 0, .int .i64 0, .string ⟨#[]⟩, .slice none 0 0] 24 (0, 0)) := by rw [← hwB, set4_other n89]; exact hz9
  replace iv' := iv'.since (since_set4 (w := wA) (g := g8) (by simp) (.int .i64 k.k) (.int .i64 k.n) (.string ⟨k.t.toArray⟩) (.slice a2 k.l.length c2))
  rw [hwB] at iv'
  replace ik' := ik'.since (since_set4 (w := wA) (g := g8) (by simp) (.int .i64 k.k) (.int .i64 k.n) (.string ⟨k.t.toArray⟩) (.slice a2 k.l.length c2))
  rw [hwB] at ik'
  replace ix' := ix'.since (since_set4 (w := wA) (g := g8) (by simp) (.int .i64 k.k) (.int .i64 k.n) (.string ⟨k.t.toArray⟩) (.slice a2 k.l.length c2))
  rw [hwB] at ix'
  have bwB : Below W.heap.size W wB := by rw [← hwB]; exact below_set4 bwA hg8 _ _ _ _
  simp only [set4] at hwB
  try rw [hwB]
  clear s0' s1' s2' s3' t0' t1' t2' t3' hwB
  obtain ⟨s0', s1', s2', s3', t0', t1', t2', t3'⟩ := cells_of4 hz9
  obtain ⟨wC, hwC⟩ : ∃ wC, set4 wB g9 (.int .i64 x.k) (.int .i64 x.n) (.string ⟨x.t.toArray⟩) (.slice a3 x.l.length c3) = wC := ⟨_, rfl⟩
  refine wpE_one (i := 11) (by kernel_rfl) rfl rfl (fun K hK => ?_)
  go_simp
  refine hK _ _ (fun h => by cases h) ?_
  clear hK K
  try simp only [Act.put, List.setIfInBounds_toArray, List.set_cons_zero, List.set_cons_succ]
  have ewC : wC.heap.size = wB.heap.size := by rw [← hwC, set4_size]
  replace hz9 : wC.heap[g9]? = some (.cells #[.int .i64 x.k, .int .i64 x.n, .string ⟨x.t.toArray⟩, .slice a3 x.l.length c3] 24) := by rw [← hwC]; exact set4_blk hz9 _ _ _ _
  replace hz7 : wC.heap[g7]? = some (.cells #[.int .i64 v.k, .int .i64 v.n, .string ⟨v.t.toArray⟩, .slice a1 v.l.length c1] 24) := by rw [← hwC, set4_other n79.symm]; exact hz7
  replace hz8 : wC.heap[g8]? = some (.cells #[.int .i64 k.k, .int .i64 k.n, .string ⟨k.t.toArray⟩, .slice a2 k.l.length c2] 24) := by rw [← hwC, set4_other n89.symm]; exact hz8
  replace iv' := iv'.since (since_set4 (w := wB) (g := g9) (by simp) (.int .i64 x.k) (.int .i64 x.n) (.string ⟨x.t.toArray⟩) (.slice a3 x.l.length c3))
  rw [hwC] at iv'
  replace ik' := ik'.since (since_set4 (w := wB) (g := g9) (by simp) (.int .i64 x.k) (.int .i64 x.n) (.string ⟨x.t.toArray⟩) (.slice a3 x.l.length c3))
  rw [hwC] at ik'
  replace ix' := ix'.since (since_set4 (w := wB) (g := g9) (by simp) (.int .i64 x.k) (.int .i64 x.n) (.string ⟨x.t.toArray⟩) (.slice a3 x.l.length c3))
  rw [hwC] at ix'
  have bwC : Below W.heap.size W wC := by rw [← hwC]; exact below_set4 bwB hg9 _ _ _ _
  simp only [set4] at hwC
  try rw [hwC]
  clear s0' s1' s2' s3' t0' t1' t2' t3' hwC
  refine wpE_done (by kernel_rfl) ?_
  have hlt7 : g7 < wC.heap.size := (Array.getElem?_eq_some_iff.1 hz7).1
  have hlt8 : g8 < wC.heap.size := (Array.getElem?_eq_some_iff.1 hz8).1
  have hlt9 : g9 < wC.heap.size := (Array.getElem?_eq_some_iff.1 hz9).1
  have hcb : ∀ w', Below wC.heap.size wC w' → At4 w' g7 v (.slice a1 v.l.length c1) ∧ At4 w' g8 k (.slice a2 k.l.length c2) ∧ At4 w' g9 x (.slice a3 x.l.length c3) := fun w' h => ⟨(at4_of hz7).below hlt7 h, (at4_of hz8).below hlt8 h, (at4_of hz9).below hlt9 h⟩
  have jv := any_of iv'
  have jk := any_of ik'
  have jx := any_of ix'
  clear iv' ik' ix' hz7 hz8 hz9 bwA bwB hb8 ewA ewB ewC
  clear p0 p1 p2 p3 q0 q1 q2 q3 r0 r1 r2 r3
  simp only [Exit.then]
  refine ‹∀ (a : Act) (w : World), _ → _› _ _ ?_
  have hbP0 : Below wC.heap.size wC wC := Below.refl _ _
  obtain ⟨⟨p0, p1, p2, p3⟩, ⟨q0, q1, q2, q3⟩, ⟨r0, r1, r2, r3⟩⟩ := hcb wC hbP0
  go_wp2_with fail
  have hCp := putW_any (jv.below hbP0) (jk.below hbP0) (jx.below hbP0) (by omega) (by omega) (by omega) hT.out
  obtain ⟨op, HOp⟩ : ∃ o, Hid (putV v k x = o) := ⟨_, rfl⟩
  rw [HOp.out] at hCp
  clear HOp
  refine hCp.mono ?_
  rintro e up ⟨⟨aap, ccp, rfl, -, fp⟩, hbp⟩
  clear hCp
  clear p0 p1 p2 p3 q0 q1 q2 q3 r0 r1 r2 r3
  have hsp := hbp.size
  obtain ⟨uz, Up, hUz, hUp, hbp2, hsp2, hsz2, hblkp, ⟨y0, y1, y2, y3⟩, ⟨z0, z1, z2, z3⟩⟩ := rbox_set up (.int .i64 op.1.k) (.int .i64 op.1.n) (.string ⟨op.1.t.toArray⟩) (.slice aap op.1.l.length ccp)
  replace fp : Wf (Rng wC.heap.size up.heap.size) 1000001 Up (.slice aap op.1.l.length ccp) := (fp.base (P' := Rng wC.heap.size up.heap.size) (fun j h1 h2 => ⟨h1, h2⟩)).below hbp2
  have hstp : Below wC.heap.size wC Up := hbp.trans (hbp2.mono hsp)
  have hbP1 : Below wC.heap.size wC Up := hbP0.trans (hstp.mono hbP0.size)
  obtain ⟨⟨p0, p1, p2, p3⟩, ⟨q0, q1, q2, q3⟩, ⟨r0, r1, r2, r3⟩⟩ := hcb Up hbP1
  go_wp2_with fail
  clear y0 y1 y2 y3 z0 z1 z2 z3 hUz hUp hsz2
  have hCq := pushW_any (jv.below hbP1) (jx.below hbP1) (by omega) (by omega)
  obtain ⟨oq, HOq⟩ : ∃ o, Hid (pushV v x = o) := ⟨_, rfl⟩
  rw [HOq.out] at hCq
  clear HOq
  refine hCq.mono ?_
  rintro e uq ⟨⟨aaq, ccq, rfl, -, fq⟩, hbq⟩
  clear hCq
  clear p0 p1 p2 p3 q0 q1 q2 q3 r0 r1 r2 r3
  have hsq := hbq.size
  obtain ⟨uz, Uq, hUz, hUq, hbq2, hsq2, hsz2, hblkq, ⟨y0, y1, y2, y3⟩, ⟨z0, z1, z2, z3⟩⟩ := rbox_set uq (.int .i64 oq.1.k) (.int .i64 oq.1.n) (.string ⟨oq.1.t.toArray⟩) (.slice aaq oq.1.l.length ccq)
  replace fq : Wf (Rng Up.heap.size uq.heap.size) 1000001 Uq (.slice aaq oq.1.l.length ccq) := (fq.base (P' := Rng Up.heap.size uq.heap.size) (fun j h1 h2 => ⟨h1, h2⟩)).below hbq2
  have hstq : Below Up.heap.size Up Uq := hbq.trans (hbq2.mono hsq)
  have hbP2 : Below wC.heap.size wC Uq := hbP1.trans (hstq.mono hbP1.size)
  replace fp := fp.below hstq
  replace hblkp := (hstq.block _ (by omega)).trans hblkp
  obtain ⟨⟨p0, p1, p2, p3⟩, ⟨q0, q1, q2, q3⟩, ⟨r0, r1, r2, r3⟩⟩ := hcb Uq hbP2
  go_wp2_with fail
  clear y0 y1 y2 y3 z0 z1 z2 z3 hUz hUq hsz2
  have hCr := delW_any (jv.below hbP2) (jk.below hbP2) (by omega) hT.out
  obtain ⟨or, HOr⟩ : ∃ o, Hid (delV v k = o) := ⟨_, rfl⟩
  rw [HOr.out] at hCr
  clear HOr
  refine hCr.mono ?_
  rintro e ur ⟨⟨aar, ccr, rfl, -, fr⟩, hbr⟩
  clear hCr
  clear p0 p1 p2 p3 q0 q1 q2 q3 r0 r1 r2 r3
  have hsr := hbr.size
  obtain ⟨uz, Ur, hUz, hUr, hbr2, hsr2, hsz2, hblkr, ⟨y0, y1, y2, y3⟩, ⟨z0, z1, z2, z3⟩⟩ := rbox_set ur (.int .i64 or.1.k) (.int .i64 or.1.n) (.string ⟨or.1.t.toArray⟩) (.slice aar or.1.l.length ccr)
  replace fr : Wf (Rng Uq.heap.size ur.heap.size) 1000001 Ur (.slice aar or.1.l.length ccr) := (fr.base (P' := Rng Uq.heap.size ur.heap.size) (fun j h1 h2 => ⟨h1, h2⟩)).below hbr2
  have hstr : Below Uq.heap.size Uq Ur := hbr.trans (hbr2.mono hsr)
  have hbP3 : Below wC.heap.size wC Ur := hbP2.trans (hstr.mono hbP2.size)
  replace fp := fp.below hstr
  replace hblkp := (hstr.block _ (by omega)).trans hblkp
  replace fq := fq.below hstr
  replace hblkq := (hstr.block _ (by omega)).trans hblkq
  obtain ⟨⟨p0, p1, p2, p3⟩, ⟨q0, q1, q2, q3⟩, ⟨r0, r1, r2, r3⟩⟩ := hcb Ur hbP3
  go_wp2_with fail
  clear y0 y1 y2 y3 z0 z1 z2 z3 hUz hUr hsz2
  have hCs := atW_any (jv.below hbP3) (jk.below hbP3) (by omega) hT.out
  obtain ⟨os, HOs⟩ : ∃ o, Hid (atV v k = o) := ⟨_, rfl⟩
  rw [HOs.out] at hCs
  clear HOs
  refine hCs.mono ?_
  rintro e us ⟨⟨aas, ccs, rfl, -, fs⟩, hbs⟩
  clear hCs
  clear p0 p1 p2 p3 q0 q1 q2 q3 r0 r1 r2 r3
  have hss := hbs.size
  obtain ⟨uz, Us, hUz, hUs, hbs2, hss2, hsz2, hblks, ⟨y0, y1, y2, y3⟩, ⟨z0, z1, z2, z3⟩⟩ := rbox_set us (.int .i64 os.1.k) (.int .i64 os.1.n) (.string ⟨os.1.t.toArray⟩) (.slice aas os.1.l.length ccs)
  replace fs : Wf (Rng Ur.heap.size us.heap.size) 1000001 Us (.slice aas os.1.l.length ccs) := (fs.base (P' := Rng Ur.heap.size us.heap.size) (fun j h1 h2 => ⟨h1, h2⟩)).below hbs2
  have hsts : Below Ur.heap.size Ur Us := hbs.trans (hbs2.mono hss)
  have hbP4 : Below wC.heap.size wC Us := hbP3.trans (hsts.mono hbP3.size)
  replace fp := fp.below hsts
  replace hblkp := (hsts.block _ (by omega)).trans hblkp
  replace fq := fq.below hsts
  replace hblkq := (hsts.block _ (by omega)).trans hblkq
  replace fr := fr.below hsts
  replace hblkr := (hsts.block _ (by omega)).trans hblkr
  obtain ⟨⟨p0, p1, p2, p3⟩, ⟨q0, q1, q2, q3⟩, ⟨r0, r1, r2, r3⟩⟩ := hcb Us hbP4
  go_wp2_with fail
  clear y0 y1 y2 y3 z0 z1 z2 z3 hUz hUs hsz2
  have hCt := copyW_any 1000001 v _ Any Us (by omega) (by omega) (jv.below hbP4)
  refine hCt.mono ?_
  rintro e ut ⟨⟨aat, cct, rfl, -, ft⟩, hbt⟩
  clear hCt
  clear p0 p1 p2 p3 q0 q1 q2 q3 r0 r1 r2 r3
  have hst := hbt.size
  obtain ⟨uz, Ut, hUz, hUt, hbt2, hst2, hsz2, hblkt, ⟨y0, y1, y2, y3⟩, ⟨z0, z1, z2, z3⟩⟩ := rbox_set ut (.int .i64 v.k) (.int .i64 v.n) (.string ⟨v.t.toArray⟩) (.slice aat v.l.length cct)
  replace ft : Wf (Rng Us.heap.size ut.heap.size) 1000001 Ut (.slice aat v.l.length cct) := (ft.base (P' := Rng Us.heap.size ut.heap.size) (fun j h1 h2 => ⟨h1, h2⟩)).below hbt2
  have hstt : Below Us.heap.size Us Ut := hbt.trans (hbt2.mono hst)
  have hbP5 : Below wC.heap.size wC Ut := hbP4.trans (hstt.mono hbP4.size)
  replace fp := fp.below hstt
  replace hblkp := (hstt.block _ (by omega)).trans hblkp
  replace fq := fq.below hstt
  replace hblkq := (hstt.block _ (by omega)).trans hblkq
  replace fr := fr.below hstt
  replace hblkr := (hstt.block _ (by omega)).trans hblkr
  replace fs := fs.below hstt
  replace hblks := (hstt.block _ (by omega)).trans hblks
  obtain ⟨i0, i1, i2, i3, -⟩ := cells_of4 hblkp
  go_wp2_with fail
  clear y0 y1 y2 y3 z0 z1 z2 z3 hUz hUt hsz2
  have hbY := hbP5
  refine (spoil_any (P := Rng wC.heap.size up.heap.size) 1000001 _ _ _ _ Ut (fun j hj => by have := hj.2; omega) fp).mono ?_
  rintro e Yp ⟨⟨vvp, rfl⟩, hSp⟩
  clear i0 i1 i2 i3 fp
  have hYps := hSp.size
  replace hbY : Below wC.heap.size wC Yp := hbY.trans (hSp.below hbY.size (fun j hj => by have := hj.1; omega))
  replace fq := fq.since (hSp.since (fun j hj hp => by have := hj.1; have := hp.2; omega))
  replace hblkq := (hSp.block _ (by omega) (fun hp => by have := hp.2; omega)).trans hblkq
  replace fr := fr.since (hSp.since (fun j hj hp => by have := hj.1; have := hp.2; omega))
  replace hblkr := (hSp.block _ (by omega) (fun hp => by have := hp.2; omega)).trans hblkr
  replace fs := fs.since (hSp.since (fun j hj hp => by have := hj.1; have := hp.2; omega))
  replace hblks := (hSp.block _ (by omega) (fun hp => by have := hp.2; omega)).trans hblks
  replace ft := ft.since (hSp.since (fun j hj hp => by have := hj.1; have := hp.2; omega))
  replace hblkt := (hSp.block _ (by omega) (fun hp => by have := hp.2; omega)).trans hblkt
  obtain ⟨i0, i1, i2, i3, -⟩ := cells_of4 hblkq
  go_wp2_with fail
  refine (spoil_any (P := Rng Up.heap.size uq.heap.size) 1000001 _ _ _ _ Yp (fun j hj => by have := hj.2; omega) fq).mono ?_
  rintro e Yq ⟨⟨vvq, rfl⟩, hSq⟩
  clear i0 i1 i2 i3 fq
  have hYqs := hSq.size
  replace hbY : Below wC.heap.size wC Yq := hbY.trans (hSq.below hbY.size (fun j hj => by have := hj.1; omega))
  replace fr := fr.since (hSq.since (fun j hj hp => by have := hj.1; have := hp.2; omega))
  replace hblkr := (hSq.block _ (by omega) (fun hp => by have := hp.2; omega)).trans hblkr
  replace fs := fs.since (hSq.since (fun j hj hp => by have := hj.1; have := hp.2; omega))
  replace hblks := (hSq.block _ (by omega) (fun hp => by have := hp.2; omega)).trans hblks
  replace ft := ft.since (hSq.since (fun j hj hp => by have := hj.1; have := hp.2; omega))
  replace hblkt := (hSq.block _ (by omega) (fun hp => by have := hp.2; omega)).trans hblkt
  obtain ⟨i0, i1, i2, i3, -⟩ := cells_of4 hblkr
  go_wp2_with fail
  refine (spoil_any (P := Rng Uq.heap.size ur.heap.size) 1000001 _ _ _ _ Yq (fun j hj => by have := hj.2; omega) fr).mono ?_
  rintro e Yr ⟨⟨vvr, rfl⟩, hSr⟩
  clear i0 i1 i2 i3 fr
  have hYrs := hSr.size
  replace hbY : Below wC.heap.size wC Yr := hbY.trans (hSr.below hbY.size (fun j hj => by have := hj.1; omega))
  replace fs := fs.since (hSr.since (fun j hj hp => by have := hj.1; have := hp.2; omega))
  replace hblks := (hSr.block _ (by omega) (fun hp => by have := hp.2; omega)).trans hblks
  replace ft := ft.since (hSr.since (fun j hj hp => by have := hj.1; have := hp.2; omega))
  replace hblkt := (hSr.block _ (by omega) (fun hp => by have := hp.2; omega)).trans hblkt
  obtain ⟨i0, i1, i2, i3, -⟩ := cells_of4 hblks
  go_wp2_with fail
  refine (spoil_any (P := Rng Ur.heap.size us.heap.size) 1000001 _ _ _ _ Yr (fun j hj => by have := hj.2; omega) fs).mono ?_
  rintro e Ys ⟨⟨vvs, rfl⟩, hSs⟩
  clear i0 i1 i2 i3 fs
  have hYss := hSs.size
  replace hbY : Below wC.heap.size wC Ys := hbY.trans (hSs.below hbY.size (fun j hj => by have := hj.1; omega))
  replace ft := ft.since (hSs.since (fun j hj hp => by have := hj.1; have := hp.2; omega))
  replace hblkt := (hSs.block _ (by omega) (fun hp => by have := hp.2; omega)).trans hblkt
  obtain ⟨i0, i1, i2, i3, -⟩ := cells_of4 hblkt
  go_wp2_with fail
  refine (spoil_any (P := Rng Us.heap.size ut.heap.size) 1000001 _ _ _ _ Ys (fun j hj => by have := hj.2; omega) ft).mono ?_
  rintro e Yt ⟨⟨vvt, rfl⟩, hSt⟩
  clear i0 i1 i2 i3 ft
  have hYts := hSt.size
  replace hbY : Below wC.heap.size wC Yt := hbY.trans (hSt.below hbY.size (fun j hj => by have := hj.1; omega))
  have hbW : Below W.heap.size W Yt := bwC.trans (hbY.mono bwC.size)
  obtain ⟨⟨i0, i1, i2, i3⟩, -⟩ := hcb Yt hbY
  obtain ⟨⟨p0, p1, p2, p3⟩, -⟩ := hcell Yt hbW
  have hSm := rsame_any (jv.below hbY) (hv.below hbW)
  have hself : (cmpV v v == 0) = true := by rw [cmpV_self]; rfl
  rw [hself] at hSm
  clear hself
  go_wp2_with fail
  refine hSm.mono ?_
  rintro e y6 ⟨rfl, hb6⟩
  clear hSm i0 i1 i2 i3 p0 p1 p2 p3
  have hbY6 : Below wC.heap.size wC y6 := hbY.trans (hb6.mono hbY.size)
  have hbW6 : Below W.heap.size W y6 := hbW.trans (hb6.mono hbW.size)
  obtain ⟨-, ⟨i0, i1, i2, i3⟩, -⟩ := hcb y6 hbY6
  obtain ⟨-, ⟨p0, p1, p2, p3⟩, -⟩ := hcell y6 hbW6
  have hSm := rsame_any (jk.below hbY6) (hk.below hbW6)
  have hself : (cmpV k k == 0) = true := by rw [cmpV_self]; rfl
  rw [hself] at hSm
  clear hself
  go_wp2_with fail
  refine hSm.mono ?_
  rintro e y7 ⟨rfl, hb7⟩
  clear hSm i0 i1 i2 i3 p0 p1 p2 p3
  have hbY7 : Below wC.heap.size wC y7 := hbY6.trans (hb7.mono hbY6.size)
  have hbW7 : Below W.heap.size W y7 := hbW6.trans (hb7.mono hbW6.size)
  obtain ⟨-, -, ⟨i0, i1, i2, i3⟩⟩ := hcb y7 hbY7
  obtain ⟨-, -, ⟨p0, p1, p2, p3⟩⟩ := hcell y7 hbW7
  have hSm := rsame_any (jx.below hbY7) (hx.below hbW7)
  have hself : (cmpV x x == 0) = true := by rw [cmpV_self]; rfl
  rw [hself] at hSm
  clear hself
  go_wp2_with fail
  refine hSm.mono ?_
  rintro e y8 ⟨rfl, hb8⟩
  have hbW8 : Below W.heap.size W y8 := hbW7.trans (hb8.mono hbW7.size)
  go_wp2
  go_ret
  exact ⟨rfl, hBf _ hbW8⟩
end Go.Proofs.Ytkbplffckkjbfab
