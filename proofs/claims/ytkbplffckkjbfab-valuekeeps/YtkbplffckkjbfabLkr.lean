/- Three copies and three boxes, in whatever order they are made. -/
import Derived.Test.YtkbplffckkjbfabRcp
import Derived.Test.YtkbplffckkjbfabLor
namespace Go.Proofs.Ytkbplffckkjbfab
open Go Go.RowKit
set_option linter.unusedVariables false
set_option linter.unusedSimpArgs false

section
variable {ops : Array Oper} {Q : Exit → Act → World → Prop}
theorem wpOp_call {i : Nat} {K : Act → World → Prop} {a : Act} {w : World} {o : Oper} (s d : Nat) (hi : ops[i]? = some o) (hop : o.op = .call { callee := .value (.func 8), args := #[.tmp s], argTypes := #[24] }) (hd : o.dst = some d) (hg : o.guard = none) {x : Value} (hx : a.eval (.tmp s) = x) {R : Ending → World → Prop} (hC : Calls Try.prog 8 #[x] w R)
    (hR : ∀ r w', R r w' → ∃ v, r = .returned v ∧ K (a.put (some d) v) w') : wpOp Try.prog ops Q i K a w := by
  unfold wpOp
  have hw : Region.wanted o (yielded ops a.tmps) = true := by simp [Region.wanted, hg]
  simp only [hi, hw, if_true]
  left
  unfold Oper.wp execOp
  have hx' : a.tmps[s]?.getD undef = x := by rw [← hx]; simp [Act.eval]
  rw [hop]
  go_simp
  try simp only [hx', hd]
  refine hC.mono fun r w' h => ?_
  obtain ⟨v, rfl, h2⟩ := hR r w' h
  exact h2
theorem wpOp_alloc {i : Nat} {K : Act → World → Prop} {a : Act} {w : World} {o : Oper} (d : Nat) (hi : ops[i]? = some o) (hop : o.op = .alloc 24) (hd : o.dst = some d) (hg : o.guard = none)
    (hR : K (a.put (some d) (.pointer (some ⟨w.heap.size, 0, none⟩))) (w.alloc (.cells #[.int .i64 0, .int .i64 0, .string ⟨#[]⟩, .slice none 0 0] 24))) : wpOp Try.prog ops Q i K a w := by
  unfold wpOp
  have hw : Region.wanted o (yielded ops a.tmps) = true := by simp [Region.wanted, hg]
  simp only [hi, hw, if_true]
  left
  unfold Oper.wp execOp
  rw [hop]
  go_simp
  try simp only [hd]
  exact hR
end
theorem put_comm {a : Act} {i j : Nat} (h : i ≠ j) (x y : Value) : (a.put (some i) x).put (some j) y = (a.put (some j) y).put (some i) x := by
  simp only [Act.put, Act.mk.injEq, and_true]
  exact Array.setIfInBounds_comm _ _ h
theorem put_put {a : Act} {i : Nat} (x y : Value) : (a.put (some i) x).put (some i) y = a.put (some i) y := by
  simp [Act.put]
theorem eval_put {a : Act} {i j : Nat} (h : i ≠ j) (x : Value) : (a.put (some i) x).eval (.tmp j) = a.eval (.tmp j) := by
  simp [Act.put, Act.eval, Array.getElem?_setIfInBounds_ne h]
/-- Which copies have been made, and which boxes. -/
structure St3 where
  v : Option (Option Addr × Nat)
  k : Option (Option Addr × Nat)
  x : Option (Option Addr × Nat)
  p : Option Nat
  q : Option Nat
  r : Option Nat
def vx (u : V) : Option (Option Addr × Nat) → Value
  | none => undef
  | some (a, c) => .agg #[.int .i64 u.k, .int .i64 u.n, .string ⟨u.t.toArray⟩, .slice a u.l.length c]
def gx : Option Nat → Value
  | none => undef
  | some g => .pointer (some ⟨g, 0, none⟩)
def act3 (a0 : Act) (v k x : V) (s : St3) : Act := (((((a0.put (some 37) (vx v s.v)).put (some 39) (vx k s.k)).put (some 41) (vx x s.x)).put (some 7) (gx s.p)).put (some 8) (gx s.q)).put (some 9) (gx s.r)
def lis3 (s : St3) : Array Bool := #[true, s.v.isSome, true, s.k.isSome, true, s.x.isSome, s.p.isSome, s.q.isSome, s.r.isSome, false, false, false]
def box3 (s : St3) (g : Nat) : Prop := s.p = some g ∨ s.q = some g ∨ s.r = some g
def zObj : Obj := .cells #[.int .i64 0, .int .i64 0, .string ⟨#[]⟩, .slice none 0 0] 24 (0, 0)
structure Inv3 (W : World) (v k x : V) (s : St3) (w : World) : Prop where
  bel : Below W.heap.size W w
  iv : ∀ a c, s.v = some (a, c) → IsW (fun j => W.heap.size ≤ j ∧ ¬ box3 s j) w v (.slice a v.l.length c)
  ik : ∀ a c, s.k = some (a, c) → IsW (fun j => W.heap.size ≤ j ∧ ¬ box3 s j) w k (.slice a k.l.length c)
  ix : ∀ a c, s.x = some (a, c) → IsW (fun j => W.heap.size ≤ j ∧ ¬ box3 s j) w x (.slice a x.l.length c)
  ib : ∀ g, box3 s g → W.heap.size ≤ g ∧ w.heap[g]? = some zObj
  pq : ∀ g, s.p = some g → s.q ≠ some g ∧ s.r ≠ some g
  qr : ∀ g, s.q = some g → s.r ≠ some g
  o1 : s.k.isSome = true → s.v.isSome = true
  o2 : s.x.isSome = true → s.k.isSome = true
theorem Inv3.lt {W : World} {v k x : V} {s : St3} {w : World} (h : Inv3 W v k x s w) {g : Nat} (hg : box3 s g) : g < w.heap.size := (Array.getElem?_eq_some_iff.1 (h.ib g hg).2).1
def miss3 (s : St3) : Nat := (if s.v.isSome then 0 else 1) + (if s.k.isSome then 0 else 1) + (if s.x.isSome then 0 else 1) + (if s.p.isSome then 0 else 1) + (if s.q.isSome then 0 else 1) + (if s.r.isSome then 0 else 1)
/-- A copy more. -/
theorem Inv3.copy {W : World} {v k x : V} {s s' : St3} {w w' : World} (h : Inv3 W v k x s w) (hb : Below w.heap.size w w') (hp : s'.p = s.p) (hq : s'.q = s.q) (hr : s'.r = s.r)
    (hv : ∀ a c, s'.v = some (a, c) → s.v = some (a, c) ∨ IsW (From w.heap.size) w' v (.slice a v.l.length c)) (hk : ∀ a c, s'.k = some (a, c) → s.k = some (a, c) ∨ IsW (From w.heap.size) w' k (.slice a k.l.length c)) (hx : ∀ a c, s'.x = some (a, c) → s.x = some (a, c) ∨ IsW (From w.heap.size) w' x (.slice a x.l.length c)) (ho1 : s'.k.isSome = true → s'.v.isSome = true) (ho2 : s'.x.isSome = true → s'.k.isSome = true) : Inv3 W v k x s' w' := by
  have hbx : ∀ g, box3 s' g ↔ box3 s g := fun g => by unfold box3; rw [hp, hq, hr]
  have hs := h.bel.size
  have hnew : ∀ (u : V) (sl : Value), IsW (From w.heap.size) w' u sl → IsW (fun j => W.heap.size ≤ j ∧ ¬ box3 s' j) w' u sl := fun u sl hu => hu.base (fun j hj _ => ⟨by have : w.heap.size ≤ j := hj; omega, fun hg => by have := h.lt ((hbx j).1 hg); have : w.heap.size ≤ j := hj; omega⟩)
  have hold : ∀ (u : V) (sl : Value), IsW (fun j => W.heap.size ≤ j ∧ ¬ box3 s j) w u sl → IsW (fun j => W.heap.size ≤ j ∧ ¬ box3 s' j) w' u sl := fun u sl hu => (hu.below hb).base (fun j hj _ => ⟨hj.1, fun hg => hj.2 ((hbx j).1 hg)⟩)
  refine ⟨h.bel.trans (hb.mono hs), fun a c e => ?_, fun a c e => ?_, fun a c e => ?_, fun g hg => ?_, by rw [hp, hq, hr]; exact h.pq, by rw [hq, hr]; exact h.qr, ho1, ho2⟩
  · rcases hv a c e with e | e
    · exact hold _ _ (h.iv a c e)
    · exact hnew _ _ e
  · rcases hk a c e with e | e
    · exact hold _ _ (h.ik a c e)
    · exact hnew _ _ e
  · rcases hx a c e with e | e
    · exact hold _ _ (h.ix a c e)
    · exact hnew _ _ e
  · have hg' := (hbx g).1 hg
    exact ⟨(h.ib g hg').1, by rw [hb.block g (h.lt hg')]; exact (h.ib g hg').2⟩
/-- A box more. -/
theorem Inv3.box {W : World} {v k x : V} {s s' : St3} {w : World} (h : Inv3 W v k x s w) (hv : s'.v = s.v) (hk : s'.k = s.k) (hx : s'.x = s.x)
    (hb : ∀ g, box3 s' g → box3 s g ∨ g = w.heap.size) (hpq : ∀ g, s'.p = some g → s'.q ≠ some g ∧ s'.r ≠ some g) (hqr : ∀ g, s'.q = some g → s'.r ≠ some g) : Inv3 W v k x s' (w.alloc zObj) := by
  have hba : Below w.heap.size w (w.alloc zObj) := (Below.refl _ _).alloc (Nat.le_refl _) _
  have hs := h.bel.size
  have hold : ∀ (u : V) (sl : Value), IsW (fun j => W.heap.size ≤ j ∧ ¬ box3 s j) w u sl → IsW (fun j => W.heap.size ≤ j ∧ ¬ box3 s' j) (w.alloc zObj) u sl := fun u sl hu => (hu.base (B' := fun j => W.heap.size ≤ j ∧ ¬ box3 s' j) (fun j hj hl => ⟨hj.1, fun hg => by
    rcases hb j hg with hg | hg
    · exact hj.2 hg
    · omega⟩)).below hba
  refine ⟨h.bel.trans (hba.mono hs), fun a c e => hold _ _ (h.iv a c (by rw [← hv]; exact e)), fun a c e => hold _ _ (h.ik a c (by rw [← hk]; exact e)), fun a c e => hold _ _ (h.ix a c (by rw [← hx]; exact e)), fun g hg => ?_, hpq, hqr, by rw [hk, hv]; exact h.o1, by rw [hx, hk]; exact h.o2⟩
  rcases hb g hg with hg | rfl
  · exact ⟨(h.ib g hg).1, by rw [hba.block g (h.lt hg)]; exact (h.ib g hg).2⟩
  · exact ⟨hs, heap_new w zObj⟩
/-- All orders. -/
theorem all3 {ops : Array Oper} {Q : Exit → Act → World → Prop} {S : World → Prop} {N : Nat → Bool} {a0 : Act} {W : World} {v k x : V} {sv sk sx : Value}
    (hop1 : ∃ o, ops[1]? = some o ∧ o.op = .call { callee := .value (.func 8), args := #[.tmp 36], argTypes := #[24] } ∧ o.dst = some 37 ∧ o.guard = none)
    (hop3 : ∃ o, ops[3]? = some o ∧ o.op = .call { callee := .value (.func 8), args := #[.tmp 38], argTypes := #[24] } ∧ o.dst = some 39 ∧ o.guard = none)
    (hop5 : ∃ o, ops[5]? = some o ∧ o.op = .call { callee := .value (.func 8), args := #[.tmp 40], argTypes := #[24] } ∧ o.dst = some 41 ∧ o.guard = none)
    (hop6 : ∃ o, ops[6]? = some o ∧ o.op = .alloc 24 ∧ o.dst = some 7 ∧ o.guard = none)
    (hop7 : ∃ o, ops[7]? = some o ∧ o.op = .alloc 24 ∧ o.dst = some 8 ∧ o.guard = none)
    (hop8 : ∃ o, ops[8]? = some o ∧ o.op = .alloc 24 ∧ o.dst = some 9 ∧ o.guard = none)
    (hrd : ∀ b1 b3 b5 b6 b7 b8 : Bool, (b3 = true → b1 = true) → (b5 = true → b3 = true) → (b1 && b3 && b5 && b6 && b7 && b8) = false → Region.ready .any ops #[true, b1, true, b3, true, b5, b6, b7, b8, false, false, false] ≠ [] ∧ ∀ i ∈ Region.ready .any ops #[true, b1, true, b3, true, b5, b6, b7, b8, false, false, false], (i = 1 ∧ b1 = false) ∨ (i = 3 ∧ b3 = false ∧ b1 = true) ∨ (i = 5 ∧ b5 = false ∧ b3 = true) ∨ (i = 6 ∧ b6 = false) ∨ (i = 7 ∧ b7 = false) ∨ (i = 8 ∧ b8 = false))
    (h36 : a0.eval (.tmp 36) = .agg #[.int .i64 v.k, .int .i64 v.n, .string ⟨v.t.toArray⟩, sv]) (h38 : a0.eval (.tmp 38) = .agg #[.int .i64 k.k, .int .i64 k.n, .string ⟨k.t.toArray⟩, sk]) (h40 : a0.eval (.tmp 40) = .agg #[.int .i64 x.k, .int .i64 x.n, .string ⟨x.t.toArray⟩, sx])
    (hCv : ∀ w, Below W.heap.size W w → Calls Try.prog 8 #[.agg #[.int .i64 v.k, .int .i64 v.n, .string ⟨v.t.toArray⟩, sv]] w fun r w' => NewG w v r w') (hCk : ∀ w, Below W.heap.size W w → Calls Try.prog 8 #[.agg #[.int .i64 k.k, .int .i64 k.n, .string ⟨k.t.toArray⟩, sk]] w fun r w' => NewG w k r w') (hCx : ∀ w, Below W.heap.size W w → Calls Try.prog 8 #[.agg #[.int .i64 x.k, .int .i64 x.n, .string ⟨x.t.toArray⟩, sx]] w fun r w' => NewG w x r w')
    (hS : ∀ w, Below W.heap.size W w → S w)
    (hfin : ∀ s w, (s.v.isSome && s.k.isSome && s.x.isSome && s.p.isSome && s.q.isSome && s.r.isSome) = true → Inv3 W v k x s w → wpE Try.prog .any ops Q S N 3 (lis3 s) (act3 a0 v k x s) w) :
    ∀ (f : Nat) (s : St3) (w : World), miss3 s + 3 = f → Inv3 W v k x s w → wpE Try.prog .any ops Q S N f (lis3 s) (act3 a0 v k x s) w := by
  obtain ⟨o1, p1, q1, d1, g1⟩ := hop1
  obtain ⟨o3, p3, q3, d3, g3⟩ := hop3
  obtain ⟨o5, p5, q5, d5, g5⟩ := hop5
  obtain ⟨o6, p6, q6, d6, g6⟩ := hop6
  obtain ⟨o7, p7, q7, d7, g7⟩ := hop7
  obtain ⟨o8, p8, q8, d8, g8⟩ := hop8
  have e36 : ∀ s, (act3 a0 v k x s).eval (.tmp 36) = .agg #[.int .i64 v.k, .int .i64 v.n, .string ⟨v.t.toArray⟩, sv] := fun s => by unfold act3; rw [eval_put (by decide), eval_put (by decide), eval_put (by decide), eval_put (by decide), eval_put (by decide), eval_put (by decide)]; exact h36
  have e38 : ∀ s, (act3 a0 v k x s).eval (.tmp 38) = .agg #[.int .i64 k.k, .int .i64 k.n, .string ⟨k.t.toArray⟩, sk] := fun s => by unfold act3; rw [eval_put (by decide), eval_put (by decide), eval_put (by decide), eval_put (by decide), eval_put (by decide), eval_put (by decide)]; exact h38
  have e40 : ∀ s, (act3 a0 v k x s).eval (.tmp 40) = .agg #[.int .i64 x.k, .int .i64 x.n, .string ⟨x.t.toArray⟩, sx] := fun s => by unfold act3; rw [eval_put (by decide), eval_put (by decide), eval_put (by decide), eval_put (by decide), eval_put (by decide), eval_put (by decide)]; exact h40
  intro f
  induction f with
  | zero => intro s w hf; omega
  | succ f ih =>
    intro s w hf hI
    by_cases hall : (s.v.isSome && s.k.isSome && s.x.isSome && s.p.isSome && s.q.isSome && s.r.isSome) = true
    · have : f + 1 = 3 := by
        simp only [Bool.and_eq_true] at hall
        unfold miss3 at hf
        simp only [hall, if_true] at hf
        omega
      rw [this]
      exact hfin s w hall hI
    · obtain ⟨hne, hin⟩ := hrd s.v.isSome s.k.isSome s.x.isSome s.p.isSome s.q.isSome s.r.isSome hI.o1 hI.o2 (by simpa using hall)
      refine ⟨fun h0 => absurd h0 hne, fun i hi => ?_⟩
      obtain ⟨sv', sk', sx', sp, sq, sr⟩ := s
      rcases hin i hi with ⟨rfl, hb⟩ | ⟨rfl, hb, hbo⟩ | ⟨rfl, hb, hbo⟩ | ⟨rfl, hb⟩ | ⟨rfl, hb⟩ | ⟨rfl, hb⟩
      · simp only [Option.isSome_eq_false_iff, Option.isNone_iff_eq_none] at hb
        subst hb
        refine wpOp_call 36 37 p1 q1 d1 g1 (e36 _) (hCv w hI.bel) ?_
        rintro r w' ⟨⟨a, c, rfl, h1, -⟩, hb'⟩
        have hI' : Inv3 W v k x ⟨some (a, c), sk', sx', sp, sq, sr⟩ w' := hI.copy hb' rfl rfl rfl (fun a' c' e => by simp at e; obtain ⟨rfl, rfl⟩ := e; exact Or.inr h1) (fun a' c' e => Or.inl e) (fun a' c' e => Or.inl e) (fun _ => rfl) hI.o2
        refine ⟨_, rfl, fun _ => hS _ hI'.bel, ?_⟩
        have := ih _ w' (by unfold miss3 at hf ⊢; simp at hf ⊢; omega) hI'
        have ea : (act3 a0 v k x ⟨none, sk', sx', sp, sq, sr⟩).put (some 37) (.agg #[.int .i64 v.k, .int .i64 v.n, .string ⟨v.t.toArray⟩, .slice a v.l.length c]) = act3 a0 v k x ⟨some (a, c), sk', sx', sp, sq, sr⟩ := by
          unfold act3
          rw [put_comm (i := 9) (by decide), put_comm (i := 8) (by decide), put_comm (i := 7) (by decide), put_comm (i := 41) (by decide), put_comm (i := 39) (by decide), put_put]
          rfl
        rw [ea]
        exact this
      · simp only [Option.isSome_eq_false_iff, Option.isNone_iff_eq_none] at hb
        subst hb
        refine wpOp_call 38 39 p3 q3 d3 g3 (e38 _) (hCk w hI.bel) ?_
        rintro r w' ⟨⟨a, c, rfl, h1, -⟩, hb'⟩
        have hI' : Inv3 W v k x ⟨sv', some (a, c), sx', sp, sq, sr⟩ w' := hI.copy hb' rfl rfl rfl (fun a' c' e => Or.inl e) (fun a' c' e => by simp at e; obtain ⟨rfl, rfl⟩ := e; exact Or.inr h1) (fun a' c' e => Or.inl e) (fun _ => hbo) (fun _ => rfl)
        refine ⟨_, rfl, fun _ => hS _ hI'.bel, ?_⟩
        have := ih _ w' (by unfold miss3 at hf ⊢; simp at hf ⊢; omega) hI'
        have ea : (act3 a0 v k x ⟨sv', none, sx', sp, sq, sr⟩).put (some 39) (.agg #[.int .i64 k.k, .int .i64 k.n, .string ⟨k.t.toArray⟩, .slice a k.l.length c]) = act3 a0 v k x ⟨sv', some (a, c), sx', sp, sq, sr⟩ := by
          unfold act3
          rw [put_comm (i := 9) (by decide), put_comm (i := 8) (by decide), put_comm (i := 7) (by decide), put_comm (i := 41) (by decide), put_put]
          rfl
        rw [ea]
        exact this
      · simp only [Option.isSome_eq_false_iff, Option.isNone_iff_eq_none] at hb
        subst hb
        refine wpOp_call 40 41 p5 q5 d5 g5 (e40 _) (hCx w hI.bel) ?_
        rintro r w' ⟨⟨a, c, rfl, h1, -⟩, hb'⟩
        have hI' : Inv3 W v k x ⟨sv', sk', some (a, c), sp, sq, sr⟩ w' := hI.copy hb' rfl rfl rfl (fun a' c' e => Or.inl e) (fun a' c' e => Or.inl e) (fun a' c' e => by simp at e; obtain ⟨rfl, rfl⟩ := e; exact Or.inr h1) hI.o1 (fun _ => hbo)
        refine ⟨_, rfl, fun _ => hS _ hI'.bel, ?_⟩
        have := ih _ w' (by unfold miss3 at hf ⊢; simp at hf ⊢; omega) hI'
        have ea : (act3 a0 v k x ⟨sv', sk', none, sp, sq, sr⟩).put (some 41) (.agg #[.int .i64 x.k, .int .i64 x.n, .string ⟨x.t.toArray⟩, .slice a x.l.length c]) = act3 a0 v k x ⟨sv', sk', some (a, c), sp, sq, sr⟩ := by
          unfold act3
          rw [put_comm (i := 9) (by decide), put_comm (i := 8) (by decide), put_comm (i := 7) (by decide), put_put]
          rfl
        rw [ea]
        exact this
      · simp only [Option.isSome_eq_false_iff, Option.isNone_iff_eq_none] at hb
        subst hb
        have hI' : Inv3 W v k x ⟨sv', sk', sx', some w.heap.size, sq, sr⟩ (w.alloc zObj) := hI.box rfl rfl rfl (fun g hg => by
            rcases hg with hg | hg | hg
            · exact Or.inr (Option.some.inj hg).symm
            · exact Or.inl (Or.inr (Or.inl hg))
            · exact Or.inl (Or.inr (Or.inr hg))) (fun g hg => by
            obtain rfl := Option.some.inj hg
            exact ⟨fun e => by have := hI.lt (Or.inr (Or.inl e)); omega, fun e => by have := hI.lt (Or.inr (Or.inr e)); omega⟩) hI.qr
        refine wpOp_alloc 7 p6 q6 d6 g6 ⟨fun _ => hS _ hI'.bel, ?_⟩
        have := ih _ _ (by unfold miss3 at hf ⊢; simp at hf ⊢; omega) hI'
        have ea : (act3 a0 v k x ⟨sv', sk', sx', none, sq, sr⟩).put (some 7) (.pointer (some ⟨w.heap.size, 0, none⟩)) = act3 a0 v k x ⟨sv', sk', sx', some w.heap.size, sq, sr⟩ := by
          unfold act3
          rw [put_comm (i := 9) (by decide), put_comm (i := 8) (by decide), put_put]
          rfl
        rw [ea]
        exact this
      · simp only [Option.isSome_eq_false_iff, Option.isNone_iff_eq_none] at hb
        subst hb
        have hI' : Inv3 W v k x ⟨sv', sk', sx', sp, some w.heap.size, sr⟩ (w.alloc zObj) := hI.box rfl rfl rfl (fun g hg => by
            rcases hg with hg | hg | hg
            · exact Or.inl (Or.inl hg)
            · exact Or.inr (Option.some.inj hg).symm
            · exact Or.inl (Or.inr (Or.inr hg))) (fun g hg => ⟨fun e => by obtain rfl := Option.some.inj e; have := hI.lt (Or.inl hg); omega, (hI.pq g hg).2⟩) (fun g hg => by
            obtain rfl := Option.some.inj hg
            exact fun e => by have := hI.lt (Or.inr (Or.inr e)); omega)
        refine wpOp_alloc 8 p7 q7 d7 g7 ⟨fun _ => hS _ hI'.bel, ?_⟩
        have := ih _ _ (by unfold miss3 at hf ⊢; simp at hf ⊢; omega) hI'
        have ea : (act3 a0 v k x ⟨sv', sk', sx', sp, none, sr⟩).put (some 8) (.pointer (some ⟨w.heap.size, 0, none⟩)) = act3 a0 v k x ⟨sv', sk', sx', sp, some w.heap.size, sr⟩ := by
          unfold act3
          rw [put_comm (i := 9) (by decide), put_put]
          rfl
        rw [ea]
        exact this
      · simp only [Option.isSome_eq_false_iff, Option.isNone_iff_eq_none] at hb
        subst hb
        have hI' : Inv3 W v k x ⟨sv', sk', sx', sp, sq, some w.heap.size⟩ (w.alloc zObj) := hI.box rfl rfl rfl (fun g hg => by
            rcases hg with hg | hg | hg
            · exact Or.inl (Or.inl hg)
            · exact Or.inl (Or.inr (Or.inl hg))
            · exact Or.inr (Option.some.inj hg).symm) (fun g hg => ⟨(hI.pq g hg).1, fun e => by obtain rfl := Option.some.inj e; have := hI.lt (Or.inl hg); omega⟩) (fun g hg e => by
            obtain rfl := Option.some.inj e
            have := hI.lt (Or.inr (Or.inl hg)); omega)
        refine wpOp_alloc 9 p8 q8 d8 g8 ⟨fun _ => hS _ hI'.bel, ?_⟩
        have := ih _ _ (by unfold miss3 at hf ⊢; simp at hf ⊢; omega) hI'
        have ea : (act3 a0 v k x ⟨sv', sk', sx', sp, sq, none⟩).put (some 9) (.pointer (some ⟨w.heap.size, 0, none⟩)) = act3 a0 v k x ⟨sv', sk', sx', sp, sq, some w.heap.size⟩ := by
          unfold act3
          rw [put_put]
          rfl
        rw [ea]
        exact this
end Go.Proofs.Ytkbplffckkjbfab
