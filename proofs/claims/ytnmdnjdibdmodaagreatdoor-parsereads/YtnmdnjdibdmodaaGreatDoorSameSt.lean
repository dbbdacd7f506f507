/- The document's comparison of two lists of statements. -/
import Derived.Test.YtnmdnjdibdmodaaGreatDoorSameSl
namespace Go.Proofs.YtnmdnjdibdmodaaGreatDoor
open Go.RowKit
set_option linter.unusedSimpArgs false
set_option linter.unusedVariables false

def SameSS (pl : Bool) (l l' : List Px.St) : Prop := if pl then l = l' else l.map Px.St.er = l'.map Px.St.er
def SameEE (pl : Bool) (l l' : List Px.Ex) : Prop := l.length = l'.length ∧ ∀ (i : Nat) (x y : Px.Ex), l[i]? = some x → l'[i]? = some y → SameE pl x y
theorem SameSS.parts {pl : Bool} {l l' : List Px.St} (h : SameSS pl l l') : l.length = l'.length ∧ ∀ (i : Nat) (k : Nat) (n : Lx.B) (es : List Px.Ex) (b c : List Px.St) (p k' : Nat) (n' : Lx.B) (es' : List Px.Ex) (b' c' : List Px.St) (p' : Nat),
    l[i]? = some (.mk k n es b c p) → l'[i]? = some (.mk k' n' es' b' c' p') → k = k' ∧ n = n' ∧ SameEE pl es es' ∧ SameSS pl b b' ∧ SameSS pl c c' ∧ (pl = true → p = p') := by
  unfold SameSS at h
  cases pl with
  | true =>
    simp only [if_true] at h
    subst h
    refine ⟨rfl, fun i k n es b c p k' n' es' b' c' p' hx hy => ?_⟩
    rw [hx] at hy
    simp only [Option.some.injEq, Px.St.mk.injEq] at hy
    obtain ⟨rfl, rfl, rfl, rfl, rfl, rfl⟩ := hy
    refine ⟨rfl, rfl, ⟨rfl, fun i x y hx hy => ?_⟩, by simp [SameSS], by simp [SameSS], fun _ => rfl⟩
    rw [hx] at hy; simp at hy; subst hy; simp [SameE]
  | false =>
    simp only [Bool.false_eq_true, if_false] at h
    refine ⟨by simpa using congrArg List.length h, fun i k n es b c p k' n' es' b' c' p' hx hy => ?_⟩
    have := congrArg (fun l => l[i]?) h
    simp only [List.getElem?_map, hx, hy, Option.map_some, Option.some.injEq, Px.St.er, Px.St.mk.injEq, Px.ersE_map, Px.ersS_map] at this
    obtain ⟨h1, h2, h3, h4, h5, _⟩ := this
    refine ⟨h1, h2, ⟨by simpa using congrArg List.length h3, fun i x y hx hy => ?_⟩, by simpa [SameSS] using h4, by simpa [SameSS] using h5, fun h => by simp at h⟩
    have := congrArg (fun l => l[i]?) h3
    simp only [List.getElem?_map, hx, hy, Option.map_some, Option.some.injEq] at this
    simpa [SameE] using this

/-- Block b8 holds a statement's nine cells. -/
def StBox (w : World) (b : Nat) (cs : List Value) : Prop := b < w.heap.size ∧ ∀ (j : Nat) (u : Value), cs[j]? = some u → w.cell? ⟨b, j, none⟩ = some u
theorem StBox.below {w w' : World} {b : Nat} {cs : List Value} {B : Nat} (h : StBox w b cs) (m : Below B w w') (hb : b < B) : StBox w' b cs := ⟨by have := m.size; have := h.1; omega, fun j u hj => by rw [m.cell (p := ⟨b, j, none⟩) hb]; exact h.2 j u hj⟩
theorem StBox.of_heap {w : World} {b : Nat} {cs : Array Value} {T : TypeId} {fr : Nat × Nat} (h : w.heap[b]? = some (.cells cs T fr)) : StBox w b cs.toList :=
  ⟨(Array.getElem?_eq_some_iff.1 h).1, fun j u hj => by rw [Lib.cell_of_heap h]; simpa using hj⟩
theorem box_old (w : World) (cs : Array Value) (T : TypeId) (o : Obj) : ((w.alloc (.cells cs T)).alloc o).drew.heap[w.heap.size]? = some (.cells cs T) := by
  show ((w.heap.push _).push _)[w.heap.size]? = _
  rw [Array.getElem?_push, if_neg (by simp), Array.getElem?_push, if_pos rfl]
theorem box_new (w : World) (cs : Array Value) (T : TypeId) (o : Obj) : ((w.alloc o).alloc (.cells cs T)).drew.heap[w.heap.size + 1]? = some (.cells cs T) := by
  show ((w.heap.push _).push _)[w.heap.size + 1]? = _
  rw [Array.getElem?_push, if_pos (by simp)]
theorem below_two {w wr : World} (h : Below w.heap.size w wr) (o1 o2 : Obj) : Below w.heap.size w ((wr.alloc o1).alloc o2).drew :=
  ((h.alloc h.size _).alloc (by have := h.size; simp; omega) _).trans ⟨rfl, rfl, rfl, Nat.le_refl _, fun _ _ => rfl⟩
/-- Two expressions of two lists, at one index: their cells, and what the comparison answers. -/
theorem ex_pair {B : Nat → Prop} {w : World} {es es' : List Px.Ex} {ao ao' : Option Addr} {cap cap' : Nat} {row row' : List Value} {pl : Bool} (hr : SlRow B w 8 (.slice ao es.length cap) es.length row) (ha : AllEx B w es row) (hr' : SlRow B w 8 (.slice ao' es.length cap') es.length row') (ha' : AllEx B w es' row') (hs : SameEE pl es es') (q : Nat) (hq : q < es.length) (wr : World) (hW : Below w.heap.size w wr) :
    ∃ g0 o0 g1 o1 u0 u1 u2 u3 u4 u5 u6 u7 v0 v1 v2 v3 v4 v5 v6 v7, ao = some ⟨g0, o0, none⟩ ∧ ao' = some ⟨g1, o1, none⟩ ∧ g0 < wr.heap.size ∧ g1 < wr.heap.size ∧
      (wr.cell? ⟨g0, o0 + q * 8, none⟩ = some u0 ∧ wr.cell? ⟨g0, o0 + q * 8 + 1, none⟩ = some u1 ∧ wr.cell? ⟨g0, o0 + q * 8 + 2, none⟩ = some u2 ∧ wr.cell? ⟨g0, o0 + q * 8 + 3, none⟩ = some u3 ∧ wr.cell? ⟨g0, o0 + q * 8 + 4, none⟩ = some u4 ∧ wr.cell? ⟨g0, o0 + q * 8 + 5, none⟩ = some u5 ∧ wr.cell? ⟨g0, o0 + q * 8 + 6, none⟩ = some u6 ∧ wr.cell? ⟨g0, o0 + q * 8 + 7, none⟩ = some u7) ∧
      (wr.cell? ⟨g1, o1 + q * 8, none⟩ = some v0 ∧ wr.cell? ⟨g1, o1 + q * 8 + 1, none⟩ = some v1 ∧ wr.cell? ⟨g1, o1 + q * 8 + 2, none⟩ = some v2 ∧ wr.cell? ⟨g1, o1 + q * 8 + 3, none⟩ = some v3 ∧ wr.cell? ⟨g1, o1 + q * 8 + 4, none⟩ = some v4 ∧ wr.cell? ⟨g1, o1 + q * 8 + 5, none⟩ = some v5 ∧ wr.cell? ⟨g1, o1 + q * 8 + 6, none⟩ = some v6 ∧ wr.cell? ⟨g1, o1 + q * 8 + 7, none⟩ = some v7) ∧
      ∀ m, Calls Tryz.prog 42 #[.agg #[u0, u1, u2, u3, u4, u5, u6, u7], .agg #[v0, v1, v2, v3, v4, v5, v6, v7], .bool pl] (wr.drewN m) fun r w' => r = .returned (.bool true) ∧ Below (wr.drewN m).heap.size (wr.drewN m) w' := by
  obtain ⟨hlen, hel⟩ := hs
  obtain ⟨x, hx⟩ : ∃ x, es[q]? = some x := ⟨es[q], List.getElem?_eq_getElem hq⟩
  obtain ⟨y, hy⟩ : ∃ y, es'[q]? = some y := ⟨es'[q]'(by omega), List.getElem?_eq_getElem (by omega)⟩
  obtain ⟨cx, kx, rx⟩ := ha.get hx
  obtain ⟨cy, ky, ry⟩ := ha'.get hy
  obtain ⟨g0, o0, c0, e0, _, _, _, hg0, hc0⟩ := hr.cells (by omega)
  obtain ⟨g1, o1, c1, e1, _, _, _, hg1, hc1⟩ := hr'.cells (by omega)
  simp only [Value.slice.injEq] at e0 e1
  obtain ⟨rfl, _, rfl⟩ := e0
  obtain ⟨rfl, _, rfl⟩ := e1
  have hsn : Since B w wr := ⟨hW.size, fun k _ h => hW.block k h⟩
  have hsz := hW.size
  have lx := kx.len
  have ly := ky.len
  match cx, lx, rx, kx with
  | [u0, u1, u2, u3, u4, u5, u6, u7], _, rx, kx =>
    match cy, ly, ry, ky with
    | [v0, v1, v2, v3, v4, v5, v6, v7], _, ry, ky =>
      have f0 : ∀ (j : Nat) (u : Value), j < 8 → ([u0, u1, u2, u3, u4, u5, u6, u7] : List Value)[j]? = some u → wr.cell? ⟨g0, o0 + q * 8 + j, none⟩ = some u := by
        intro j u hj hu
        rw [Nat.add_assoc, hW.cell (p := ⟨g0, o0 + (q * 8 + j), none⟩) hg0]
        exact hc0 _ _ (by rw [rx j hj]; exact hu)
      have f1 : ∀ (j : Nat) (u : Value), j < 8 → ([v0, v1, v2, v3, v4, v5, v6, v7] : List Value)[j]? = some u → wr.cell? ⟨g1, o1 + q * 8 + j, none⟩ = some u := by
        intro j u hj hu
        rw [Nat.add_assoc, hW.cell (p := ⟨g1, o1 + (q * 8 + j), none⟩) hg1]
        exact hc1 _ _ (by rw [ry j hj]; exact hu)
      exact ⟨g0, o0, g1, o1, u0, u1, u2, u3, u4, u5, u6, u7, v0, v1, v2, v3, v4, v5, v6, v7, rfl, rfl, by omega, by omega, ⟨f0 0 _ (by omega) rfl, f0 1 _ (by omega) rfl, f0 2 _ (by omega) rfl, f0 3 _ (by omega) rfl, f0 4 _ (by omega) rfl, f0 5 _ (by omega) rfl, f0 6 _ (by omega) rfl, f0 7 _ (by omega) rfl⟩,
        ⟨f1 0 _ (by omega) rfl, f1 1 _ (by omega) rfl, f1 2 _ (by omega) rfl, f1 3 _ (by omega) rfl, f1 4 _ (by omega) rfl, f1 5 _ (by omega) rfl, f1 6 _ (by omega) rfl, f1 7 _ (by omega) rfl⟩,
        fun m => sameExpr_any _ x y _ _ pl B (wr.drewN m) (Nat.lt_succ_self _) (kx.since (hsn.trans (Since.drewN B wr m))) (ky.since (hsn.trans (Since.drewN B wr m))) (hel q x y hx hy)⟩

set_option maxRecDepth 100000 in
set_option maxHeartbeats 8000000 in
theorem sameStmts_any : ∀ (N : Nat) (l l' : List Px.St) (v v' : Value) (pl : Bool) (B : Nat → Prop) (w : World), stsSize l < N → IsSts B w l v → IsSts B w l' v' → SameSS pl l l' →
    Calls Tryz.prog 27 #[v, v', .bool pl] w fun r w' => r = .returned (.bool true) ∧ Below w.heap.size w w' := by
  intro N
  induction N with
  | zero => intro l l' v v' pl B w hN; omega
  | succ N ih =>
    intro l l' v v' pl B w hN h1 h2 hs
    obtain ⟨hlen, hel⟩ := SameSS.parts hs
    obtain ⟨row, hr, ha⟩ := h1
    obtain ⟨row', hr', ha'⟩ := h2
    rw [← hlen] at hr'
    obtain ⟨ao, cap, rfl, hm⟩ := hr.slice
    obtain ⟨ao', cap', rfl, _⟩ := hr'.slice
    unfold maxLen at hm
    have hround : ∀ (q : Nat) (wr : World), q < l.length → Below w.heap.size w wr →
        ∃ (g0 o0 g1 o1 k p p' : Nat) (n : Lx.B) (e0 e1 : Option Addr) (ln ec ec' : Nat) (bo0 bo1 co0 co1 : Option Addr) (bn0 bc0 bn1 bc1 cn0 cc0 cn1 cc1 : Nat), ao = some ⟨g0, o0, none⟩ ∧ ao' = some ⟨g1, o1, none⟩ ∧ g0 < wr.heap.size ∧ g1 < wr.heap.size ∧ ln ≤ 2 ^ 63 - 1 ∧
          (wr.cell? ⟨g0, o0 + q * 9, none⟩ = some (.int .i64 k) ∧ wr.cell? ⟨g0, o0 + q * 9 + 1, none⟩ = some (.string ⟨n.toArray⟩) ∧ wr.cell? ⟨g0, o0 + q * 9 + 2, none⟩ = some (.int .i64 0) ∧ wr.cell? ⟨g0, o0 + q * 9 + 3, none⟩ = some (.bool false) ∧ wr.cell? ⟨g0, o0 + q * 9 + 4, none⟩ = some (.int .i64 0) ∧ wr.cell? ⟨g0, o0 + q * 9 + 5, none⟩ = some (.slice e0 ln ec) ∧ wr.cell? ⟨g0, o0 + q * 9 + 6, none⟩ = some (.slice bo0 bn0 bc0) ∧ wr.cell? ⟨g0, o0 + q * 9 + 7, none⟩ = some (.slice co0 cn0 cc0) ∧ wr.cell? ⟨g0, o0 + q * 9 + 8, none⟩ = some (.int .i64 p)) ∧
          (wr.cell? ⟨g1, o1 + q * 9, none⟩ = some (.int .i64 k) ∧ wr.cell? ⟨g1, o1 + q * 9 + 1, none⟩ = some (.string ⟨n.toArray⟩) ∧ wr.cell? ⟨g1, o1 + q * 9 + 2, none⟩ = some (.int .i64 0) ∧ wr.cell? ⟨g1, o1 + q * 9 + 3, none⟩ = some (.bool false) ∧ wr.cell? ⟨g1, o1 + q * 9 + 4, none⟩ = some (.int .i64 0) ∧ wr.cell? ⟨g1, o1 + q * 9 + 5, none⟩ = some (.slice e1 ln ec') ∧ wr.cell? ⟨g1, o1 + q * 9 + 6, none⟩ = some (.slice bo1 bn1 bc1) ∧ wr.cell? ⟨g1, o1 + q * 9 + 7, none⟩ = some (.slice co1 cn1 cc1) ∧ wr.cell? ⟨g1, o1 + q * 9 + 8, none⟩ = some (.int .i64 p')) ∧
          (pl = true → ((p : Int) != (p' : Int)) = false) ∧
          (∀ (j : Nat) (w1 : World), j < ln → Below w.heap.size w w1 → ∃ g2 o2 g3 o3 u0 u1 u2 u3 u4 u5 u6 u7 v0 v1 v2 v3 v4 v5 v6 v7, e0 = some ⟨g2, o2, none⟩ ∧ e1 = some ⟨g3, o3, none⟩ ∧ g2 < w1.heap.size ∧ g3 < w1.heap.size ∧
            (w1.cell? ⟨g2, o2 + j * 8, none⟩ = some u0 ∧ w1.cell? ⟨g2, o2 + j * 8 + 1, none⟩ = some u1 ∧ w1.cell? ⟨g2, o2 + j * 8 + 2, none⟩ = some u2 ∧ w1.cell? ⟨g2, o2 + j * 8 + 3, none⟩ = some u3 ∧ w1.cell? ⟨g2, o2 + j * 8 + 4, none⟩ = some u4 ∧ w1.cell? ⟨g2, o2 + j * 8 + 5, none⟩ = some u5 ∧ w1.cell? ⟨g2, o2 + j * 8 + 6, none⟩ = some u6 ∧ w1.cell? ⟨g2, o2 + j * 8 + 7, none⟩ = some u7) ∧
            (w1.cell? ⟨g3, o3 + j * 8, none⟩ = some v0 ∧ w1.cell? ⟨g3, o3 + j * 8 + 1, none⟩ = some v1 ∧ w1.cell? ⟨g3, o3 + j * 8 + 2, none⟩ = some v2 ∧ w1.cell? ⟨g3, o3 + j * 8 + 3, none⟩ = some v3 ∧ w1.cell? ⟨g3, o3 + j * 8 + 4, none⟩ = some v4 ∧ w1.cell? ⟨g3, o3 + j * 8 + 5, none⟩ = some v5 ∧ w1.cell? ⟨g3, o3 + j * 8 + 6, none⟩ = some v6 ∧ w1.cell? ⟨g3, o3 + j * 8 + 7, none⟩ = some v7) ∧
            ∀ m, Calls Tryz.prog 42 #[.agg #[u0, u1, u2, u3, u4, u5, u6, u7], .agg #[v0, v1, v2, v3, v4, v5, v6, v7], .bool pl] (w1.drewN m) fun r w' => r = .returned (.bool true) ∧ Below (w1.drewN m).heap.size (w1.drewN m) w') ∧
          (∀ w1, Below w.heap.size w w1 → Calls Tryz.prog 27 #[.slice bo0 bn0 bc0, .slice bo1 bn1 bc1, .bool pl] w1 fun r w' => r = .returned (.bool true) ∧ Below w1.heap.size w1 w') ∧
          (∀ w1, Below w.heap.size w w1 → Calls Tryz.prog 27 #[.slice co0 cn0 cc0, .slice co1 cn1 cc1, .bool pl] w1 fun r w' => r = .returned (.bool true) ∧ Below w1.heap.size w1 w') := by
      intro q wr hq hW
      obtain ⟨x, hx⟩ : ∃ x, l[q]? = some x := ⟨l[q], List.getElem?_eq_getElem hq⟩
      obtain ⟨y, hy⟩ : ∃ y, l'[q]? = some y := ⟨l'[q]'(by omega), List.getElem?_eq_getElem (by omega)⟩
      obtain ⟨cx, kx, rx⟩ := ha.get hx
      obtain ⟨cy, ky, ry⟩ := ha'.get hy
      have hsx := stsSize_get hx
      obtain ⟨k, n, es, b, c, p⟩ := x
      obtain ⟨k', n', es', b', c', p'⟩ := y
      obtain ⟨rfl, rfl, hes, hbb, hcc, hpp⟩ := hel q k n es b c p k' n' es' b' c' p' hx hy
      simp only [stSize] at hsx
      rw [IsSt] at kx ky
      obtain ⟨s1, s2, s3, r1, r2, r3, rfl, a1, a2, a3, a4, a5, a6⟩ := kx
      obtain ⟨t1, t2, t3, q1, q2, q3, rfl, d1, d2, d3, d4, d5, d6⟩ := ky
      rw [← hes.1] at d1
      obtain ⟨e0, ec, rfl, hln⟩ := a1.slice
      obtain ⟨e1, ec', rfl, _⟩ := d1.slice
      unfold maxLen at hln
      obtain ⟨bo0, bc0, rfl, _⟩ := a3.slice
      obtain ⟨bo1, bc1, rfl, _⟩ := d3.slice
      obtain ⟨co0, cc0, rfl, _⟩ := a5.slice
      obtain ⟨co1, cc1, rfl, _⟩ := d5.slice
      obtain ⟨g0, o0, z0, y0, _, _, _, hg0, hc0⟩ := hr.cells (by omega)
      obtain ⟨g1, o1, z1, y1, _, _, _, hg1, hc1⟩ := hr'.cells (by omega)
      simp only [Value.slice.injEq] at y0 y1
      obtain ⟨rfl, _, rfl⟩ := y0
      obtain ⟨rfl, _, rfl⟩ := y1
      have hsz := hW.size
      have f0 : ∀ (j : Nat) (u : Value), j < 9 → ([.int .i64 k, .string ⟨n.toArray⟩, .int .i64 0, .bool false, .int .i64 0, .slice e0 es.length ec, .slice bo0 b.length bc0, .slice co0 c.length cc0, .int .i64 p] : List Value)[j]? = some u → wr.cell? ⟨g0, o0 + q * 9 + j, none⟩ = some u := by
        intro j u hj hu
        rw [Nat.add_assoc, hW.cell (p := ⟨g0, o0 + (q * 9 + j), none⟩) hg0]
        exact hc0 _ _ (by rw [rx j hj]; exact hu)
      have f1 : ∀ (j : Nat) (u : Value), j < 9 → ([.int .i64 k, .string ⟨n.toArray⟩, .int .i64 0, .bool false, .int .i64 0, .slice e1 es.length ec', .slice bo1 b'.length bc1, .slice co1 c'.length cc1, .int .i64 p'] : List Value)[j]? = some u → wr.cell? ⟨g1, o1 + q * 9 + j, none⟩ = some u := by
        intro j u hj hu
        rw [Nat.add_assoc, hW.cell (p := ⟨g1, o1 + (q * 9 + j), none⟩) hg1]
        exact hc1 _ _ (by rw [ry j hj]; exact hu)
      refine ⟨g0, o0, g1, o1, k, p, p', n, e0, e1, es.length, ec, ec', bo0, bo1, co0, co1, b.length, bc0, b'.length, bc1, c.length, cc0, c'.length, cc1, rfl, rfl, by omega, by omega, hln, ⟨f0 0 _ (by omega) rfl, f0 1 _ (by omega) rfl, f0 2 _ (by omega) rfl, f0 3 _ (by omega) rfl, f0 4 _ (by omega) rfl, f0 5 _ (by omega) rfl, f0 6 _ (by omega) rfl, f0 7 _ (by omega) rfl, f0 8 _ (by omega) rfl⟩,
        ⟨f1 0 _ (by omega) rfl, f1 1 _ (by omega) rfl, f1 2 _ (by omega) rfl, f1 3 _ (by omega) rfl, f1 4 _ (by omega) rfl, f1 5 _ (by omega) rfl, f1 6 _ (by omega) rfl, f1 7 _ (by omega) rfl, f1 8 _ (by omega) rfl⟩, fun h => by rw [hpp h]; simp, ?_, ?_, ?_⟩
      · intro j w1 hj hW1
        exact ex_pair a1 a2 d1 d2 hes j hj w1 hW1
      · intro w1 hW1
        have hsn : Since B w w1 := ⟨hW1.size, fun k _ h => hW1.block k h⟩
        exact ih b b' _ _ pl B w1 (by omega) ⟨r2, a3.since hsn, a4.since hsn⟩ ⟨q2, d3.since hsn, d4.since hsn⟩ hbb
      · intro w1 hW1
        have hsn : Since B w w1 := ⟨hW1.size, fun k _ h => hW1.block k h⟩
        exact ih c c' _ _ pl B w1 (by omega) ⟨r3, a5.since hsn, a6.since hsn⟩ ⟨q3, d5.since hsn, d6.since hsn⟩ hcc
    clear ih hel hs ha ha' hlen hr hr'
    rcases pl with _ | _
    all_goals
      go_enter Tryz.func27, Tryz.ntmps27
      go_wp2_with fail
      go_loopg [18] l.length (fun g i wr => ∃ q : Nat, q ≤ l.length ∧ g = l.length - q ∧ i = .int .i64 q ∧ Below w.heap.size w wr)
      case atStart => exact ⟨0, Nat.zero_le _, rfl, rfl, Below.refl _ _⟩
      case round =>
        obtain ⟨q, hq, rfl, rfl, hW⟩ := hrel
        by_cases hlt : q < l.length
        · obtain ⟨g0, o0, g1, o1, k, p, p', n, e0, e1, ln, ec, ec', bo0, bo1, co0, co1, bn0, bc0, bn1, bc1, cn0, cc0, cn1, cc1, rfl, rfl, l0, l1, hln, ⟨x0, x1, x2, x3, x4, x5, x6, x7, x8⟩, ⟨y0, y1, y2, y3, y4, y5, y6, y7, y8⟩, hne, hpair, hcb, hcc⟩ := hround q wr hlt hW
          clear hround
          have hltI : (q : Int) < (l.length : Int) := by omega
          go_upto_region 6 with fail
          go_cut [8, 9, 18] from 18 to 117 (fun s8 s9 i wc => i = .int .i64 q ∧ ∃ b8 b9, s8 = .pointer (some ⟨b8, 0, none⟩) ∧ s9 = .pointer (some ⟨b9, 0, none⟩) ∧ StBox wc b8 [.int .i64 k, .string ⟨n.toArray⟩, .int .i64 0, .bool false, .int .i64 0, .slice e0 ln ec, .slice bo0 bn0 bc0, .slice co0 cn0 cc0, .int .i64 p] ∧ StBox wc b9 [.int .i64 k, .string ⟨n.toArray⟩, .int .i64 0, .bool false, .int .i64 0, .slice e1 ln ec', .slice bo1 bn1 bc1, .slice co1 cn1 cc1, .int .i64 p'] ∧ Below w.heap.size w wc)
          case first =>
            go_region
            all_goals (go_wp2_with fail; go_meet)
            all_goals first
              | exact ⟨rfl, _, _, rfl, rfl, StBox.of_heap (box_old _ _ _ _), StBox.of_heap (box_new _ _ _ _), below_two hW _ _⟩
              | exact ⟨rfl, _, _, rfl, rfl, StBox.of_heap (box_new _ _ _ _), StBox.of_heap (box_old _ _ _ _), below_two hW _ _⟩
          case rest =>
            obtain ⟨rfl, b8, b9, rfl, rfl, hx8, hx9, hWc⟩ := hcut
            have d0 := hx8.2 0 _ rfl
            have d1 := hx8.2 1 _ rfl
            have d2 := hx8.2 2 _ rfl
            have d3 := hx8.2 3 _ rfl
            have d4 := hx8.2 4 _ rfl
            have d5 := hx8.2 5 _ rfl
            have d8 := hx8.2 8 _ rfl
            have f0 := hx9.2 0 _ rfl
            have f1 := hx9.2 1 _ rfl
            have f2 := hx9.2 2 _ rfl
            have f3 := hx9.2 3 _ rfl
            have f4 := hx9.2 4 _ rfl
            have f5 := hx9.2 5 _ rfl
            have f8 := hx9.2 8 _ rfl
            have j8 := hx8.1
            have j9 := hx9.1
            clear x0 x1 x2 x3 x4 x5 x6 x7 x8 y0 y1 y2 y3 y4 y5 y6 y7 y8
            try replace hne := hne rfl
            go_wp2_with fail
            clear d0 d1 d2 d3 d4 d5 d8 f0 f1 f2 f3 f4 f5 f8
            go_loopg [84] ln (fun g i wz => ∃ j : Nat, j ≤ ln ∧ g = ln - j ∧ i = .int .i64 j ∧ Below wc.heap.size wc wz)
            case atStart => exact ⟨0, Nat.zero_le _, rfl, rfl, Below.refl _ _⟩
            case round =>
              obtain ⟨j, hj, rfl, rfl, hWz⟩ := hrel
              have hWw : Below w.heap.size w wr := hWc.trans (hWz.mono hWc.size)
              have hy8 := hx8.below hWz j8
              have hy9 := hx9.below hWz j9
              have i8 := hy8.1
              have i9 := hy9.1
              by_cases hlt2 : j < ln
              · obtain ⟨g2, o2, g3, o3, u0, u1, u2, u3, u4, u5, u6, u7, v0, v1, v2, v3, v4, v5, v6, v7, rfl, rfl, m0, m1, ⟨x0, x1, x2, x3, x4, x5, x6, x7⟩, ⟨y0, y1, y2, y3, y4, y5, y6, y7⟩, hcall⟩ := hpair j wr hlt2 hWw
                have d5 := hy8.2 5 _ rfl
                have f5 := hy9.2 5 _ rfl
                have hlt2I : (j : Int) < (ln : Int) := by omega
                clear hpair hcb hcc hy8 hy9 hx8 hx9
                go_upto_region 12 with fail
                go_cut [84, 99] from 84 to 100 (fun i v wq => i = .int .i64 j ∧ v = .bool false ∧ Below wc.heap.size wc wq)
                case first =>
                  go_region_with (go_at_call 42; refine (hcall _).mono ?_; rintro e w5 ⟨rfl, hb5⟩)
                  all_goals (go_wp2_with fail; go_meet; exact ⟨rfl, rfl, (below_drewN' hWz _).trans (hb5.mono hWz.size)⟩)
                case rest =>
                  obtain ⟨rfl, rfl, hBq⟩ := hcut
                  go_wp2_with fail
                  go_roundg (ln - (j + 1))
                  case measure => omega
                  case rel => exact ⟨j + 1, by omega, rfl, by go_num, hBq⟩
              · have hlt2I : ¬ (j : Int) < (ln : Int) := by omega
                have d6 := hy8.2 6 _ rfl
                have d7 := hy8.2 7 _ rfl
                have f6 := hy9.2 6 _ rfl
                have f7 := hy9.2 7 _ rfl
                clear hpair hx8 hx9
                go_wp2_with fail
                refine (hcb wr hWw).mono ?_
                rintro e w5 ⟨rfl, hb5⟩
                have hz8 := hy8.below hb5 i8
                have hz9 := hy9.below hb5 i9
                replace d7 := hz8.2 7 _ rfl
                replace f7 := hz9.2 7 _ rfl
                have t8 := hz8.1
                have t9 := hz9.1
                have hW5 : Below w.heap.size w w5 := hWw.trans (hb5.mono hWw.size)
                clear d6 f6 hcb
                go_wp2_with fail
                refine (hcc w5 hW5).mono ?_
                rintro e w6 ⟨rfl, hb6⟩
                go_wp2_with fail
                go_roundg (l.length - (q + 1))
                case measure => omega
                case rel => exact ⟨q + 1, by omega, rfl, by go_num, hW5.trans (hb6.mono hW5.size)⟩
        · have hltI : ¬ (q : Int) < (l.length : Int) := by omega
          clear hround
          go_wp2
          go_ret
          exact ⟨rfl, hW⟩
end Go.Proofs.YtnmdnjdibdmodaaGreatDoor
