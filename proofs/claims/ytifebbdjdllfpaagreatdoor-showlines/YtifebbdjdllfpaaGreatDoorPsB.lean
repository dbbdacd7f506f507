import Derived.Test.YtifebbdjdllfpaaGreatDoorPsA
import Derived.Deep.Cut
import Derived.Deep.CutRange
import Derived.OrdersHeld
/- Operators: which a mark is, and of which level; whether the next token is one of a level. -/
namespace Go.Proofs.YtifebbdjdllfpaaGreatDoor
open Go.RowKit
set_option linter.unusedSimpArgs false
set_option linter.unusedVariables false

theorem pbytes_no {t x : List UInt8} (h : ¬ t = x) : (t == x) = false := by simpa using h
def lvOf (x : Lx.B) : Nat × Nat := Px.levelOf ⟨4, x, 0, 0⟩
theorem lvOf_eq {t : Lx.Tok} (h : t.kind = 4) : Px.levelOf t = lvOf t.text := by
  obtain ⟨k, x, m, p⟩ := t
  simp only at h
  subst h
  rfl
set_option maxRecDepth 100000 in
set_option maxHeartbeats 8000000 in
theorem popOf_any (t : Lx.B) (w : World) : Calls Tryz.prog 168 #[.string ⟨t.toArray⟩] w fun r w' => r = .returned (.tuple #[.int .i64 ((lvOf t).2 : Nat), .int .i64 ((lvOf t).1 - 1 : Nat)]) ∧ w' = w := by
  by_cases h0 : t = [124, 124]
  · subst h0
    go_enter Tryz.func168, Tryz.ntmps168
    go_wp2
    go_ret2
    exact ⟨rfl, rfl⟩
  by_cases h1 : t = [38, 38]
  · subst h1
    go_enter Tryz.func168, Tryz.ntmps168
    go_wp2
    go_ret2
    exact ⟨rfl, rfl⟩
  by_cases h2 : t = [61, 61]
  · subst h2
    go_enter Tryz.func168, Tryz.ntmps168
    go_wp2
    go_ret2
    exact ⟨rfl, rfl⟩
  by_cases h3 : t = [33, 61]
  · subst h3
    go_enter Tryz.func168, Tryz.ntmps168
    go_wp2
    go_ret2
    exact ⟨rfl, rfl⟩
  by_cases h4 : t = [60]
  · subst h4
    go_enter Tryz.func168, Tryz.ntmps168
    go_wp2
    go_ret2
    exact ⟨rfl, rfl⟩
  by_cases h5 : t = [60, 61]
  · subst h5
    go_enter Tryz.func168, Tryz.ntmps168
    go_wp2
    go_ret2
    exact ⟨rfl, rfl⟩
  by_cases h6 : t = [62]
  · subst h6
    go_enter Tryz.func168, Tryz.ntmps168
    go_wp2
    go_ret2
    exact ⟨rfl, rfl⟩
  by_cases h7 : t = [62, 61]
  · subst h7
    go_enter Tryz.func168, Tryz.ntmps168
    go_wp2
    go_ret2
    exact ⟨rfl, rfl⟩
  by_cases h8 : t = [43]
  · subst h8
    go_enter Tryz.func168, Tryz.ntmps168
    go_wp2
    go_ret2
    exact ⟨rfl, rfl⟩
  by_cases h9 : t = [45]
  · subst h9
    go_enter Tryz.func168, Tryz.ntmps168
    go_wp2
    go_ret2
    exact ⟨rfl, rfl⟩
  by_cases h10 : t = [42]
  · subst h10
    go_enter Tryz.func168, Tryz.ntmps168
    go_wp2
    go_ret2
    exact ⟨rfl, rfl⟩
  by_cases h11 : t = [47]
  · subst h11
    go_enter Tryz.func168, Tryz.ntmps168
    go_wp2
    go_ret2
    exact ⟨rfl, rfl⟩
  by_cases h12 : t = [37]
  · subst h12
    go_enter Tryz.func168, Tryz.ntmps168
    go_wp2
    go_ret2
    exact ⟨rfl, rfl⟩
  have hl : lvOf t = (0, 0) := by simp [lvOf, Px.levelOf, h0, h1, h2, h3, h4, h5, h6, h7, h8, h9, h10, h11, h12]
  rw [hl]
  replace h0 := pbytes_no h0
  replace h1 := pbytes_no h1
  replace h2 := pbytes_no h2
  replace h3 := pbytes_no h3
  replace h4 := pbytes_no h4
  replace h5 := pbytes_no h5
  replace h6 := pbytes_no h6
  replace h7 := pbytes_no h7
  replace h8 := pbytes_no h8
  replace h9 := pbytes_no h9
  replace h10 := pbytes_no h10
  replace h11 := pbytes_no h11
  replace h12 := pbytes_no h12
  clear hl
  go_enter Tryz.func168, Tryz.ntmps168
  go_wp2
  go_ret2
  exact ⟨rfl, rfl⟩
/-- The next token's Op, if it is an operator of the level (from 0 on); else 0. -/
def opAt (n : Nat) (t : Lx.Tok) : Nat := if (Px.levelOf t).1 = n + 1 then (Px.levelOf t).2 else 0
theorem lv_all (t : Lx.Tok) (p : Nat × Nat) (h : Px.levelOf t = p) : (p.1 = 0 → p.2 = 0) ∧ (p.1 ≠ 0 → p.2 ≠ 0) ∧ p.1 ≤ 5 ∧ p.2 ≤ 13 := by
  by_cases hk : t.kind = 4
  rotate_left
  · have e : Px.levelOf t = (0, 0) := by unfold Px.levelOf; rw [if_neg hk]
    rw [e] at h; rw [← h]; decide
  by_cases h0 : t.text = [124, 124]
  · have e : Px.levelOf t = (1, 1) := by simp [Px.levelOf, hk, h0]
    rw [e] at h; rw [← h]; decide
  by_cases h1 : t.text = [38, 38]
  · have e : Px.levelOf t = (2, 2) := by simp [Px.levelOf, hk, h1]
    rw [e] at h; rw [← h]; decide
  by_cases h2 : t.text = [61, 61]
  · have e : Px.levelOf t = (3, 3) := by simp [Px.levelOf, hk, h2]
    rw [e] at h; rw [← h]; decide
  by_cases h3 : t.text = [33, 61]
  · have e : Px.levelOf t = (3, 4) := by simp [Px.levelOf, hk, h3]
    rw [e] at h; rw [← h]; decide
  by_cases h4 : t.text = [60]
  · have e : Px.levelOf t = (3, 5) := by simp [Px.levelOf, hk, h4]
    rw [e] at h; rw [← h]; decide
  by_cases h5 : t.text = [60, 61]
  · have e : Px.levelOf t = (3, 6) := by simp [Px.levelOf, hk, h5]
    rw [e] at h; rw [← h]; decide
  by_cases h6 : t.text = [62]
  · have e : Px.levelOf t = (3, 7) := by simp [Px.levelOf, hk, h6]
    rw [e] at h; rw [← h]; decide
  by_cases h7 : t.text = [62, 61]
  · have e : Px.levelOf t = (3, 8) := by simp [Px.levelOf, hk, h7]
    rw [e] at h; rw [← h]; decide
  by_cases h8 : t.text = [43]
  · have e : Px.levelOf t = (4, 9) := by simp [Px.levelOf, hk, h8]
    rw [e] at h; rw [← h]; decide
  by_cases h9 : t.text = [45]
  · have e : Px.levelOf t = (4, 10) := by simp [Px.levelOf, hk, h9]
    rw [e] at h; rw [← h]; decide
  by_cases h10 : t.text = [42]
  · have e : Px.levelOf t = (5, 11) := by simp [Px.levelOf, hk, h10]
    rw [e] at h; rw [← h]; decide
  by_cases h11 : t.text = [47]
  · have e : Px.levelOf t = (5, 12) := by simp [Px.levelOf, hk, h11]
    rw [e] at h; rw [← h]; decide
  by_cases h12 : t.text = [37]
  · have e : Px.levelOf t = (5, 13) := by simp [Px.levelOf, hk, h12]
    rw [e] at h; rw [← h]; decide
  have e : Px.levelOf t = (0, 0) := by simp [Px.levelOf, h0, h1, h2, h3, h4, h5, h6, h7, h8, h9, h10, h11, h12]
  rw [e] at h; rw [← h]; decide
theorem lv_none (t : Lx.Tok) : (Px.levelOf t).1 = 0 → (Px.levelOf t).2 = 0 := (lv_all t _ rfl).1
theorem lv_some (t : Lx.Tok) : (Px.levelOf t).1 ≠ 0 → (Px.levelOf t).2 ≠ 0 := (lv_all t _ rfl).2.1
theorem lv_five (t : Lx.Tok) : (Px.levelOf t).1 ≤ 5 ∧ (Px.levelOf t).2 ≤ 13 := (lv_all t _ rfl).2.2
set_option maxRecDepth 100000 in
set_option maxHeartbeats 8000000 in
theorem poperator_any {b ga : Nat} {t : Lx.Tok} {r : List Lx.Tok} {w : World} (h : Ps b ga (t :: r) w) (n : Nat) (hn : n ≤ 5) :
    Calls Tryz.prog 164 #[.pointer (some ⟨b, 0, none⟩), .int .i64 n] w fun e w' => e = .returned (.int .i64 (opAt n t : Nat)) ∧ Below w.heap.size w w' := by
  have hN := pnext_any h
  have hf0 := tokF0
  have hf1 := tokF1
  by_cases hk : t.kind = 4
  · have hkI : ((t.kind : Int) != 4) = false := by simp; omega
    have hle := lvOf_eq hk
    have hL5 := (lv_five t).1
    have hO := popOf_any t.text
    rw [← hle] at hO
    have hnone := lv_none t
    by_cases hl : (Px.levelOf t).1 - 1 = n
    · have hlI : ((((Px.levelOf t).1 - 1 : Nat) : Int) != (n : Int)) = false := by simp; omega
      have hres : opAt n t = (Px.levelOf t).2 := by
        unfold opAt
        by_cases h1 : (Px.levelOf t).1 = n + 1
        · rw [if_pos h1]
        · rw [if_neg h1, hnone (by omega)]
      rw [hres]
      clear hres hnone hle hk hl
      generalize (Px.levelOf t).1 - 1 = lv at *
      generalize (Px.levelOf t).2 = op at *
      go_enter Tryz.func164, Tryz.ntmps164
      go_wp2_with fail
      refine hN.mono ?_
      rintro e w1 ⟨rfl, hb1⟩
      have h1 := h.below hb1
      go_wp2_with fail
      refine (pnext_any h1).mono ?_
      rintro e w2 ⟨rfl, hb2⟩
      go_wp2_with fail
      refine (hO w2).mono ?_
      rintro e w3 ⟨rfl, rfl⟩
      go_wp2
      go_ret
      exact ⟨rfl, hb1.trans (hb2.mono hb1.size)⟩
    · have hlI : ((((Px.levelOf t).1 - 1 : Nat) : Int) != (n : Int)) = true := by simp; omega
      have hres : opAt n t = 0 := by
        unfold opAt
        rw [if_neg (by omega)]
      rw [hres]
      clear hres hnone hle hk hl
      generalize (Px.levelOf t).1 - 1 = lv at *
      generalize (Px.levelOf t).2 = op at *
      go_enter Tryz.func164, Tryz.ntmps164
      go_wp2_with fail
      refine hN.mono ?_
      rintro e w1 ⟨rfl, hb1⟩
      have h1 := h.below hb1
      go_wp2_with fail
      refine (pnext_any h1).mono ?_
      rintro e w2 ⟨rfl, hb2⟩
      go_wp2_with fail
      refine (hO w2).mono ?_
      rintro e w3 ⟨rfl, rfl⟩
      go_wp2
      go_ret
      exact ⟨rfl, hb1.trans (hb2.mono hb1.size)⟩
  · have hkI : ((t.kind : Int) != 4) = true := by simp; omega
    have hres : opAt n t = 0 := by
      unfold opAt Px.levelOf
      rw [if_neg hk]; simp
    rw [hres]
    clear hres hk
    go_enter Tryz.func164, Tryz.ntmps164
    go_wp2_with fail
    refine hN.mono ?_
    rintro e w1 ⟨rfl, hb1⟩
    go_wp2
    go_ret
    exact ⟨rfl, hb1⟩
end Go.Proofs.YtifebbdjdllfpaaGreatDoor
/- Expressions in memory: their eight cells; two side by side; one in a box. -/
namespace Go.Proofs.YtifebbdjdllfpaaGreatDoor
open Go.RowKit
set_option linter.unusedSimpArgs false
set_option linter.unusedVariables false

abbrev eV (k o n : Nat) (t : Lx.B) (sl : Value) (p : Nat) : Value := .agg #[.int .i64 k, .int .i64 o, .int .i64 n, .string ⟨t.toArray⟩, .int .i64 0, .string ⟨#[]⟩, sl, .int .i64 p]
abbrev eL (k o n : Nat) (t : Lx.B) (sl : Value) (p : Nat) : List Value := [.int .i64 k, .int .i64 o, .int .i64 n, .string ⟨t.toArray⟩, .int .i64 0, .string ⟨#[]⟩, sl, .int .i64 p]
abbrev eO (k o n : Nat) (t : Lx.B) (sl : Value) (p : Nat) : Obj := .cells #[.int .i64 k, .int .i64 o, .int .i64 n, .string ⟨t.toArray⟩, .int .i64 0, .string ⟨#[]⟩, sl, .int .i64 p] 24 (0, 0)
abbrev zeroE : Obj := eO 0 0 0 [] (.slice none 0 0) 0
abbrev eS (w : World) (g k o n : Nat) (t : Lx.B) (sl : Value) (p : Nat) : World := w8 w g (.int .i64 k) (.int .i64 o) (.int .i64 n) (.string ⟨t.toArray⟩) (.int .i64 0) (.string ⟨#[]⟩) sl (.int .i64 p)
/-- An expression's value. -/
def ExV (B : Nat → Prop) (w : World) (x : Px.Ex) (v : Value) : Prop := ∃ k o n t ao an ac p, v = eV k o n t (.slice ao an ac) p ∧ IsEx B w x (eL k o n t (.slice ao an ac) p)
theorem plow {B B' : Nat → Prop} {w : World} {sz : Nat} {v : Value} {n : Nat} {row : List Value} (hb : ∀ k, B k → k < w.heap.size → B' k) (h : SlRow B w sz v n row) : SlRow B' w sz v n row := by
  obtain ⟨h1, h2⟩ := h
  refine ⟨h1, ?_⟩
  rcases h2 with h2 | ⟨g, o, cap, hv, hc, hm, hB, hg, r⟩
  · exact Or.inl h2
  · exact Or.inr ⟨g, o, cap, hv, hc, hm, hb _ hB hg, hg, r⟩
mutual
theorem IsEx.plow {B B' : Nat → Prop} {w : World} (hb : ∀ k, B k → k < w.heap.size → B' k) : ∀ {e : Px.Ex} {cs : List Value}, IsEx B w e cs → IsEx B' w e cs
  | .mk k o n t args p, cs, h => by
    rw [IsEx] at h ⊢
    obtain ⟨sl, row, hc, hr, ha⟩ := h
    exact ⟨sl, row, hc, Go.Proofs.YtifebbdjdllfpaaGreatDoor.plow hb hr, AllEx.plow hb ha⟩
theorem AllEx.plow {B B' : Nat → Prop} {w : World} (hb : ∀ k, B k → k < w.heap.size → B' k) : ∀ {l : List Px.Ex} {cs : List Value}, AllEx B w l cs → AllEx B' w l cs
  | [], cs, h => by rw [AllEx] at h ⊢; exact h
  | e :: r, cs, h => by
    rw [AllEx] at h ⊢
    obtain ⟨c1, c2, hc, h1, h2⟩ := h
    exact ⟨c1, c2, hc, IsEx.plow hb h1, AllEx.plow hb h2⟩
end
theorem ex_leaf (B : Nat → Prop) (w : World) (k o n : Nat) (t : Lx.B) (p : Nat) : IsEx B w (.mk k o n t [] p) (eL k o n t (.slice none 0 0) p) := by
  rw [IsEx]
  exact ⟨_, [], rfl, ⟨rfl, Or.inl ⟨rfl, rfl⟩⟩, by rw [AllEx]⟩
/-- One expression in a new block, and what stands over it. -/
theorem ex_one {B : Nat → Prop} {w : World} {gs k p : Nat} {x : Px.Ex} {cx : List Value} (hB : B gs) (hg : gs < w.heap.size) (hc : ∀ (j : Nat) (u : Value), cx[j]? = some u → w.cell? ⟨gs, j, none⟩ = some u) (hx : IsEx B w x cx) :
    IsEx B w (.mk k 0 0 [] [x] p) (eL k 0 0 [] (.slice (some ⟨gs, 0, none⟩) 1 1) p) := by
  have lx := hx.len
  rw [IsEx]
  refine ⟨.slice (some ⟨gs, 0, none⟩) 1 1, cx, rfl, ⟨by simpa using lx, Or.inr ⟨gs, 0, 1, rfl, Nat.le_refl _, by unfold maxLen; omega, hB, hg, fun j u hj => by rw [Nat.zero_add]; exact hc j u hj⟩⟩, ?_⟩
  rw [AllEx]
  exact ⟨cx, [], by simp, hx, by rw [AllEx]⟩
/-- Two expressions side by side in a new block, and what stands over them. -/
theorem ex_two {B : Nat → Prop} {w : World} {gs k op p : Nat} {x y : Px.Ex} {cx cy : List Value} (hB : B gs) (hg : gs < w.heap.size) (hc : ∀ (j : Nat) (u : Value), (cx ++ cy)[j]? = some u → w.cell? ⟨gs, j, none⟩ = some u) (hx : IsEx B w x cx) (hy : IsEx B w y cy) :
    IsEx B w (.mk k op 0 [] [x, y] p) (eL k op 0 [] (.slice (some ⟨gs, 0, none⟩) 2 2) p) := by
  have lx := hx.len
  have ly := hy.len
  rw [IsEx]
  refine ⟨.slice (some ⟨gs, 0, none⟩) 2 2, cx ++ cy, rfl, ⟨by simp; omega, Or.inr ⟨gs, 0, 2, rfl, Nat.le_refl _, by unfold maxLen; omega, hB, hg, fun j u hj => by rw [Nat.zero_add]; exact hc j u hj⟩⟩, ?_⟩
  rw [AllEx]
  refine ⟨cx, cy, rfl, hx, ?_⟩
  rw [AllEx]
  exact ⟨cy, [], by simp, hy, by rw [AllEx]⟩
theorem pcell_at {w : World} {g j : Nat} {a : Array Value} {T : TypeId} {v : Value} (h : w.heap[g]? = some (.cells a T (0, 0))) (hv : a[j]? = some v) : w.cell? ⟨g, j, none⟩ = some v := by
  simp [World.cell?, h, hv]
/-- What the reading of an expression answers. -/
abbrev ExPost (b ga : Nat) (w : World) (r : Px.R Px.Ex) (e : Ending) (w' : World) : Prop := PPost b ga w r (fun x v w' => ExV (From w.heap.size) w' x v) e w'
theorem eS_blk {w : World} {g k o n p : Nat} {t : Lx.B} {sl : Value} {k' o' n' p' : Nat} {t' : Lx.B} {sl' : Value} (h : w.heap[g]? = some (eO k' o' n' t' sl' p')) : (eS w g k o n t sl p).heap[g]? = some (eO k o n t sl p) := w8_blk h _ _ _ _ _ _ _ _
theorem eS_other {w : World} {g j k o n p : Nat} {t : Lx.B} {sl : Value} (h : j ≠ g) : (eS w g k o n t sl p).heap[j]? = w.heap[j]? := w8_other h _ _ _ _ _ _ _ _
theorem eS_size (w : World) (g k o n p : Nat) (t : Lx.B) (sl : Value) : (eS w g k o n t sl p).heap.size = w.heap.size := w8_size _ _ _ _ _ _ _ _ _ _
theorem eS_fo (w : World) (g k o n p : Nat) (t : Lx.B) (sl : Value) (m : Nat) : Fo g m w (eS w g k o n t sl p) := ((((((((Fo.set 0 _).trans (Fo.set 1 _)).trans (Fo.set 2 _)).trans (Fo.set 3 _)).trans (Fo.set 4 _)).trans (Fo.set 5 _)).trans (Fo.set 6 _)).trans (Fo.set 7 _))
theorem two_mem {P : Nat → Prop} {wD wX wF : World} {g7 k o nn p k2 o2 n2 p2 kk op pl : Nat} {t t2 : Lx.B} {sl sl2 : Value} {a : Obj} (hP : P (wD.heap.size + 1)) (hP7 : ¬ P g7) (hsz : wX.heap.size = wD.heap.size) (hl7 : g7 < wD.heap.size)
    (hfo : Fo g7 wD.heap.size wD wX) (hblk : wX.heap[g7]? = some (eO kk op 0 [] (.slice (some ⟨wD.heap.size + 1, 0, none⟩) 2 2) pl))
    (hwF : wF = (wX.alloc a).alloc (.cells (eL k o nn t sl p ++ eL k2 o2 n2 t2 sl2 p2).toArray 24 (0, 0))) :
    wF.heap[g7]? = some (eO kk op 0 [] (.slice (some ⟨wD.heap.size + 1, 0, none⟩) 2 2) pl) ∧ Fo g7 wD.heap.size wD wF ∧ wF.heap.size = wD.heap.size + 2 ∧ ∀ x y, IsEx P wD x (eL k o nn t sl p) → IsEx P wD y (eL k2 o2 n2 t2 sl2 p2) → IsEx P wF (.mk kk op 0 [] [x, y] pl) (eL kk op 0 [] (.slice (some ⟨wD.heap.size + 1, 0, none⟩) 2 2) pl) := by
  have hb : Below wX.heap.size wX wF := by
    rw [hwF]
    exact ((Below.refl _ _).alloc (Nat.le_refl _) _).alloc (by simp) _
  have hnew : wF.heap[wD.heap.size + 1]? = some (.cells (eL k o nn t sl p ++ eL k2 o2 n2 t2 sl2 p2).toArray 24 (0, 0)) := by
    rw [hwF, show wD.heap.size + 1 = (wX.alloc a).heap.size by simp [hsz]]
    exact heap_new _ _
  have hszF : wF.heap.size = wD.heap.size + 2 := by rw [hwF]; simp [hsz]
  clear hwF
  have hlF : wD.heap.size + 1 < wF.heap.size := by omega
  have hsince : Since P wD wF := ⟨by omega, fun kk h1 h2 => (hb.block kk (by omega)).trans (hfo.block kk h2 (fun e => hP7 (by rw [← e]; exact h1)))⟩
  exact ⟨(hb.block g7 (by omega)).trans hblk, hfo.trans (Fo.of_below (hb.mono (by omega))), hszF, fun x y hx hy => ex_two hP hlF (fun j v hj => pcell_at hnew (by rw [List.getElem?_toArray]; exact hj)) (hx.since hsince) (hy.since hsince)⟩
/-- A round's end: two expressions side by side in a new block, and the box set anew. -/
theorem box_two {P : Nat → Prop} {wD wF : World} {g7 k o nn p k2 o2 n2 p2 kk op pl : Nat} {t t2 : Lx.B} {sl sl2 : Value} (hP : P (wD.heap.size + 1)) (hP7 : ¬ P g7) (h7 : wD.heap[g7]? = some (eO k o nn t sl p))
    (hwF : wF = ((eS wD g7 kk op 0 [] (.slice (some ⟨wD.heap.size + 1, 0, none⟩) 2 2) pl).alloc (eO k2 o2 n2 t2 sl2 p2)).alloc (.cells (eL k o nn t sl p ++ eL k2 o2 n2 t2 sl2 p2).toArray 24 (0, 0))) :
    wF.heap[g7]? = some (eO kk op 0 [] (.slice (some ⟨wD.heap.size + 1, 0, none⟩) 2 2) pl) ∧ Fo g7 wD.heap.size wD wF ∧ wF.heap.size = wD.heap.size + 2 ∧ ∀ x y, IsEx P wD x (eL k o nn t sl p) → IsEx P wD y (eL k2 o2 n2 t2 sl2 p2) → IsEx P wF (.mk kk op 0 [] [x, y] pl) (eL kk op 0 [] (.slice (some ⟨wD.heap.size + 1, 0, none⟩) 2 2) pl) :=
  two_mem hP hP7 (eS_size _ _ _ _ _ _ _ _) (Array.getElem?_eq_some_iff.1 h7).1 (eS_fo _ _ _ _ _ _ _ _ _) (eS_blk h7) hwF
set_option maxHeartbeats 400000 in
/-- An expression is handed on: stored into the result's box, which is new, and answered. -/
theorem ex_ret {b ga : Nat} {w w1 : World} {x : Px.Ex} {l' : List Lx.Tok} {k o n p : Nat} {t : Lx.B} {ao : Option Addr} {an ac : Nat} {B : Nat → Prop} (h1 : Ps b ga l' w1) (hF : Fo b w.heap.size w w1) (hg : w.heap.size ≠ b) (hga : w.heap.size ≠ ga) (hx : IsEx B w1 x (eL k o n t (.slice ao an ac) p)) (hB : ∀ g, B g → w.heap.size < g) :
    ExPost b ga w (.inl (x, l')) (.returned (eV k o n t (.slice ao an ac) p)) (eS w1 w.heap.size k o n t (.slice ao an ac) p) :=
  ⟨_, rfl, ⟨k, o, n, t, ao, an, ac, p, rfl, (hx.since (Since.set8' (fun h => by have := hB _ h; omega) _ _ _ _ _ _ _ _)).base (fun g h => Nat.le_of_lt (hB g h))⟩, h1.set8 hg hga _ _ _ _ _ _ _ _, hF.set8 (Nat.le_refl _) _ _ _ _ _ _ _ _⟩
end Go.Proofs.YtifebbdjdllfpaaGreatDoor
/- The levels of operators: the parser's reading. -/
namespace Go.Proofs.YtifebbdjdllfpaaGreatDoor
open Go.RowKit
set_option linter.unusedSimpArgs false
set_option linter.unusedVariables false

/-- What the reading at a level, d deep, answers. -/
def BinOk (n d : Nat) (q : Px.P Px.Ex) : Prop := ∀ (b ga : Nat) (l : List Lx.Tok) (w : World), Ps b ga l w → Calls Tryz.prog 150 #[.pointer (some ⟨b, 0, none⟩), .int .i64 n, .int .i64 d] w fun e w' => ExPost b ga w (q l) e w'
def UnOk (d : Nat) (q : Px.P Px.Ex) : Prop := ∀ (b ga : Nat) (l : List Lx.Tok) (w : World), Ps b ga l w → Calls Tryz.prog 163 #[.pointer (some ⟨b, 0, none⟩), .int .i64 d] w fun e w' => ExPost b ga w (q l) e w'
theorem zeroE_new (w : World) : (w.alloc zeroE).heap[w.heap.size]? = some zeroE := heap_new w _
set_option maxRecDepth 100000 in
set_option maxHeartbeats 8000000 in
theorem pbin_five {d : Nat} {q : Px.P Px.Ex} (hu : UnOk d q) : BinOk 5 d q := by
  intro b ga l w h
  obtain ⟨res, hres⟩ : ∃ res, Aside (res = q l) := ⟨_, rfl⟩
  rw [← hres.out]
  have hwb : w.heap.size ≠ b := by have := h.there; omega
  have hwga : w.heap.size ≠ ga := by have := h.gl; omega
  have h0 := h.alloc zeroE
  have hs0 := zeroE_new w
  have hF0 : Fo b w.heap.size w (w.alloc zeroE) := (Fo.refl _ _ _).alloc (Nat.le_refl _) _
  have hl0 : w.heap.size < (w.alloc zeroE).heap.size := by simp
  have hC := hu b ga l _ h0
  go_enter Tryz.func150, Tryz.ntmps150
  go_wp2_with fail
  generalize w.alloc zeroE = w0 at *
  refine hC.mono ?_
  rcases hq : q l with ⟨x, l1⟩ | ⟨a, er⟩
  · rintro e w1 ⟨v, rfl, ⟨k, o, n, t, ao, an, ac, p, rfl, hx⟩, h1, hf1⟩
    have hs1 := (hf1.block _ hl0 hwb).trans hs0
    have hl1 : w.heap.size < w1.heap.size := by have := hf1.size; omega
    have hF1 := hF0.call hf1 hF0.size
    obtain ⟨e0, e1, e2, e3, e4, e5, e6, e7, m0, m1, m2, m3, m4, m5, m6, m7⟩ := cells_of8 hs1
    have hend := ex_ret h1 hF1 hwb hwga hx (fun g hg => Nat.lt_of_lt_of_le hl0 hg)
    rw [← hres.out] at hq
    replace hq := (show Aside _ from hq)
    clear hC
    go_wp2
    rw [hq.out]
    exact bodyPost_ret (v := eV k o n t (.slice ao an ac) p) (by simp [results, Tryz.results150, go_sem, e0, e1, e2, e3, e4, e5, e6, e7]) rfl hend
  · rintro e w1 ⟨rfl, hf1⟩
    refine ⟨rfl, ?_⟩
    rw [hres.out, hq]
    exact ⟨rfl, hF0.call hf1 hF0.size⟩
theorem chain_fuel {n : Nat} {q : Px.P Px.Ex} (hn : 0 < n) (hq : Px.Ok q) : ∀ (f g c : Nat) (acc : Px.Ex) (l : List Lx.Tok), Px.Good l → l.length < f → l.length < g → Px.chain n q f c acc l = Px.chain n q g c acc l
  | 0, _, _, _, _, _, h, _ => by omega
  | _, 0, _, _, _, _, _, h => by omega
  | f + 1, g + 1, c, acc, [], hg, _, _ => by exact absurd hg (by simp [Px.Good])
  | f + 1, g + 1, c, acc, t :: r, hg, h1, h2 => by
    simp only [Px.chain]
    by_cases hl : (Px.levelOf t).1 = n
    · rw [if_pos hl, if_pos hl]
      split
      · rfl
      · have hk := Px.level_kind (t := t) (by omega)
        have hgr := hg.tail (by omega)
        refine Px.bind_congr fun x l1 e1 => ?_
        have a1 := (hq r hgr).ok x l1 e1
        have := a1.less
        simp only [List.length_cons] at h1 h2
        exact chain_fuel hn hq f g (c + 1) _ l1 a1.good (by omega) (by omega)
    · rw [if_neg hl, if_neg hl]
/-- How a level's loop stands: the box at g7 holds what is gathered, the result's box is as it was made. -/
structure BinAt (b ga g7 : Nat) (w : World) (acc : Px.Ex) (l : List Lx.Tok) (wr : World) : Prop where
  ps : Ps b ga l wr
  box : ∃ k o n t ao an ac p, wr.heap[g7]? = some (eO k o n t (.slice ao an ac) p) ∧ IsEx (fun g => w.heap.size < g ∧ g ≠ g7) wr acc (eL k o n t (.slice ao an ac) p)
  out : wr.heap[w.heap.size]? = some zeroE
  fo : Fo b w.heap.size w wr
set_option maxRecDepth 100000 in
set_option maxHeartbeats 8000000 in
theorem pbin_chain {n d : Nat} {q : Px.P Px.Ex} (hn : n ≤ 4) (hn2 : n ≠ 2) (hd : d ≤ 30) (hok : Px.Ok q) (hsub : BinOk (n + 1) d q) : BinOk n d (Px.level (n + 1) q) := by
  intro b ga l w h
  obtain ⟨res, hres⟩ : ∃ res, Aside (res = Px.level (n + 1) q l) := ⟨_, rfl⟩
  rw [← hres.out]
  have hwb : w.heap.size ≠ b := by have := h.there; omega
  have hwga : w.heap.size ≠ ga := by have := h.gl; omega
  have h0 := h.alloc zeroE
  have hs0 := zeroE_new w
  have hF0 : Fo b w.heap.size w (w.alloc zeroE) := (Fo.refl _ _ _).alloc (Nat.le_refl _) _
  have hl0 : w.heap.size < (w.alloc zeroE).heap.size := by simp
  have hsub' : ∀ (l : List Lx.Tok) (w : World), Ps b ga l w → Calls Tryz.prog 150 #[.pointer (some ⟨b, 0, none⟩), .int .i64 ((n : Int) + 1), .int .i64 d] w fun e w' => ExPost b ga w (q l) e w' := fun l w h => hsub b ga l w h
  have hn5 : ((n : Int) == 5) = false := by simp; omega
  have hn2I : ((n : Int) == 2) = false := by simp; omega
  have hnI : (n : Int) ≤ 4 := by omega
  go_enter Tryz.func150, Tryz.ntmps150
  go_wp2_with fail
  generalize w.alloc zeroE = w0 at *
  refine (hsub' l w0 h0).mono ?_
  rcases hq : q l with ⟨x, l1⟩ | ⟨a, er⟩
  · rintro e w1 ⟨v, rfl, ⟨k, o, nn, t, ao, an, ac, p, rfl, hx⟩, h1, hf1⟩
    have hlen := ((hok l h0.good).ok x l1 hq).good
    replace hres : Aside (res = Px.chain (n + 1) q (l1.length + 1) 0 x l1) := by
      show _ = _
      rw [hres.out, Px.level, hq]; rfl
    have hl1 : w.heap.size < w1.heap.size := by have := hf1.size; omega
    have hA : BinAt b ga w1.heap.size w x l1 (w1.alloc (eO k o nn t (.slice ao an ac) p)) := by
      refine ⟨h1.alloc _, ⟨k, o, nn, t, ao, an, ac, p, heap_new w1 _, ?_⟩, (heap_old hl1).trans ((hf1.block _ hl0 hwb).trans hs0), (hF0.call hf1 hF0.size).alloc (Nat.le_of_lt hl1) _⟩
      exact (hx.plow (fun g hg hlt => ⟨Nat.lt_of_lt_of_le hl0 hg, Nat.ne_of_lt hlt⟩)).since (Since.of_below ((Below.refl _ _).alloc (Nat.le_refl _) _))
    have hg7b : w1.heap.size ≠ b := by have := h1.there; omega
    have hg7ga : w1.heap.size ≠ ga := by have := h1.gl; omega
    clear hq hs0 hF0 hf1 h0 hx h1 hlen
    go_wp2_with fail
    generalize w1.alloc (eO k o nn t (.slice ao an ac) p) = w2 at *
    generalize w1.heap.size = g7 at *
    go_loopg [] (l1.length + 1) (fun m wr => ∃ (acc : Px.Ex) (l4 : List Lx.Tok) (c : Nat), m = l4.length + 1 ∧ BinAt b ga g7 w acc l4 wr ∧ Aside (res = Px.chain (n + 1) q (l4.length + 1) c acc l4))
    case atStart => exact ⟨x, l1, 0, rfl, hA, hres⟩
    case round =>
      clear hres hA
      obtain ⟨acc, l4, c, rfl, hA, hres⟩ := hrel
      obtain ⟨u, rr, rfl, _⟩ := hA.ps.head
      have hO := poperator_any hA.ps n (by omega)
      by_cases hlv : (Px.levelOf u).1 = n + 1
      · have hop : opAt n u = (Px.levelOf u).2 := by unfold opAt; rw [if_pos hlv]
        have hop0 := lv_some u (by omega)
        have hop13 := (lv_five u).2
        rw [hop] at hO
        replace hres : Aside (res = Px.bind (q rr) fun x l1 => Px.chain (n + 1) q (rr.length + 1) (c + 1) (.mk 15 (Px.levelOf u).2 0 [] [acc, x] u.place) l1) := by
          show _ = _
          rw [hres.out]
          simp only [Px.chain, List.length_cons]
          rw [if_pos hlv, if_neg (by omega)]
        have hk5 : u.kind ≠ 5 := by have := Px.level_kind (t := u) (by omega); omega
        clear hop hlv
        generalize (Px.levelOf u).2 = op at *
        have hop0I : ((op : Int) == 0) = false := by simp; omega
        go_wp2_with fail
        refine hO.mono ?_
        rintro e w3 ⟨rfl, hb3⟩
        have hP3 := hA.ps.below hb3
        have hf3f := tokF3
        go_wp2_with fail
        refine (ptake_any hP3 hk5).mono ?_
        rintro e w4 ⟨rfl, hP4, hf4⟩
        have hW4 : Fo b w3.heap.size w3 w4 := hf4
        have hlw : w.heap.size < wr.heap.size := (Array.getElem?_eq_some_iff.1 hA.out).1
        obtain ⟨k, o, nn, t, ao, an, ac, p, hbox, hacc⟩ := hA.box
        have hl7 : g7 < wr.heap.size := (Array.getElem?_eq_some_iff.1 hbox).1
        have hbox4 := (hf4.block g7 (by have := hb3.size; omega) hg7b).trans ((hb3.block g7 hl7).trans hbox)
        have hout4 := (hf4.block _ (by have := hb3.size; omega) hwb).trans ((hb3.block _ hlw).trans hA.out)
        have hbw : ¬ (w.heap.size < b ∧ b ≠ g7) := by have := h.there; omega
        have hacc4 := (hacc.since (Since.of_below hb3)).since (hf4.sinceB hbw)
        have hF4 := (hA.fo.below hb3 hA.fo.size).call hf4 (by have := hb3.size; have := hA.fo.size; omega)
        clear hb3 hf4 hW4 hbox hacc hO hP3 hA
        go_wp2_with fail
        refine (hsub' rr w4 hP4).mono ?_
        rcases hqr : q rr with ⟨y, l6⟩ | ⟨a, er⟩
        · rintro e w5 ⟨v, rfl, ⟨k2, o2, n2, t2, ao2, an2, ac2, p2, rfl, hy⟩, hP5, hf5⟩
          have hle := ((hok rr hP4.good).ok y l6 hqr).less
          have hgd := ((hok rr hP4.good).ok y l6 hqr).good
          replace hres : Aside (res = Px.chain (n + 1) q (l6.length + 1) (c + 1) (.mk 15 op 0 [] [acc, y] u.place) l6) := by
            show _ = _
            rw [hres.out, hqr]
            exact chain_fuel (by omega) hok _ _ _ _ _ hgd (by omega) (by omega)
          have hl74 : g7 < w4.heap.size := (Array.getElem?_eq_some_iff.1 hbox4).1
          have hlw4 : w.heap.size < w4.heap.size := (Array.getElem?_eq_some_iff.1 hout4).1
          have hbox5 := (hf5.block g7 hl74 hg7b).trans hbox4
          have hout5 := (hf5.block _ hlw4 hwb).trans hout4
          have hacc5 := hacc4.since (hf5.sinceB hbw)
          have hy5 := hy.plow (B' := fun g => w.heap.size < g ∧ g ≠ g7) (fun g hg _ => by have hg' : w4.heap.size ≤ g := hg; omega)
          have hF5 := hF4.call hf5 hF4.size
          have hl75 : g7 < w5.heap.size := (Array.getElem?_eq_some_iff.1 hbox5).1
          have hlw5 : w.heap.size < w5.heap.size := (Array.getElem?_eq_some_iff.1 hout5).1
          obtain ⟨y0, y1, y2, y3, y4, y5, y6, y7, j0, j1, j2, j3, j4, j5, j6, j7⟩ := cells_of8 hbox5
          clear hf5 hqr hacc4 hbox4 hout4 hy hF4 hP4
          go_wp2
          obtain ⟨hb9, hf9, hz9, hx9⟩ := box_two (P := fun g => w.heap.size < g ∧ g ≠ g7) (kk := 15) (op := op) (pl := u.place) (k2 := k2) (o2 := o2) (n2 := n2) (p2 := p2) (t2 := t2) (sl2 := .slice ao2 an2 ac2) (by omega) (fun hh => hh.2 rfl) hbox5 rfl
          go_roundg (l6.length + 1)
          case measure => simp only [List.length_cons]; omega
          case rel =>
            refine ⟨_, l6, c + 1, rfl, ⟨?_, ⟨15, op, 0, [], _, 2, 2, u.place, hb9, hx9 acc y hacc5 hy5⟩, ?_, ?_⟩, hres⟩
            · exact hP5.keep (hf9.block _ hP5.there (by omega)) (hf9.block _ hP5.gl (by omega)) hf9.size
            · exact (hf9.block _ hlw5 (by omega)).trans hout5
            · exact hF5.trans ⟨hf9.os, hf9.tape, hf9.output, hf9.size, fun j h1 h2 => hf9.block j (by omega) (by omega)⟩
        · rintro e w5 ⟨rfl, hf5⟩
          refine ⟨rfl, ?_⟩
          rw [hres.out, hqr]
          exact ⟨rfl, hF4.call hf5 hF4.size⟩
      · have hop : opAt n u = 0 := by unfold opAt; rw [if_neg hlv]
        rw [hop] at hO
        replace hres : Aside (res = .inl (acc, u :: rr)) := by
          show _ = _
          rw [hres.out]
          simp only [Px.chain]
          rw [if_neg hlv]
        clear hop hlv
        go_wp2_with fail
        refine hO.mono ?_
        rintro e w3 ⟨rfl, hb3⟩
        have hlw : w.heap.size < wr.heap.size := (Array.getElem?_eq_some_iff.1 hA.out).1
        obtain ⟨k, o, nn, t, ao, an, ac, p, hbox, hacc⟩ := hA.box
        have hl7 : g7 < wr.heap.size := (Array.getElem?_eq_some_iff.1 hbox).1
        have hbox3 := (hb3.block g7 hl7).trans hbox
        have hout3 := (hb3.block _ hlw).trans hA.out
        have hl73 : g7 < w3.heap.size := (Array.getElem?_eq_some_iff.1 hbox3).1
        have hlw3 : w.heap.size < w3.heap.size := (Array.getElem?_eq_some_iff.1 hout3).1
        have hend := ex_ret (hA.ps.below hb3) (hA.fo.below hb3 hA.fo.size) hwb hwga (hacc.since (Since.of_below hb3)) (fun g hg => hg.1)
        obtain ⟨y0, y1, y2, y3, y4, y5, y6, y7, _⟩ := cells_of8 hbox3
        obtain ⟨e0, e1, e2, e3, e4, e5, e6, e7, m0, m1, m2, m3, m4, m5, m6, m7⟩ := cells_of8 hout3
        clear hb3 hbox hacc hO hA
        go_wp2
        rw [hres.out]
        exact bodyPost_ret (v := eV k o nn t (.slice ao an ac) p) (by simp [results, Tryz.results150, go_sem, e0, e1, e2, e3, e4, e5, e6, e7]) rfl hend
  · rintro e w1 ⟨rfl, hf1⟩
    refine ⟨rfl, ?_⟩
    rw [hres.out, Px.level, hq]
    exact ⟨rfl, hF0.call hf1 hF0.size⟩
end Go.Proofs.YtifebbdjdllfpaaGreatDoor
/- The level of comparing marks: the parser's reading. -/
namespace Go.Proofs.YtifebbdjdllfpaaGreatDoor
open Go.RowKit
set_option linter.unusedSimpArgs false
set_option linter.unusedVariables false

def cmpRest (q : Px.P Px.Ex) (x : Px.Ex) (l1 : List Lx.Tok) : Px.R Px.Ex :=
  match l1 with
  | t :: r => if (Px.levelOf t).1 = 3 then Px.bind (q r) fun y l2 => .inl (.mk 15 (Px.levelOf t).2 0 [] [x, y] t.place, l2) else .inl (x, t :: r)
  | [] => .inr (0, 0)
set_option maxRecDepth 100000 in
set_option maxHeartbeats 8000000 in
theorem pbin_cmp {d : Nat} {q : Px.P Px.Ex} (hd : d ≤ 30) (hok : Px.Ok q) (hsub : BinOk 3 d q) : BinOk 2 d (Px.cmp q) := by
  intro b ga l w h
  obtain ⟨res, hres⟩ : ∃ res, Aside (res = Px.cmp q l) := ⟨_, rfl⟩
  rw [← hres.out]
  have hwb : w.heap.size ≠ b := by have := h.there; omega
  have hwga : w.heap.size ≠ ga := by have := h.gl; omega
  have h0 := h.alloc zeroE
  have hs0 := zeroE_new w
  have hF0 : Fo b w.heap.size w (w.alloc zeroE) := (Fo.refl _ _ _).alloc (Nat.le_refl _) _
  have hl0 : w.heap.size < (w.alloc zeroE).heap.size := by simp
  have hsub' : ∀ (l : List Lx.Tok) (w : World), Ps b ga l w → Calls Tryz.prog 150 #[.pointer (some ⟨b, 0, none⟩), .int .i64 3, .int .i64 d] w fun e w' => ExPost b ga w (q l) e w' := fun l w h => hsub b ga l w h
  go_enter Tryz.func150, Tryz.ntmps150
  go_wp2_with fail
  generalize w.alloc zeroE = w0 at *
  refine (hsub' l w0 h0).mono ?_
  rcases hq : q l with ⟨x, l1⟩ | ⟨a, er⟩
  · rintro e w1 ⟨v, rfl, ⟨k, o, nn, t, ao, an, ac, p, rfl, hx⟩, h1, hf1⟩
    replace hres : Aside (res = cmpRest q x l1) := by
      show _ = _
      rw [hres.out, Px.cmp, hq]; rfl
    have hl1 : w.heap.size < w1.heap.size := by have := hf1.size; omega
    have hA : BinAt b ga w1.heap.size w x l1 (w1.alloc (eO k o nn t (.slice ao an ac) p)) := by
      refine ⟨h1.alloc _, ⟨k, o, nn, t, ao, an, ac, p, heap_new w1 _, ?_⟩, (heap_old hl1).trans ((hf1.block _ hl0 hwb).trans hs0), (hF0.call hf1 hF0.size).alloc (Nat.le_of_lt hl1) _⟩
      exact (hx.plow (fun g hg hlt => ⟨Nat.lt_of_lt_of_le hl0 hg, Nat.ne_of_lt hlt⟩)).since (Since.of_below ((Below.refl _ _).alloc (Nat.le_refl _) _))
    have hg7b : w1.heap.size ≠ b := by have := h1.there; omega
    have hg7ga : w1.heap.size ≠ ga := by have := h1.gl; omega
    clear hq hs0 hF0 hf1 h0 hx h1
    go_wp2_with fail
    generalize w1.alloc (eO k o nn t (.slice ao an ac) p) = w2 at *
    generalize w1.heap.size = g7 at *
    go_loopg [] 1 (fun m wr => ∃ (acc : Px.Ex) (l4 : List Lx.Tok), m = 1 ∧ BinAt b ga g7 w acc l4 wr ∧ Aside (res = cmpRest q acc l4))
    case atStart => exact ⟨x, l1, rfl, hA, hres⟩
    case round =>
      clear hres hA
      obtain ⟨acc, l4, rfl, hA, hres⟩ := hrel
      obtain ⟨u, rr, rfl, _⟩ := hA.ps.head
      have hO := poperator_any hA.ps 2 (by omega)
      by_cases hlv : (Px.levelOf u).1 = 3
      · have hop : opAt 2 u = (Px.levelOf u).2 := by unfold opAt; rw [if_pos hlv]
        have hop0 := lv_some u (by omega)
        have hop13 := (lv_five u).2
        rw [hop] at hO
        replace hres : Aside (res = Px.bind (q rr) fun y l2 => .inl (.mk 15 (Px.levelOf u).2 0 [] [acc, y] u.place, l2)) := by
          show _ = _
          rw [hres.out]
          simp only [cmpRest]
          rw [if_pos hlv]
        have hk5 : u.kind ≠ 5 := by have := Px.level_kind (t := u) (by omega); omega
        clear hop hlv
        generalize (Px.levelOf u).2 = op at *
        have hop0I : ((op : Int) == 0) = false := by simp; omega
        go_wp2_with fail
        refine hO.mono ?_
        rintro e w3 ⟨rfl, hb3⟩
        have hP3 := hA.ps.below hb3
        have hf3f := tokF3
        go_wp2_with fail
        refine (ptake_any hP3 hk5).mono ?_
        rintro e w4 ⟨rfl, hP4, hf4⟩
        have hW4 : Fo b w3.heap.size w3 w4 := hf4
        have hlw : w.heap.size < wr.heap.size := (Array.getElem?_eq_some_iff.1 hA.out).1
        obtain ⟨k, o, nn, t, ao, an, ac, p, hbox, hacc⟩ := hA.box
        have hl7 : g7 < wr.heap.size := (Array.getElem?_eq_some_iff.1 hbox).1
        have hbox4 := (hf4.block g7 (by have := hb3.size; omega) hg7b).trans ((hb3.block g7 hl7).trans hbox)
        have hout4 := (hf4.block _ (by have := hb3.size; omega) hwb).trans ((hb3.block _ hlw).trans hA.out)
        have hbw : ¬ (w.heap.size < b ∧ b ≠ g7) := by have := h.there; omega
        have hacc4 := (hacc.since (Since.of_below hb3)).since (hf4.sinceB hbw)
        have hF4 := (hA.fo.below hb3 hA.fo.size).call hf4 (by have := hb3.size; have := hA.fo.size; omega)
        clear hb3 hf4 hW4 hbox hacc hO hP3 hA
        go_wp2_with fail
        refine (hsub' rr w4 hP4).mono ?_
        rcases hqr : q rr with ⟨y, l6⟩ | ⟨a, er⟩
        · rintro e w5 ⟨v, rfl, ⟨k2, o2, n2, t2, ao2, an2, ac2, p2, rfl, hy⟩, hP5, hf5⟩
          replace hres : Aside (res = .inl (.mk 15 op 0 [] [acc, y] u.place, l6)) := by
            show _ = _
            rw [hres.out, hqr]; rfl
          have hl74 : g7 < w4.heap.size := (Array.getElem?_eq_some_iff.1 hbox4).1
          have hlw4 : w.heap.size < w4.heap.size := (Array.getElem?_eq_some_iff.1 hout4).1
          have hbox5 := (hf5.block g7 hl74 hg7b).trans hbox4
          have hout5 := (hf5.block _ hlw4 hwb).trans hout4
          have hacc5 := hacc4.since (hf5.sinceB hbw)
          have hy5 := hy.plow (B' := fun g => w.heap.size < g ∧ g ≠ g7) (fun g hg _ => by have hg' : w4.heap.size ≤ g := hg; omega)
          have hF5 := hF4.call hf5 hF4.size
          have hl75 : g7 < w5.heap.size := (Array.getElem?_eq_some_iff.1 hbox5).1
          have hlw5 : w.heap.size < w5.heap.size := (Array.getElem?_eq_some_iff.1 hout5).1
          obtain ⟨y0, y1, y2, y3, y4, y5, y6, y7, j0, j1, j2, j3, j4, j5, j6, j7⟩ := cells_of8 hbox5
          clear hf5 hqr hacc4 hbox4 hout4 hy hF4 hP4
          go_upto_region 10 with fail
          generalize hw9 : ((eS w5 g7 15 op 0 [] (.slice (some ⟨w5.heap.size + 1, 0, none⟩) 2 2) u.place).alloc (eO k2 o2 n2 t2 (.slice ao2 an2 ac2) p2)).alloc (.cells #[.int .i64 k, .int .i64 o, .int .i64 nn, .string ⟨t.toArray⟩, .int .i64 0, .string ⟨#[]⟩, .slice ao an ac, .int .i64 p, .int .i64 k2, .int .i64 o2, .int .i64 n2, .string ⟨t2.toArray⟩, .int .i64 0, .string ⟨#[]⟩, .slice ao2 an2 ac2, .int .i64 p2] 24) = w9 at *
          obtain ⟨hb9, hf9, hz9, hx9⟩ := box_two (P := fun g => w.heap.size < g ∧ g ≠ g7) (kk := 15) (op := op) (pl := u.place) (k2 := k2) (o2 := o2) (n2 := n2) (p2 := p2) (t2 := t2) (sl2 := .slice ao2 an2 ac2) (by omega) (fun hh => hh.2 rfl) hbox5 hw9.symm
          have hout9 := (hf9.block _ hlw5 (by omega)).trans hout5
          have hP9 : Ps b ga l6 w9 := hP5.keep (hf9.block _ hP5.there (by omega)) (hf9.block _ hP5.gl (by omega)) hf9.size
          have hF9 : Fo b w.heap.size w w9 := hF5.trans ⟨hf9.os, hf9.tape, hf9.output, hf9.size, fun j h1 h2 => hf9.block j (by omega) (by omega)⟩
          have hend := ex_ret hP9 hF9 hwb hwga (hx9 acc y hacc5 hy5) (fun g hg => hg.1)
          have hl79 : g7 < w9.heap.size := (Array.getElem?_eq_some_iff.1 hb9).1
          have hlw9 : w.heap.size < w9.heap.size := (Array.getElem?_eq_some_iff.1 hout9).1
          obtain ⟨z0, z1, z2, z3, z4, z5, z6, z7, _⟩ := cells_of8 hb9
          obtain ⟨e0, e1, e2, e3, e4, e5, e6, e7, m0, m1, m2, m3, m4, m5, m6, m7⟩ := cells_of8 hout9
          clear hw9 y0 y1 y2 y3 y4 y5 y6 y7 j0 j1 j2 j3 j4 j5 j6 j7 hx9 hf9 hbox5 hout5 hacc5 hy5 hF5 hP5
          go_wp2
          rw [hres.out]
          exact bodyPost_ret (v := eV 15 op 0 [] (.slice (some ⟨w5.heap.size + 1, 0, none⟩) 2 2) u.place) (by simp [results, Tryz.results150, go_sem, e0, e1, e2, e3, e4, e5, e6, e7]) rfl hend
        · rintro e w5 ⟨rfl, hf5⟩
          refine ⟨rfl, ?_⟩
          rw [hres.out, hqr]
          exact ⟨rfl, hF4.call hf5 hF4.size⟩
      · have hop : opAt 2 u = 0 := by unfold opAt; rw [if_neg hlv]
        rw [hop] at hO
        replace hres : Aside (res = .inl (acc, u :: rr)) := by
          show _ = _
          rw [hres.out]
          simp only [cmpRest]
          rw [if_neg hlv]
        clear hop hlv
        go_wp2_with fail
        refine hO.mono ?_
        rintro e w3 ⟨rfl, hb3⟩
        have hlw : w.heap.size < wr.heap.size := (Array.getElem?_eq_some_iff.1 hA.out).1
        obtain ⟨k, o, nn, t, ao, an, ac, p, hbox, hacc⟩ := hA.box
        have hl7 : g7 < wr.heap.size := (Array.getElem?_eq_some_iff.1 hbox).1
        have hbox3 := (hb3.block g7 hl7).trans hbox
        have hout3 := (hb3.block _ hlw).trans hA.out
        have hl73 : g7 < w3.heap.size := (Array.getElem?_eq_some_iff.1 hbox3).1
        have hlw3 : w.heap.size < w3.heap.size := (Array.getElem?_eq_some_iff.1 hout3).1
        have hend := ex_ret (hA.ps.below hb3) (hA.fo.below hb3 hA.fo.size) hwb hwga (hacc.since (Since.of_below hb3)) (fun g hg => hg.1)
        obtain ⟨y0, y1, y2, y3, y4, y5, y6, y7, _⟩ := cells_of8 hbox3
        obtain ⟨e0, e1, e2, e3, e4, e5, e6, e7, m0, m1, m2, m3, m4, m5, m6, m7⟩ := cells_of8 hout3
        clear hb3 hbox hacc hO hA
        go_wp2
        rw [hres.out]
        exact bodyPost_ret (v := eV k o nn t (.slice ao an ac) p) (by simp [results, Tryz.results150, go_sem, e0, e1, e2, e3, e4, e5, e6, e7]) rfl hend
  · rintro e w1 ⟨rfl, hf1⟩
    refine ⟨rfl, ?_⟩
    rw [hres.out, Px.cmp, hq]
    exact ⟨rfl, hF0.call hf1 hF0.size⟩
end Go.Proofs.YtifebbdjdllfpaaGreatDoor
/- Expressions over unaries: the parser's reading. -/
namespace Go.Proofs.YtifebbdjdllfpaaGreatDoor
open Go.RowKit
set_option linter.unusedSimpArgs false
set_option linter.unusedVariables false

def ExprOk (d : Nat) (q : Px.P Px.Ex) : Prop := ∀ (b ga : Nat) (l : List Lx.Tok) (w : World), Ps b ga l w → Calls Tryz.prog 127 #[.pointer (some ⟨b, 0, none⟩), .int .i64 d] w fun e w' => ExPost b ga w (q l) e w'
set_option maxRecDepth 100000 in
set_option maxHeartbeats 8000000 in
theorem pexpr_bin {d : Nat} {q : Px.P Px.Ex} (hu : BinOk 0 d q) : ExprOk d q := by
  intro b ga l w h
  obtain ⟨res, hres⟩ : ∃ res, Aside (res = q l) := ⟨_, rfl⟩
  rw [← hres.out]
  have hwb : w.heap.size ≠ b := by have := h.there; omega
  have hwga : w.heap.size ≠ ga := by have := h.gl; omega
  have h0 := h.alloc zeroE
  have hs0 := zeroE_new w
  have hF0 : Fo b w.heap.size w (w.alloc zeroE) := (Fo.refl _ _ _).alloc (Nat.le_refl _) _
  have hl0 : w.heap.size < (w.alloc zeroE).heap.size := by simp
  have hC := hu b ga l _ h0
  go_enter Tryz.func127, Tryz.ntmps127
  go_wp2_with fail
  generalize w.alloc zeroE = w0 at *
  refine hC.mono ?_
  rcases hq : q l with ⟨x, l1⟩ | ⟨a, er⟩
  · rintro e w1 ⟨v, rfl, ⟨k, o, n, t, ao, an, ac, p, rfl, hx⟩, h1, hf1⟩
    have hs1 := (hf1.block _ hl0 hwb).trans hs0
    have hl1 : w.heap.size < w1.heap.size := by have := hf1.size; omega
    have hF1 := hF0.call hf1 hF0.size
    obtain ⟨e0, e1, e2, e3, e4, e5, e6, e7, m0, m1, m2, m3, m4, m5, m6, m7⟩ := cells_of8 hs1
    have hend := ex_ret h1 hF1 hwb hwga hx (fun g hg => Nat.lt_of_lt_of_le hl0 hg)
    rw [← hres.out] at hq
    replace hq := (show Aside _ from hq)
    clear hC
    go_wp2
    rw [hq.out]
    exact bodyPost_ret (v := eV k o n t (.slice ao an ac) p) (by simp [results, Tryz.results127, go_sem, e0, e1, e2, e3, e4, e5, e6, e7]) rfl hend
  · rintro e w1 ⟨rfl, hf1⟩
    refine ⟨rfl, ?_⟩
    rw [hres.out, hq]
    exact ⟨rfl, hF0.call hf1 hF0.size⟩
theorem pexpr_any {d : Nat} {q : Px.P Px.Ex} (hd : d ≤ 30) (hok : Px.Ok q) (hu : UnOk d q) : ExprOk d (Px.lvl' q) := by
  have o5 := Px.level_ok hok (n := 5) (by decide)
  have o4 := Px.level_ok o5 (n := 4) (by decide)
  have o3 := Px.cmp_ok o4
  have o2 := Px.level_ok o3 (n := 2) (by decide)
  have b5 := pbin_five hu
  have b4 : BinOk 4 d (Px.level 5 q) := pbin_chain (by decide) (by decide) hd hok b5
  have b3 : BinOk 3 d (Px.level 4 (Px.level 5 q)) := pbin_chain (by decide) (by decide) hd o5 b4
  have b2 := pbin_cmp hd o4 b3
  have b1 : BinOk 1 d (Px.level 2 (Px.cmp (Px.level 4 (Px.level 5 q)))) := pbin_chain (by decide) (by decide) hd o3 b2
  have b0 : BinOk 0 d (Px.level 1 (Px.level 2 (Px.cmp (Px.level 4 (Px.level 5 q))))) := pbin_chain (by decide) (by decide) hd o2 b1
  exact pexpr_bin b0
end Go.Proofs.YtifebbdjdllfpaaGreatDoor
/- Lists that are being gathered, in memory: one element more. -/
namespace Go.Proofs.YtifebbdjdllfpaaGreatDoor
open Go.RowKit
set_option linter.unusedSimpArgs false
set_option linter.unusedVariables false

theorem exprInfo : (Tryz.prog.info? 24).map (fun i => (i.zero, i.size, i.bytes)) = some (some (eV 0 0 0 [] (.slice none 0 0) 0), 8, 96) := by kernel_rfl
abbrev depObj (d : Nat) : Obj := .cells #[.int .i64 d] 3 (0, 0)
abbrev zeroL : List Value := eL 0 0 0 [] (.slice none 0 0) 0
/-- A list of expressions that is being gathered: its row is owned, from block m on; what its elements hold lies in other blocks. -/
def Gath (m : Nat) (w : World) (sl : Value) (acc : List Px.Ex) : Prop := ∃ row, w.ownsRow m 24 8 sl acc.length row ∧ AllEx (fun k => m ≤ k ∧ sl.ownBlock ≠ some k) w acc row
theorem Gath.nil (m : Nat) (w : World) : Gath m w (.slice none 0 0) [] := ⟨[], ⟨rfl, Or.inl ⟨rfl, rfl⟩⟩, by rw [AllEx]⟩
theorem Gath.fo {b m : Nat} {w w' : World} {sl : Value} {acc : List Px.Ex} (h : Gath m w sl acc) (f : Fo b w.heap.size w w') (hb : b < m) : Gath m w' sl acc := by
  obtain ⟨row, h1, h2⟩ := h
  exact ⟨row, owns_fo h1 f hb, h2.since (f.sinceB (fun hh => by omega))⟩
theorem Gath.rows {m : Nat} {w : World} {sl : Value} {acc : List Px.Ex} {B : Nat → Prop} (h : Gath m w sl acc) (hB : ∀ k, m ≤ k → k < w.heap.size → B k) : ∃ row, SlRow B w 8 sl acc.length row ∧ AllEx B w acc row := by
  obtain ⟨row, h1, h2⟩ := h
  exact ⟨row, owns_slrow h1 hB, h2.plow (fun k hk hl => hB k hk.1 hl)⟩
/-- From w4 to w5 the row of sl has grown, into block g; nothing else has turned. -/
structure Grew (w4 w5 : World) (sl : Value) (g : Nat) : Prop where
  os : w5.os = w4.os
  tape : w5.tape = w4.tape
  output : w5.output = w4.output
  size : w4.heap.size ≤ w5.heap.size
  block : ∀ k, k < w4.heap.size → some k ≠ sl.ownBlock → w5.heap[k]? = w4.heap[k]?
  place : sl.ownBlock = some g ∨ w4.heap.size ≤ g
theorem grewA {w4 w5 : World} {sl : Value} {g : Nat} (hgrow : w4.grownBy w5 sl.ownBlock) (hat : sl.ownBlock = some g ∨ g = w4.heap.size) : Grew w4 w5 sl g :=
  ⟨hgrow.os, hgrow.tape, hgrow.output, hgrow.size, hgrow.block, hat.imp id (fun h => by omega)⟩
theorem grewB {w4 w5 : World} {o : Obj} {sl : Value} {g : Nat} (hgrow : (w4.alloc o).grownBy w5 sl.ownBlock) (hat : sl.ownBlock = some g ∨ g = w4.heap.size + 1) : Grew w4 w5 sl g :=
  ⟨hgrow.os, hgrow.tape, hgrow.output, by have := hgrow.size; simp at this; omega, fun k h1 h2 => (hgrow.block k (by simp; omega) h2).trans (heap_old h1), hat.imp id (fun h => by omega)⟩
/-- Cells of a block, from a place on, set anew. -/
def setN (w : World) (g : Nat) : Nat → List Value → World
  | _, [] => w
  | o, v :: vs => setN (w.setCell ⟨g, o, none⟩ v) g (o + 1) vs
theorem setN_other {g k : Nat} (hk : k ≠ g) : ∀ (vs : List Value) (w : World) (o : Nat), (setN w g o vs).heap[k]? = w.heap[k]?
  | [], w, o => rfl
  | v :: vs, w, o => (setN_other hk vs _ _).trans (Below.heap_setCell _ _ _ _ hk)
theorem setN_fo {g n : Nat} : ∀ (vs : List Value) (w : World) (o : Nat), Fo g n w (setN w g o vs)
  | [], w, o => Fo.refl _ _ _
  | v :: vs, w, o => (Fo.set o v).trans (setN_fo vs _ _)
theorem setN_size {g : Nat} : ∀ (vs : List Value) (w : World) (o : Nat), (setN w g o vs).heap.size = w.heap.size
  | [], w, o => rfl
  | v :: vs, w, o => (setN_size vs _ _).trans (by simp [World.setCell])
theorem setN_blk {g : Nat} {T : TypeId} : ∀ (vs : List Value) (w : World) (o : Nat) (cur : Array Value), w.heap[g]? = some (.cells cur T (0, 0)) → o + vs.length ≤ cur.size →
    ∃ cur' : Array Value, (setN w g o vs).heap[g]? = some (.cells cur' T (0, 0)) ∧ cur'.size = cur.size ∧ cur'.toList = cur.toList.take o ++ vs ++ cur.toList.drop (o + vs.length)
  | [], w, o, cur, h, hs => ⟨cur, h, rfl, by simp⟩
  | v :: vs, w, o, cur, h, hs => by
    simp only [List.length_cons] at hs
    have h1 : (w.setCell ⟨g, o, none⟩ v).heap[g]? = some (.cells (cur.setIfInBounds o v) T (0, 0)) := by
      simp [World.setCell, Array.getElem?_modify, h]
    obtain ⟨cur', h2, h3, h4⟩ := setN_blk vs _ (o + 1) _ h1 (by simp; omega)
    refine ⟨cur', h2, by simpa using h3, ?_⟩
    rw [h4]
    have hlen : o < cur.toList.length := by simp; omega
    simp only [Array.toList_setIfInBounds, List.length_cons]
    rw [List.take_succ_eq_append_getElem (by simpa using hlen), List.take_set_of_le (Nat.le_refl _), List.getElem_set_self, List.drop_set_of_lt (by omega)]
    simp [Nat.add_assoc, Nat.add_comm, Nat.add_left_comm]
/-- An element of an owned row is set anew. -/
theorem owns_setN {w : World} {m g n sz cap : Nat} {T : TypeId} {row old cs : List Value} (h : w.ownsRow m T sz (.slice (some ⟨g, 0, none⟩) (n + 1) cap) (n + 1) (row ++ old)) (hr : row.length = n * sz) (ho : old.length = sz) (hc : cs.length = sz) :
    (setN w g (n * sz) cs).ownsRow m T sz (.slice (some ⟨g, 0, none⟩) (n + 1) cap) (n + 1) (row ++ cs) := by
  obtain ⟨h1, h2⟩ := h
  rcases h2 with ⟨hv, _⟩ | ⟨g', cap', cur, hv, hg, hh, hn, hm, hs, ht⟩
  · simp at hv
  · simp only [Value.slice.injEq, Option.some.injEq, Addr.mk.injEq, and_true, true_and] at hv
    obtain ⟨rfl, rfl⟩ := hv
    have hle : (n + 1) * sz ≤ cur.size := by rw [hs]; exact Nat.mul_le_mul_right _ hn
    have hms : (n + 1) * sz = n * sz + sz := by rw [Nat.add_mul, Nat.one_mul]
    obtain ⟨cur', k1, k2, k3⟩ := setN_blk cs w (n * sz) cur hh (by omega)
    refine ⟨by simp; omega, Or.inr ⟨g, cap, cur', rfl, hg, k1, hn, hm, by omega, ?_⟩⟩
    have hrow : cur.toList.take (n * sz) = row := by
      have := congrArg (List.take (n * sz)) ht
      rw [List.take_take, Nat.min_eq_left (by omega), List.take_left' hr] at this
      exact this
    rw [k3, hrow, List.take_left' (by simp; omega)]
theorem owns_cell {w : World} {m g n sz cap : Nat} {T : TypeId} {row old : List Value} (h : w.ownsRow m T sz (.slice (some ⟨g, 0, none⟩) (n + 1) cap) (n + 1) (row ++ old)) (hr : row.length = n * sz) : ∀ (j : Nat) (u : Value), old[j]? = some u → w.cell? ⟨g, n * sz + j, none⟩ = some u ∧ w.frozen? ⟨g, n * sz + j, none⟩ = false := by
  obtain ⟨h1, h2⟩ := h
  rcases h2 with ⟨hv, _⟩ | ⟨g', cap', cur, hv, hg, hh, hn, hm, hs, ht⟩
  · simp at hv
  · simp only [Value.slice.injEq, Option.some.injEq, Addr.mk.injEq, and_true, true_and] at hv
    obtain ⟨rfl, rfl⟩ := hv
    intro j u hj
    have hx : (row ++ old)[n * sz + j]? = some u := by rw [List.getElem?_append_right (by omega), hr, Nat.add_sub_cancel_left]; exact hj
    rw [← ht, List.getElem?_take] at hx
    split at hx
    · exact ⟨by rw [Lib.cell_of_heap hh]; simpa using hx, by simp [World.frozen?, hh]⟩
    · simp at hx
/-- One expression more: gathered. -/
theorem gath_snoc {w4 w5 w6 : World} {m g cap4 : Nat} {sl : Value} {acc : List Px.Ex} {row cs : List Value} {x : Px.Ex} (hown4 : w4.ownsRow m 24 8 sl acc.length row) (hall : AllEx (fun k => m ≤ k ∧ sl.ownBlock ≠ some k) w4 acc row) (hx : IsEx (fun k => m ≤ k ∧ sl.ownBlock ≠ some k) w4 x cs)
    (hG : Grew w4 w5 sl g) (hown6 : w6.ownsRow m 24 8 (.slice (some ⟨g, 0, none⟩) (acc.length + 1) cap4) (acc.length + 1) (row ++ cs)) (h56 : ∀ k, k < w5.heap.size → m ≤ k → k ≠ g → w6.heap[k]? = w5.heap[k]?) (hs : w5.heap.size ≤ w6.heap.size) :
    Gath m w6 (.slice (some ⟨g, 0, none⟩) (acc.length + 1) cap4) (acc ++ [x]) := by
  have hne : ∀ k, m ≤ k ∧ sl.ownBlock ≠ some k → k < w4.heap.size → k ≠ g := by
    intro k hk hl he
    subst he
    rcases hG.place with h | h
    · exact hk.2 h
    · omega
  have hsince : Since (fun k => m ≤ k ∧ sl.ownBlock ≠ some k) w4 w6 := ⟨Nat.le_trans hG.size hs, fun k h1 h2 => (h56 k (Nat.lt_of_lt_of_le h2 hG.size) h1.1 (hne k h1 h2)).trans (hG.block k h2 (fun e => h1.2 e.symm))⟩
  refine ⟨row ++ cs, by simpa using hown6, ?_⟩
  have hlow : ∀ k, (m ≤ k ∧ sl.ownBlock ≠ some k) → k < w4.heap.size → m ≤ k ∧ (Value.slice (some ⟨g, 0, none⟩) (acc.length + 1) cap4).ownBlock ≠ some k := fun k h1 h2 => ⟨h1.1, fun e => hne k h1 h2 (by simpa [Value.ownBlock] using e.symm)⟩
  have hsince2 : Since (fun k => m ≤ k ∧ (Value.slice (some ⟨g, 0, none⟩) (acc.length + 1) cap4).ownBlock ≠ some k ∧ (m ≤ k ∧ sl.ownBlock ≠ some k)) w4 w6 := ⟨hsince.size, fun k h1 h2 => hsince.block k h1.2.2 h2⟩
  exact ((hall.plow (B' := fun k => m ≤ k ∧ (Value.slice (some ⟨g, 0, none⟩) (acc.length + 1) cap4).ownBlock ≠ some k ∧ (m ≤ k ∧ sl.ownBlock ≠ some k)) (fun k h1 h2 => ⟨h1.1, (hlow k h1 h2).2, h1⟩)).since hsince2 |>.base (fun k h => ⟨h.1, h.2.1⟩)).snoc
    ((hx.plow (B' := fun k => m ≤ k ∧ (Value.slice (some ⟨g, 0, none⟩) (acc.length + 1) cap4).ownBlock ≠ some k ∧ (m ≤ k ∧ sl.ownBlock ≠ some k)) (fun k h1 h2 => ⟨h1.1, (hlow k h1 h2).2, h1⟩)).since hsince2 |>.base (fun k h => ⟨h.1, h.2.1⟩))
end Go.Proofs.YtifebbdjdllfpaaGreatDoor
/- A region that draws its order, and in which a part of the operations (N) keeps what the loads read (S): the loads may be taken first. Behind the others nothing is asked. -/
namespace Go.Proofs.YtifebbdjdllfpaaGreatDoor
open Go Go.RowKit
set_option linter.unusedSimpArgs false
set_option linter.unusedVariables false

section
variable {P : Program} {ops : Array Oper} {Q : Exit → Act → World → Prop} {md : Region.Mode} {S T : World → Prop} {N : Nat → Bool}
/-- Whatever comes up next; behind the operations that N names S holds. -/
def wpE (P : Program) (md : Region.Mode) (ops : Array Oper) (Q : Exit → Act → World → Prop) (S : World → Prop) (N : Nat → Bool) : Nat → Array Bool → Act → World → Prop
  | 0, listed, a, w => Region.ready md ops listed = [] ∧ Q .normal a w
  | f + 1, listed, a, w => (Region.ready md ops listed = [] → Q .normal a w) ∧ ∀ i ∈ Region.ready md ops listed, wpOp P ops Q i (fun a' w' => (N i = true → S w') ∧ wpE P md ops Q S N f (listed.setIfInBounds i true) a' w') a w
theorem wpE_any : ∀ (f : Nat) (listed : Array Bool) (a : Act) (w : World), wpE P md ops Q S N f listed a w → wpAny P md ops Q f listed a w
  | 0, _, _, _, h => h
  | f + 1, _, _, _, h => ⟨h.1, fun i hi => wpOp_mono (fun a' w' hh => wpE_any f _ a' w' hh.2) (h.2 i hi)⟩
theorem wpE_first {i : Nat} {oi : Oper} {v : Value} (hi : ops[i]? = some oi) (hsel : ∀ (j : Nat) (o : Oper) cs b, ops[j]? = some o → o.op ≠ .select cs b) (hQ : ∀ c a w, Q (.panic c) (a.put oi.dst v) w → Q (.panic c) a w) (hTS : ∀ w, T w → N i = true → S w) :
    ∀ (f : Nat) (listed : Array Bool) (a : Act) (w : World),
      (∀ j oj, ops[j]? = some oj → j ≠ i → listed.getD j true = false → (∀ e ∈ oj.after, Region.binds md e = true → e.on ≠ i) → oi.apart ops oj = true ∧ ∀ w', (N j = true → S w') → T w') →
      i ∈ Region.ready md ops listed → YieldsIf P ops T oi v a → T w → wpE P md ops Q S N f (listed.setIfInBounds i true) (a.put oi.dst v) w → wpE P md ops Q S N (f + 1) listed a w := by
  intro f
  induction f with
  | zero =>
    intro listed a w hfr hr hy hT H
    refine ⟨fun h => absurd hr (by rw [h]; simp), fun j hj => ?_⟩
    by_cases hji : j = i
    · subst hji
      exact hy.wpOp hi hT ⟨hTS w hT, H⟩
    · have h0 := ready_mono hj hji
      rw [H.1] at h0
      simp at h0
  | succ f ih =>
    intro listed a w hfr hr hy hT H
    refine ⟨fun h => absurd hr (by rw [h]; simp), fun j hj => ?_⟩
    by_cases hji : j = i
    · subst hji
      exact hy.wpOp hi hT ⟨hTS w hT, H⟩
    · have h1 := H.2 j (ready_mono hj hji)
      obtain ⟨hun, oj, hoj, hall⟩ := mem_ready.1 hj
      have hnot : ∀ e ∈ oj.after, Region.binds md e = true → e.on ≠ i := by
        intro e he hb heq
        have hon := hall e he hb
        have hun0 := (mem_ready.1 hr).1
        rw [heq] at hon
        by_cases hlt : i < listed.size
        · simp [hlt] at hun0 hon
          rw [hun0] at hon; simp at hon
        · simp [Array.getElem?_eq_none (Nat.le_of_not_lt hlt)] at hon
      obtain ⟨hap, hTj⟩ := hfr j oj hoj hji hun hnot
      have h2 := wpOp_putIf hoj hap (fun cs b => hsel i oi cs b hi) (fun cs b => hsel j oj cs b hoj) hQ hy h1
      have hfr' : ∀ k ok, ops[k]? = some ok → k ≠ i → (listed.setIfInBounds j true).getD k true = false → (∀ e ∈ ok.after, Region.binds md e = true → e.on ≠ i) → oi.apart ops ok = true ∧ ∀ w', (N k = true → S w') → T w' := by
        intro k ok hk hki hunk hno
        refine hfr k ok hk hki ?_ hno
        by_cases hjk : j = k
        · rw [← hjk]; exact hun
        · rw [getD_set_ne true hjk] at hunk; exact hunk
      refine wpOp_mono (fun a' w' h3 => ⟨h3.2.1, ih _ a' w' hfr' (ready_mono hr (fun e => hji e.symm)) h3.1 (hTj w' h3.2.1) ?_⟩) h2
      rw [Array.setIfInBounds_comm _ _ hji]
      exact h3.2.2
/-- All that N does not name wait for number i. -/
def lateWait (md : Region.Mode) (ops : Array Oper) (N : Nat → Bool) (i : Nat) : Bool := (List.range ops.size).all fun j => N j || j == i || ((ops[j]?).map fun o => o.after.any fun e => Region.binds md e && e.on == i).getD true
theorem lateWait_spec {i j : Nat} {oj : Oper} (h : lateWait md ops N i = true) (hj : ops[j]? = some oj) (hne : j ≠ i) (hno : ∀ e ∈ oj.after, Region.binds md e = true → e.on ≠ i) : N j = true := by
  have h1 := List.all_eq_true.1 h j (by simp; exact (Array.getElem?_eq_some_iff.1 hj).1)
  simp only [hj, Option.map_some, Option.getD_some, Bool.or_eq_true, beq_iff_eq] at h1
  rcases h1 with (h1 | h1) | h1
  · exact h1
  · exact absurd h1 hne
  · obtain ⟨e, he, hb⟩ := List.any_eq_true.1 (by rw [Array.any_toList]; exact h1)
    simp only [Bool.and_eq_true, beq_iff_eq] at hb
    exact absurd hb.2 (hno e (by simpa using he) hb.1)
/-- Take number i first: what it yields it yields in every world that meets S. -/
theorem wpE_take {i : Nat} {oi : Oper} {v : Value} {f : Nat} {listed : Array Bool} {a : Act} {w : World} (hi : ops[i]? = some oi) (hs : Region.noSelect ops = true) (hf : Region.free md ops listed i = true) (hr : (Region.ready md ops listed).contains i = true) (hl : lateWait md ops N i = true)
    (hQ : ∀ c a w, Q (.panic c) (a.put oi.dst v) w → Q (.panic c) a w) (hw : Region.wanted oi (yielded ops a.tmps) = true) (hy : ∀ w, S w → (execOp a.eval oi).run P w = .ok (.value v) w) (hS : S w) (h : wpE P md ops Q S N f (listed.setIfInBounds i true) (a.put oi.dst v) w) : wpE P md ops Q S N (f + 1) listed a w :=
  wpE_first (T := S) hi (Region.noSelect_spec hs) hQ (fun _ h _ => h) f listed a w (fun j oj h1 h2 h3 h4 => ⟨Region.free_spec hi hf j oj h1 h2 h3 h4, fun w' hw' => hw' (lateWait_spec hl h1 h2 h4)⟩) (by simpa using hr) (Or.inl ⟨hw, hy⟩) hS h
/-- Take number i first, behind all that N names: it yields in whatever world. -/
theorem wpE_takeL {i : Nat} {oi : Oper} {v : Value} {f : Nat} {listed : Array Bool} {a : Act} {w : World} (hi : ops[i]? = some oi) (hs : Region.noSelect ops = true) (hf : Region.free md ops listed i = true) (hr : (Region.ready md ops listed).contains i = true) (hN : N i = false)
    (hQ : ∀ c a w, Q (.panic c) (a.put oi.dst v) w → Q (.panic c) a w) (hw : Region.wanted oi (yielded ops a.tmps) = true) (hy : ∀ w, (execOp a.eval oi).run P w = .ok (.value v) w) (h : wpE P md ops Q S N f (listed.setIfInBounds i true) (a.put oi.dst v) w) : wpE P md ops Q S N (f + 1) listed a w :=
  wpE_first (T := fun _ => True) hi (Region.noSelect_spec hs) hQ (fun _ _ h => by rw [hN] at h; simp at h) f listed a w (fun j oj h1 h2 h3 h4 => ⟨Region.free_spec hi hf j oj h1 h2 h3 h4, fun _ _ => trivial⟩) (by simpa using hr) (Or.inl ⟨hw, fun w _ => hy w⟩) trivial h
theorem wpE_one {i : Nat} {f : Nat} {listed : Array Bool} {a : Act} {w : World} {oi : Oper} (hr : Region.ready md ops listed = [i]) (hi : ops[i]? = some oi) (hw : Region.wanted oi (yielded ops a.tmps) = true)
    (h : ∀ K : Act → World → Prop, (∀ a' w', (N i = true → S w') → wpE P md ops Q S N f (listed.setIfInBounds i true) a' w' → K a' w') → oi.wp P a w K Q) : wpE P md ops Q S N (f + 1) listed a w := by
  refine ⟨fun h0 => by rw [hr] at h0; simp at h0, fun j hj => ?_⟩
  rw [hr] at hj
  simp at hj
  subst hj
  unfold wpOp
  simp only [hi, hw, if_true]
  exact Or.inl (h _ (fun a' w' h1 h2 => ⟨h1, h2⟩))
theorem wpE_two {i j : Nat} {f : Nat} {listed : Array Bool} {a : Act} {w : World} {oi oj : Oper} (hr : Region.ready md ops listed = [i, j]) (hi : ops[i]? = some oi) (hj : ops[j]? = some oj) (hwi : Region.wanted oi (yielded ops a.tmps) = true) (hwj : Region.wanted oj (yielded ops a.tmps) = true)
    (h1 : ∀ K : Act → World → Prop, (∀ a' w', (N i = true → S w') → wpE P md ops Q S N f (listed.setIfInBounds i true) a' w' → K a' w') → oi.wp P a w K Q)
    (h2 : ∀ K : Act → World → Prop, (∀ a' w', (N j = true → S w') → wpE P md ops Q S N f (listed.setIfInBounds j true) a' w' → K a' w') → oj.wp P a w K Q) : wpE P md ops Q S N (f + 1) listed a w := by
  refine ⟨fun h0 => by rw [hr] at h0; simp at h0, fun k hk => ?_⟩
  rw [hr] at hk
  simp at hk
  unfold wpOp
  rcases hk with rfl | rfl
  · simp only [hi, hwi, if_true]
    exact Or.inl (h1 _ (fun a' w' h1 h2 => ⟨h1, h2⟩))
  · simp only [hj, hwj, if_true]
    exact Or.inl (h2 _ (fun a' w' h1 h2 => ⟨h1, h2⟩))
theorem wpE_done {f : Nat} {listed : Array Bool} {a : Act} {w : World} (hr : Region.ready md ops listed = []) (h : Q .normal a w) : wpE P md ops Q S N f listed a w := by
  cases f with
  | zero => exact ⟨hr, h⟩
  | succ f => exact ⟨fun _ => h, by rw [hr]; simp⟩
theorem wpE_begin {id : Nat} {a : Act} {w : World} (hm : P.follows .mixedOrders = true) (h : wpE P .any ops Q S N ops.size (Array.replicate ops.size false) a w.drew) : (Code.region id ops true).wp P Q a w := wp_region_any hm (wpE_any _ _ _ _ h)
end
end Go.Proofs.YtifebbdjdllfpaaGreatDoor
/- One argument of a call: the parser's reading. -/
namespace Go.Proofs.YtifebbdjdllfpaaGreatDoor
open Go.RowKit
set_option linter.unusedSimpArgs false
set_option linter.unusedVariables false

theorem setCell_os (w : World) (p : Addr) (v : Value) : (w.setCell p v).os = w.os := rfl
theorem setCell_tape (w : World) (p : Addr) (v : Value) : (w.setCell p v).tape = w.tape := rfl
theorem setCell_output (w : World) (p : Addr) (v : Value) : (w.setCell p v).output = w.output := rfl
/-- The end of one more expression's gathering into a list that lies in a box: what the world is then. -/
theorem gath_end {b ga n gx m F cap5 g : Nat} {w w4 w5 w7 : World} {sl : Value} {acc : List Px.Ex} {row : List Value} {x : Px.Ex} {l' : List Lx.Tok} {k o nn p an2 ac2 : Nat} {t : Lx.B} {ao2 : Option Addr} {O : Value → Obj}
    (hset : ∀ w' : World, w'.heap[gx]? = some (O sl) → ∀ v, (w'.setCell ⟨gx, F, none⟩ v).heap[gx]? = some (O v))
    (hm : gx < m) (hmw : m ≤ w.heap.size) (hb : b < gx) (hga : ga < gx) (hnx : n ≤ gx) (hnw : n ≤ w.heap.size) (hx : w.heap[gx]? = some (O sl)) (hown : w.ownsRow m 24 8 sl acc.length row) (hall : AllEx (fun k => m ≤ k ∧ sl.ownBlock ≠ some k) w acc row)
    (hxx : IsEx (From w.heap.size) w4 x (eL k o nn t (.slice ao2 an2 ac2) p)) (h4 : Ps b ga l' w4) (fo4 : Fo b w.heap.size w w4) (hG : Grew w4 w5 sl g) (hown5 : w5.ownsRow m 24 8 (.slice (some ⟨g, 0, none⟩) (acc.length + 1) cap5) (acc.length + 1) (row ++ zeroL))
    (h7 : w7 = (setN w5 g (acc.length * 8) (eL k o nn t (.slice ao2 an2 ac2) p)).setCell ⟨gx, F, none⟩ (.slice (some ⟨g, 0, none⟩) (acc.length + 1) cap5) ∨ w7 = setN (w5.setCell ⟨gx, F, none⟩ (.slice (some ⟨g, 0, none⟩) (acc.length + 1) cap5)) g (acc.length * 8) (eL k o nn t (.slice ao2 an2 ac2) p)) :
    Gath m w7 (.slice (some ⟨g, 0, none⟩) (acc.length + 1) cap5) (acc ++ [x]) ∧ w7.heap[gx]? = some (O (.slice (some ⟨g, 0, none⟩) (acc.length + 1) cap5)) ∧ Fo b n w w7 ∧ Ps b ga l' w7 ∧ ∀ k, k < m → k ≠ b → k ≠ gx → w7.heap[k]? = w.heap[k]? := by
  have hlx : gx < w.heap.size := (Array.getElem?_eq_some_iff.1 hx).1
  have hown4 := owns_fo hown fo4 (by omega)
  have hlx4 : gx < w4.heap.size := Nat.lt_of_lt_of_le hlx fo4.size
  have hgb := hown5.lt g rfl
  have far : ∀ k, k < m → some k ≠ sl.ownBlock := fun k hk e => by have := (hown4.lt k e.symm).1; omega
  have hx5 : w5.heap[gx]? = some (O sl) := (hG.block gx hlx4 (far gx hm)).trans ((fo4.block gx hlx (by omega)).trans hx)
  have hrl := hown.1
  have hcs : (eL k o nn t (.slice ao2 an2 ac2) p).length = 8 := rfl
  have hz : zeroL.length = 8 := rfl
  have hoth : ∀ j, j ≠ g → j ≠ gx → w7.heap[j]? = w5.heap[j]? := by
    intro j h1 h2
    rcases h7 with rfl | rfl
    · exact (Below.heap_setCell _ _ _ _ h2).trans (setN_other h1 _ _ _)
    · exact (setN_other h1 _ _ _).trans (Below.heap_setCell _ _ _ _ h2)
  have hsz : w7.heap.size = w5.heap.size := by
    rcases h7 with rfl | rfl
    · simp [World.setCell, setN_size]
    · rw [setN_size]; simp [World.setCell]
  have hq : w7.os = w5.os ∧ w7.tape = w5.tape ∧ w7.output = w5.output := by
    rcases h7 with rfl | rfl
    · have f := setN_fo (g := g) (n := 0) (eL k o nn t (.slice ao2 an2 ac2) p) w5 (acc.length * 8)
      exact ⟨(setCell_os _ _ _).trans f.os, (setCell_tape _ _ _).trans f.tape, (setCell_output _ _ _).trans f.output⟩
    · have f := setN_fo (g := g) (n := 0) (eL k o nn t (.slice ao2 an2 ac2) p) (w5.setCell ⟨gx, F, none⟩ (.slice (some ⟨g, 0, none⟩) (acc.length + 1) cap5)) (acc.length * 8)
      exact ⟨f.os.trans (setCell_os _ _ _), f.tape.trans (setCell_tape _ _ _), f.output.trans (setCell_output _ _ _)⟩
  have hbx : w7.heap[gx]? = some (O (.slice (some ⟨g, 0, none⟩) (acc.length + 1) cap5)) := by
    rcases h7 with rfl | rfl
    · exact hset _ ((setN_other (by omega) _ _ _).trans hx5) _
    · exact (setN_other (by omega) _ _ _).trans (hset _ hx5 _)
  have hown7 : w7.ownsRow m 24 8 (.slice (some ⟨g, 0, none⟩) (acc.length + 1) cap5) (acc.length + 1) (row ++ eL k o nn t (.slice ao2 an2 ac2) p) := by
    rcases h7 with rfl | rfl
    · exact ownsRow_setCell_below (owns_setN hown5 hrl hz hcs) (by show gx < m; omega) _
    · exact owns_setN (ownsRow_setCell_below hown5 (a := ⟨gx, F, none⟩) (by show gx < m; omega) _) hrl hz hcs
  clear h7
  have hz4 := fo4.size
  have hold : ∀ k, k < m → k ≠ b → k ≠ gx → w7.heap[k]? = w.heap[k]? := fun k h1 h2 h3 => (hoth k (by omega) h3).trans ((hG.block k (by omega) (far k h1)).trans (fo4.block k (by omega) h2))
  have hall4 := hall.since (fo4.sinceB (fun hh => by omega))
  refine ⟨gath_snoc hown4 hall4 (hxx.plow (fun k hk _ => ⟨by have : w.heap.size ≤ k := hk; omega, fun e => by have := (hown.lt k e).2; have : w.heap.size ≤ k := hk; omega⟩)) hG hown7 (fun k h1 h2 h3 => hoth k h3 (by omega)) (by omega), hbx, ⟨hq.1.trans (hG.os.trans fo4.os), hq.2.1.trans (hG.tape.trans fo4.tape), hq.2.2.trans (hG.output.trans fo4.output), by have := hG.size; have := fo4.size; omega, fun k h1 h2 => hold k (by omega) h2 (by omega)⟩, ?_, fun k h1 h2 h3 => hold k h1 h2 h3⟩
  exact h4.keep ((hoth b (by omega) (by omega)).trans (hG.block b (by omega) (far b (by omega)))) ((hoth ga (by omega) (by omega)).trans (hG.block ga (by omega) (far ga (by omega)))) (by have := hG.size; omega)
/-- At gx lies a call whose arguments so far are acc. -/
structure ArgBox (b gp gd gx d : Nat) (nm : Lx.B) (pl : Nat) (acc : List Px.Ex) (w : World) : Prop where
  ptr : w.heap[gp]? = some (ptrObj b)
  dep : w.heap[gd]? = some (depObj d)
  box : ∃ sl, w.heap[gx]? = some (eO 7 0 0 nm sl pl) ∧ Gath (gx + 1) w sl acc
theorem ArgBox.fo {b gp gd gx d : Nat} {nm : Lx.B} {pl : Nat} {acc : List Px.Ex} {w w' : World} (h : ArgBox b gp gd gx d nm pl acc w) (f : Fo b w.heap.size w w') (h1 : b < gp) (h2 : gp < gd) (h3 : gd < gx) : ArgBox b gp gd gx d nm pl acc w' := by
  obtain ⟨hp, hd, sl, hx, hg⟩ := h
  exact ⟨(f.block gp (Array.getElem?_eq_some_iff.1 hp).1 (by omega)).trans hp, (f.block gd (Array.getElem?_eq_some_iff.1 hd).1 (by omega)).trans hd, sl, (f.block gx (Array.getElem?_eq_some_iff.1 hx).1 (by omega)).trans hx, hg.fo f (by omega)⟩

set_option maxRecDepth 100000 in
set_option maxHeartbeats 8000000 in
theorem parg_any {b ga n gp gd gx d : Nat} {nm : Lx.B} {pl : Nat} {q : Px.P Px.Ex} (hd : d ≤ 30) (hexp : ExprOk (d + 1) q) (h1 : b < gp) (h2 : gp < gd) (h3 : gd < gx) (hga : ga < gp) (hng : n ≤ gx) (acc : List Px.Ex) (l : List Lx.Tok) (w : World) (h : Ps b ga l w) (hi : ArgBox b gp gd gx d nm pl acc w) (hn : n ≤ w.heap.size) (hal : acc.length + l.length ≤ 4096) :
    Calls Tryz.prog 170 #[.pointer (some ⟨gx, 0, none⟩), .pointer (some ⟨gp, 0, none⟩), .pointer (some ⟨gd, 0, none⟩)] w fun e w' => PartPost b ga n (ArgBox b gp gd gx d nm pl) acc w (q l) e w' := by
  obtain ⟨i0, hi0, hz0, hz1, hz2⟩ := info_parts exprInfo
  obtain ⟨hp, hdp, sl, hx, row, hown, hall⟩ := hi
  have hlp : gp < w.heap.size := (Array.getElem?_eq_some_iff.1 hp).1
  have hld : gd < w.heap.size := (Array.getElem?_eq_some_iff.1 hdp).1
  have hlx : gx < w.heap.size := (Array.getElem?_eq_some_iff.1 hx).1
  have c0 := cell_of_one hp
  have d0 := cell_of_one hdp
  have c6 : w.cell? ⟨gx, 6, none⟩ = some sl := by simp [World.cell?, hx]
  have k6 : w.frozen? ⟨gx, 6, none⟩ = false := by simp [World.frozen?, hx]
  obtain ⟨ao, cap, rfl⟩ := slice_of hown
  have hC : ∀ w', Ps b ga l w' → Calls Tryz.prog 127 #[.pointer (some ⟨b, 0, none⟩), .int .i64 ((d : Int) + 1)] w' fun e w'' => ExPost b ga w' (q l) e w'' := fun w' h' => hexp b ga l w' h'
  have hdI : (d : Int) ≤ 30 := by omega
  have hwr : IntKind.i64.wrap ((d : Int) + 1) = (d : Int) + 1 := IntWalk.i64_in _ (by omega)
  have hp1 : Ps b ga l w.drew := h.keep rfl rfl (Nat.le_refl _)
  have hp2 : ∀ o, Ps b ga l (w.alloc o).drew := fun o => (h.alloc o).keep rfl rfl (Nat.le_refl _)
  have hSd : ∀ o, (w.alloc o).drew.cell? ⟨gp, 0, none⟩ = some (.pointer (some ⟨b, 0, none⟩)) ∧ (w.alloc o).drew.cell? ⟨gd, 0, none⟩ = some (.int .i64 d) ∧ (w.alloc o).drew.cell? ⟨gx, 6, none⟩ = some (.slice ao acc.length cap) := fun o => ⟨(World.cell?_of_block (w := w) (heap_old hlp)).trans c0, (World.cell?_of_block (w := w) (heap_old hld)).trans d0, (World.cell?_of_block (w := w) (heap_old hlx)).trans c6⟩
  have hnlt : (acc.length : Int) < (acc.length : Int) + 1 := by omega
  have hn4 : acc.length ≤ 4096 := by omega
  rcases hq : q l with ⟨x, l'⟩ | ⟨a, er⟩
  · rw [hq] at hC
    have hC1 : Calls Tryz.prog 127 #[.pointer (some ⟨b, 0, none⟩), .int .i64 ((d : Int) + 1)] w.drew fun e w'' => ∃ k o nn t ao2 an2 ac2 p, e = .returned (eV k o nn t (.slice ao2 an2 ac2) p) ∧ IsEx (From w.heap.size) w'' x (eL k o nn t (.slice ao2 an2 ac2) p) ∧ Ps b ga l' w'' ∧ Fo b w.heap.size w w'' := by
      refine (hC _ hp1).mono ?_
      rintro e w'' ⟨v, rfl, ⟨k, o, nn, t, ao2, an2, ac2, p, rfl, hxx⟩, h4, fo4⟩
      exact ⟨k, o, nn, t, ao2, an2, ac2, p, rfl, hxx, h4, (Fo.drew b _ w).trans fo4⟩
    have hC2 : ∀ o, Calls Tryz.prog 127 #[.pointer (some ⟨b, 0, none⟩), .int .i64 ((d : Int) + 1)] (w.alloc o).drew fun e w'' => ∃ k o1 nn t ao2 an2 ac2 p, e = .returned (eV k o1 nn t (.slice ao2 an2 ac2) p) ∧ IsEx (From w.heap.size) w'' x (eL k o1 nn t (.slice ao2 an2 ac2) p) ∧ Ps b ga l' w'' ∧ Fo b w.heap.size w w'' ∧ w''.heap[w.heap.size]? = some o := by
      intro o
      refine (hC _ (hp2 o)).mono ?_
      rintro e w'' ⟨v, rfl, ⟨k, o1, nn, t, ao2, an2, ac2, p, rfl, hxx⟩, h4, fo4⟩
      have hsz : (w.alloc o).drew.heap.size = w.heap.size + 1 := by show (w.alloc o).heap.size = _; simp
      refine ⟨k, o1, nn, t, ao2, an2, ac2, p, rfl, hxx.base (from_mono (by omega)), h4, (((Fo.refl b _ w).alloc (Nat.le_refl _) o).trans (Fo.drew _ _ _)).trans (fo4.mono (by omega)), ?_⟩
      rw [fo4.block _ (by omega) (by have := h.there; omega)]
      exact heap_new w o
    have hfac : ∀ w4, Fo b w.heap.size w w4 → w4.cell? ⟨gp, 0, none⟩ = some (.pointer (some ⟨b, 0, none⟩)) ∧ w4.cell? ⟨gd, 0, none⟩ = some (.int .i64 d) ∧ w4.cell? ⟨gx, 6, none⟩ = some (.slice ao acc.length cap) ∧ gx < w4.heap.size ∧ w4.ownsRow (gx + 1) 24 8 (.slice ao acc.length cap) acc.length row := fun w4 f => ⟨(f.cell hlp (by omega)).trans c0, (f.cell hld (by omega)).trans d0, (f.cell hlx (by omega)).trans c6, Nat.lt_of_lt_of_le hlx f.size, owns_fo hown f (by omega)⟩
    have hSal : ∀ (w4 : World) (o : Obj), Fo b w.heap.size w w4 → (w4.cell? ⟨gp, 0, none⟩ = some (.pointer (some ⟨b, 0, none⟩)) ∧ w4.cell? ⟨gd, 0, none⟩ = some (.int .i64 d) ∧ w4.cell? ⟨gx, 6, none⟩ = some (.slice ao acc.length cap)) → (w4.alloc o).cell? ⟨gp, 0, none⟩ = some (.pointer (some ⟨b, 0, none⟩)) ∧ (w4.alloc o).cell? ⟨gd, 0, none⟩ = some (.int .i64 d) ∧ (w4.alloc o).cell? ⟨gx, 6, none⟩ = some (.slice ao acc.length cap) := fun w4 o f hh => by
      have := f.size
      exact ⟨(World.cell?_of_block (w := w4) (heap_old (by show gp < _; omega))).trans hh.1, (World.cell?_of_block (w := w4) (heap_old (by show gd < _; omega))).trans hh.2.1, (World.cell?_of_block (w := w4) (heap_old (by show gx < _; omega))).trans hh.2.2⟩
    clear hC hq
    have hgrf : ∀ (w4 w5 : World) (g cap5 : Nat), Fo b w.heap.size w w4 → Grew w4 w5 (.slice ao acc.length cap) g → w5.ownsRow (gx + 1) 24 8 (.slice (some ⟨g, 0, none⟩) (acc.length + 1) cap5) (acc.length + 1) (row ++ zeroL) →
        w5.cell? ⟨gx, 6, none⟩ = some (.slice ao acc.length cap) ∧ w5.frozen? ⟨gx, 6, none⟩ = false ∧ gx < g ∧ g < w5.heap.size ∧ acc.length + 1 ≤ cap5 := by
      intro w4 w5 g cap5 f hG ho
      obtain ⟨f1, f2, f3, f4, f5⟩ := hfac w4 f
      have far : ∀ k, k ≤ gx → some k ≠ (Value.slice ao acc.length cap).ownBlock := fun k hk e => by have := (f5.lt k e.symm).1; omega
      have hbx : w5.heap[gx]? = w.heap[gx]? := (hG.block gx f4 (far gx (Nat.le_refl _))).trans (f.block gx hlx (by omega))
      have hlt := (ho.lt g rfl)
      refine ⟨(World.cell?_of_block (w := w) hbx).trans c6, (World.frozen?_of_block (w := w) hbx).trans k6, by omega, hlt.2, ?_⟩
      rcases ho.2 with ⟨hv, _⟩ | ⟨g', cap', cur, hv, _, _, hnn, _⟩
      · simp at hv
      · simp at hv; omega
    have hrl := hown.1
    have hrow8 : ∀ (w5 : World) (g cap5 : Nat), w5.ownsRow (gx + 1) 24 8 (.slice (some ⟨g, 0, none⟩) (acc.length + 1) cap5) (acc.length + 1) (row ++ zeroL) →
        w5.cell? ⟨g, acc.length * 8, none⟩ = some (.int .i64 0) ∧ w5.cell? ⟨g, acc.length * 8 + 1, none⟩ = some (.int .i64 0) ∧ w5.cell? ⟨g, acc.length * 8 + 2, none⟩ = some (.int .i64 0) ∧ w5.cell? ⟨g, acc.length * 8 + 3, none⟩ = some (.string ⟨#[]⟩) ∧ w5.cell? ⟨g, acc.length * 8 + 4, none⟩ = some (.int .i64 0) ∧ w5.cell? ⟨g, acc.length * 8 + 5, none⟩ = some (.string ⟨#[]⟩) ∧ w5.cell? ⟨g, acc.length * 8 + 6, none⟩ = some (.slice none 0 0) ∧ w5.cell? ⟨g, acc.length * 8 + 7, none⟩ = some (.int .i64 0) ∧ w5.frozen? ⟨g, acc.length * 8, none⟩ = false ∧ w5.frozen? ⟨g, acc.length * 8 + 1, none⟩ = false ∧ w5.frozen? ⟨g, acc.length * 8 + 2, none⟩ = false ∧ w5.frozen? ⟨g, acc.length * 8 + 3, none⟩ = false ∧ w5.frozen? ⟨g, acc.length * 8 + 4, none⟩ = false ∧ w5.frozen? ⟨g, acc.length * 8 + 5, none⟩ = false ∧ w5.frozen? ⟨g, acc.length * 8 + 6, none⟩ = false ∧ w5.frozen? ⟨g, acc.length * 8 + 7, none⟩ = false := by
      intro w5 g cap5 ho
      have o8 := owns_cell ho hrl
      exact ⟨(o8 0 _ rfl).1, (o8 1 _ rfl).1, (o8 2 _ rfl).1, (o8 3 _ rfl).1, (o8 4 _ rfl).1, (o8 5 _ rfl).1, (o8 6 _ rfl).1, (o8 7 _ rfl).1, (o8 0 _ rfl).2, (o8 1 _ rfl).2, (o8 2 _ rfl).2, (o8 3 _ rfl).2, (o8 4 _ rfl).2, (o8 5 _ rfl).2, (o8 6 _ rfl).2, (o8 7 _ rfl).2⟩
    have hfin : ∀ (w4 w5 w7 : World) (g cap5 k o nn : Nat) (t : Lx.B) (ao2 : Option Addr) (an2 ac2 p : Nat), IsEx (From w.heap.size) w4 x (eL k o nn t (.slice ao2 an2 ac2) p) → Ps b ga l' w4 → Fo b w.heap.size w w4 → Grew w4 w5 (.slice ao acc.length cap) g → w5.ownsRow (gx + 1) 24 8 (.slice (some ⟨g, 0, none⟩) (acc.length + 1) cap5) (acc.length + 1) (row ++ zeroL) →
        (w7 = (setN w5 g (acc.length * 8) (eL k o nn t (.slice ao2 an2 ac2) p)).setCell ⟨gx, 6, none⟩ (.slice (some ⟨g, 0, none⟩) (acc.length + 1) cap5) ∨ w7 = setN (w5.setCell ⟨gx, 6, none⟩ (.slice (some ⟨g, 0, none⟩) (acc.length + 1) cap5)) g (acc.length * 8) (eL k o nn t (.slice ao2 an2 ac2) p)) →
        PartPost b ga n (ArgBox b gp gd gx d nm pl) acc w (.inl (x, l')) (.returned (.tuple #[])) w7 := by
      intro w4 w5 w7 g cap5 k o nn t ao2 an2 ac2 p hxx h4 fo4 hG hown5 h7
      obtain ⟨r1, r2, r3, r4, r5⟩ := gath_end (O := fun v => eO 7 0 0 nm v pl) (F := 6) (n := n) (fun w' hw v => by simp [World.setCell, Array.getElem?_modify, hw]) (Nat.lt_succ_self gx) hlx (by omega) (by omega) (by omega) hn hx hown hall hxx h4 fo4 hG hown5 h7
      exact ⟨rfl, ⟨(r5 gp (by omega) (by omega) (by omega)).trans hp, (r5 gd (by omega) (by omega) (by omega)).trans hdp, _, r2, r1⟩, r4, r3⟩
    go_enter Tryz.func170, Tryz.ntmps170
    go_wp2_with fail
    refine wpE_begin (S := fun w' => w'.cell? ⟨gp, 0, none⟩ = some (.pointer (some ⟨b, 0, none⟩)) ∧ w'.cell? ⟨gd, 0, none⟩ = some (.int .i64 d) ∧ w'.cell? ⟨gx, 6, none⟩ = some (.slice ao acc.length cap)) (N := fun j => decide (j < 8)) (by kernel_rfl) ?_
    have hS0 : w.drew.cell? ⟨gp, 0, none⟩ = some (.pointer (some ⟨b, 0, none⟩)) ∧ w.drew.cell? ⟨gd, 0, none⟩ = some (.int .i64 d) ∧ w.drew.cell? ⟨gx, 6, none⟩ = some (.slice ao acc.length cap) := ⟨c0, d0, c6⟩
    refine wpE_take (i := 0) (v := .pointer (some ⟨gx, 6, none⟩)) rfl (by kernel_rfl) (by kernel_rfl) (by kernel_rfl) (by kernel_rfl) (fun _ _ _ h => h) rfl (fun w' hS => by obtain ⟨s1, s2, s3⟩ := hS; go_simp) hS0 ?_
    try simp only [Act.put, List.setIfInBounds_toArray, List.set_cons_zero, List.set_cons_succ]
    refine wpE_take (i := 2) (v := .pointer (some ⟨b, 0, none⟩)) rfl (by kernel_rfl) (by kernel_rfl) (by kernel_rfl) (by kernel_rfl) (fun _ _ _ h => h) rfl (fun w' hS => by obtain ⟨s1, s2, s3⟩ := hS; go_simp) hS0 ?_
    try simp only [Act.put, List.setIfInBounds_toArray, List.set_cons_zero, List.set_cons_succ]
    refine wpE_take (i := 3) (v := .int .i64 d) rfl (by kernel_rfl) (by kernel_rfl) (by kernel_rfl) (by kernel_rfl) (fun _ _ _ h => h) rfl (fun w' hS => by obtain ⟨s1, s2, s3⟩ := hS; go_simp) hS0 ?_
    try simp only [Act.put, List.setIfInBounds_toArray, List.set_cons_zero, List.set_cons_succ]
    refine wpE_take (i := 1) (v := .slice ao acc.length cap) rfl (by kernel_rfl) (by kernel_rfl) (by kernel_rfl) (by kernel_rfl) (fun _ _ _ h => h) rfl (fun w' hS => by obtain ⟨s1, s2, s3⟩ := hS; go_simp) hS0 ?_
    try simp only [Act.put, List.setIfInBounds_toArray, List.set_cons_zero, List.set_cons_succ]
    refine wpE_take (i := 4) (v := .int .i64 ((d : Int) + 1)) rfl (by kernel_rfl) (by kernel_rfl) (by kernel_rfl) (by kernel_rfl) (fun _ _ _ h => h) rfl (fun w' hS => by obtain ⟨s1, s2, s3⟩ := hS; go_simp) hS0 ?_
    try simp only [Act.put, List.setIfInBounds_toArray, List.set_cons_zero, List.set_cons_succ]
    refine wpE_take (i := 6) (v := .int .i64 acc.length) rfl (by kernel_rfl) (by kernel_rfl) (by kernel_rfl) (by kernel_rfl) (fun _ _ _ h => h) rfl (fun w' hS => by obtain ⟨s1, s2, s3⟩ := hS; go_simp) hS0 ?_
    try simp only [Act.put, List.setIfInBounds_toArray, List.set_cons_zero, List.set_cons_succ]
    refine wpE_two (i := 5) (j := 7) (by kernel_rfl) rfl rfl rfl rfl (fun K hK => ?_) (fun K hK => ?_)
    · go_simp
      refine hC1.mono ?_
      rintro e w4 ⟨k, o, nn, t, ao2, an2, ac2, p, rfl, hxx, h4, fo4⟩
      obtain ⟨yp, yd, y6, hlx4, hown4⟩ := hfac w4 fo4
      refine hK _ _ (fun _ => ⟨yp, yd, y6⟩) ?_
      clear hK K
      try simp only [Act.put, List.setIfInBounds_toArray, List.set_cons_zero, List.set_cons_succ]
      refine wpE_one (i := 7) (by kernel_rfl) rfl rfl (fun K hK => ?_)
      go_simp
      refine hK _ _ (fun _ => hSal w4 _ fo4 ⟨yp, yd, y6⟩) ?_
      clear hK K
      try simp only [Act.put, List.setIfInBounds_toArray, List.set_cons_zero, List.set_cons_succ]
      refine wpE_one (i := 8) (by kernel_rfl) rfl rfl (fun K hK => ?_)
      refine wp_append_lies _ (.tmp 4) (.tmp 10) 22 rfl (gx + 1) 24 i0 _ 8 96 Tryz.underlying22 hi0 hz0 hz1 hz2 rfl (by omega) (.slice ao acc.length cap) acc.length row rfl (hown4.alloc _) ⟨w4.heap.size, 0, none⟩ 1 1 zeroL rfl rfl (World.news_of_block (heap_new w4 _)) (by simp [Value.oneCell']) (by omega) (by unfold maxLen; omega) (by omega) (by simp; omega) (w4.heap.size + 1) (by simp) ?_
      intro g cap5 w5 hown5 hgrow hat hlt5
      have hG := grewB hgrow hat
      obtain ⟨z6, zf, hgx, hgl, hcap⟩ := hgrf w4 w5 g cap5 fo4 hG hown5
      obtain ⟨q0, q1, q2, q3, q4, q5, q6, q7, r0, r1, r2, r3, r4, r5, r6, r7⟩ := hrow8 w5 g cap5 hown5
      refine hK _ _ (fun h => absurd h (by decide)) ?_
      clear hK K
      try simp only [Act.put, List.setIfInBounds_toArray, List.set_cons_zero, List.set_cons_succ]
      refine wpE_takeL (i := 9) (v := .pointer (some ⟨g, acc.length * 8, none⟩)) rfl (by kernel_rfl) (by kernel_rfl) (by kernel_rfl) rfl (fun _ _ _ h => h) rfl (fun w' => by go_simp) ?_
      try simp only [Act.put, List.setIfInBounds_toArray, List.set_cons_zero, List.set_cons_succ]
      refine wpE_takeL (i := 11) (v := .pointer (some ⟨gx, 6, none⟩)) rfl (by kernel_rfl) (by kernel_rfl) (by kernel_rfl) rfl (fun _ _ _ h => h) rfl (fun w' => by go_simp) ?_
      try simp only [Act.put, List.setIfInBounds_toArray, List.set_cons_zero, List.set_cons_succ]
      refine wpE_two (i := 10) (j := 12) (by kernel_rfl) rfl rfl rfl rfl (fun K hK => ?_) (fun K hK => ?_)
      · go_simp
        refine hK _ _ (fun h => absurd h (by decide)) ?_
        clear hK K
        refine wpE_one (i := 12) (by kernel_rfl) rfl rfl (fun K hK => ?_)
        go_simp
        refine hK _ _ (fun h => absurd h (by decide)) (wpE_done (by kernel_rfl) ?_)
        go_wp2
        go_end0
        exact hfin w4 w5 _ g cap5 k o nn t ao2 an2 ac2 p hxx h4 fo4 hG hown5 (Or.inl (by simp only [setN, Nat.add_assoc, Nat.reduceAdd]))
      · go_simp
        refine hK _ _ (fun h => absurd h (by decide)) ?_
        clear hK K
        refine wpE_one (i := 10) (by kernel_rfl) rfl rfl (fun K hK => ?_)
        go_simp
        refine hK _ _ (fun h => absurd h (by decide)) (wpE_done (by kernel_rfl) ?_)
        go_wp2
        go_end0
        exact hfin w4 w5 _ g cap5 k o nn t ao2 an2 ac2 p hxx h4 fo4 hG hown5 (Or.inr (by simp only [setN, Nat.add_assoc, Nat.reduceAdd]))
    · go_simp
      refine hK _ _ (fun _ => hSd _) ?_
      clear hK K
      try simp only [Act.put, List.setIfInBounds_toArray, List.set_cons_zero, List.set_cons_succ]
      refine wpE_one (i := 5) (by kernel_rfl) rfl rfl (fun K hK => ?_)
      go_simp
      refine (hC2 _).mono ?_
      rintro e w4 ⟨k, o, nn, t, ao2, an2, ac2, p, rfl, hxx, h4, fo4, hz4⟩
      obtain ⟨yp, yd, y6, hlx4, hown4⟩ := hfac w4 fo4
      refine hK _ _ (fun _ => ⟨yp, yd, y6⟩) ?_
      clear hK K
      try simp only [Act.put, List.setIfInBounds_toArray, List.set_cons_zero, List.set_cons_succ]
      refine wpE_one (i := 8) (by kernel_rfl) rfl rfl (fun K hK => ?_)
      refine wp_append_lies _ (.tmp 4) (.tmp 10) 22 rfl (gx + 1) 24 i0 _ 8 96 Tryz.underlying22 hi0 hz0 hz1 hz2 rfl (by omega) (.slice ao acc.length cap) acc.length row rfl hown4 ⟨w.heap.size, 0, none⟩ 1 1 zeroL rfl rfl (World.news_of_block hz4) (by simp [Value.oneCell']) (by omega) (by unfold maxLen; omega) (by omega) (by omega) w4.heap.size rfl ?_
      intro g cap5 w5 hown5 hgrow hat hlt5
      have hG := grewA hgrow hat
      obtain ⟨z6, zf, hgx, hgl, hcap⟩ := hgrf w4 w5 g cap5 fo4 hG hown5
      obtain ⟨q0, q1, q2, q3, q4, q5, q6, q7, r0, r1, r2, r3, r4, r5, r6, r7⟩ := hrow8 w5 g cap5 hown5
      refine hK _ _ (fun h => absurd h (by decide)) ?_
      clear hK K
      try simp only [Act.put, List.setIfInBounds_toArray, List.set_cons_zero, List.set_cons_succ]
      refine wpE_takeL (i := 9) (v := .pointer (some ⟨g, acc.length * 8, none⟩)) rfl (by kernel_rfl) (by kernel_rfl) (by kernel_rfl) rfl (fun _ _ _ h => h) rfl (fun w' => by go_simp) ?_
      try simp only [Act.put, List.setIfInBounds_toArray, List.set_cons_zero, List.set_cons_succ]
      refine wpE_takeL (i := 11) (v := .pointer (some ⟨gx, 6, none⟩)) rfl (by kernel_rfl) (by kernel_rfl) (by kernel_rfl) rfl (fun _ _ _ h => h) rfl (fun w' => by go_simp) ?_
      try simp only [Act.put, List.setIfInBounds_toArray, List.set_cons_zero, List.set_cons_succ]
      refine wpE_two (i := 10) (j := 12) (by kernel_rfl) rfl rfl rfl rfl (fun K hK => ?_) (fun K hK => ?_)
      · go_simp
        refine hK _ _ (fun h => absurd h (by decide)) ?_
        clear hK K
        refine wpE_one (i := 12) (by kernel_rfl) rfl rfl (fun K hK => ?_)
        go_simp
        refine hK _ _ (fun h => absurd h (by decide)) (wpE_done (by kernel_rfl) ?_)
        go_wp2
        go_end0
        exact hfin w4 w5 _ g cap5 k o nn t ao2 an2 ac2 p hxx h4 fo4 hG hown5 (Or.inl (by simp only [setN, Nat.add_assoc, Nat.reduceAdd]))
      · go_simp
        refine hK _ _ (fun h => absurd h (by decide)) ?_
        clear hK K
        refine wpE_one (i := 10) (by kernel_rfl) rfl rfl (fun K hK => ?_)
        go_simp
        refine hK _ _ (fun h => absurd h (by decide)) (wpE_done (by kernel_rfl) ?_)
        go_wp2
        go_end0
        exact hfin w4 w5 _ g cap5 k o nn t ao2 an2 ac2 p hxx h4 fo4 hG hown5 (Or.inr (by simp only [setN, Nat.add_assoc, Nat.reduceAdd]))
  · rw [hq] at hC
    replace hC : ∀ w', Ps b ga l w' → Calls Tryz.prog 127 #[.pointer (some ⟨b, 0, none⟩), .int .i64 ((d : Int) + 1)] w' fun e w'' => e = .panicked (thrownP a er) ∧ Fo b w'.heap.size w' w'' := hC
    clear hq
    go_enter Tryz.func170, Tryz.ntmps170
    go_wp2_with fail
    refine wpE_begin (S := fun w' => w'.cell? ⟨gp, 0, none⟩ = some (.pointer (some ⟨b, 0, none⟩)) ∧ w'.cell? ⟨gd, 0, none⟩ = some (.int .i64 d) ∧ w'.cell? ⟨gx, 6, none⟩ = some (.slice ao acc.length cap)) (N := fun j => decide (j < 8)) (by kernel_rfl) ?_
    have hS0 : w.drew.cell? ⟨gp, 0, none⟩ = some (.pointer (some ⟨b, 0, none⟩)) ∧ w.drew.cell? ⟨gd, 0, none⟩ = some (.int .i64 d) ∧ w.drew.cell? ⟨gx, 6, none⟩ = some (.slice ao acc.length cap) := ⟨c0, d0, c6⟩
    refine wpE_take (i := 0) (v := .pointer (some ⟨gx, 6, none⟩)) rfl (by kernel_rfl) (by kernel_rfl) (by kernel_rfl) (by kernel_rfl) (fun _ _ _ h => h) rfl (fun w' hS => by obtain ⟨s1, s2, s3⟩ := hS; go_simp) hS0 ?_
    try simp only [Act.put, List.setIfInBounds_toArray, List.set_cons_zero, List.set_cons_succ]
    refine wpE_take (i := 2) (v := .pointer (some ⟨b, 0, none⟩)) rfl (by kernel_rfl) (by kernel_rfl) (by kernel_rfl) (by kernel_rfl) (fun _ _ _ h => h) rfl (fun w' hS => by obtain ⟨s1, s2, s3⟩ := hS; go_simp) hS0 ?_
    try simp only [Act.put, List.setIfInBounds_toArray, List.set_cons_zero, List.set_cons_succ]
    refine wpE_take (i := 3) (v := .int .i64 d) rfl (by kernel_rfl) (by kernel_rfl) (by kernel_rfl) (by kernel_rfl) (fun _ _ _ h => h) rfl (fun w' hS => by obtain ⟨s1, s2, s3⟩ := hS; go_simp) hS0 ?_
    try simp only [Act.put, List.setIfInBounds_toArray, List.set_cons_zero, List.set_cons_succ]
    refine wpE_take (i := 1) (v := .slice ao acc.length cap) rfl (by kernel_rfl) (by kernel_rfl) (by kernel_rfl) (by kernel_rfl) (fun _ _ _ h => h) rfl (fun w' hS => by obtain ⟨s1, s2, s3⟩ := hS; go_simp) hS0 ?_
    try simp only [Act.put, List.setIfInBounds_toArray, List.set_cons_zero, List.set_cons_succ]
    refine wpE_take (i := 4) (v := .int .i64 ((d : Int) + 1)) rfl (by kernel_rfl) (by kernel_rfl) (by kernel_rfl) (by kernel_rfl) (fun _ _ _ h => h) rfl (fun w' hS => by obtain ⟨s1, s2, s3⟩ := hS; go_simp) hS0 ?_
    try simp only [Act.put, List.setIfInBounds_toArray, List.set_cons_zero, List.set_cons_succ]
    refine wpE_take (i := 6) (v := .int .i64 acc.length) rfl (by kernel_rfl) (by kernel_rfl) (by kernel_rfl) (by kernel_rfl) (fun _ _ _ h => h) rfl (fun w' hS => by obtain ⟨s1, s2, s3⟩ := hS; go_simp) hS0 ?_
    try simp only [Act.put, List.setIfInBounds_toArray, List.set_cons_zero, List.set_cons_succ]
    refine wpE_two (i := 5) (j := 7) (by kernel_rfl) rfl rfl rfl rfl (fun K hK => ?_) (fun K hK => ?_)
    · go_simp
      refine (hC _ hp1).mono ?_
      rintro e w4 ⟨rfl, fo4⟩
      exact ⟨rfl, rfl, (Fo.drew b n w).trans (fo4.mono hn)⟩
    · go_simp
      refine hK _ _ (fun _ => hSd _) ?_
      clear hK K
      try simp only [Act.put, List.setIfInBounds_toArray, List.set_cons_zero, List.set_cons_succ]
      refine wpE_one (i := 5) (by kernel_rfl) rfl rfl (fun K hK => ?_)
      go_simp
      refine (hC _ (hp2 _)).mono ?_
      rintro e w4 ⟨rfl, fo4⟩
      exact ⟨rfl, rfl, (((Fo.refl b n w).alloc hn _).trans (Fo.drew _ _ _)).trans (fo4.mono (by show n ≤ (w.alloc _).heap.size; simp; omega))⟩
end Go.Proofs.YtifebbdjdllfpaaGreatDoor
