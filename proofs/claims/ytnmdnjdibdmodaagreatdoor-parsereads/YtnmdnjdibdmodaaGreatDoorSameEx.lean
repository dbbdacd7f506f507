/- The document's comparison of two expressions. -/
import Derived.Test.YtnmdnjdibdmodaaGreatDoorRep
import Derived.WalkSpells
import Derived.WalkLawsBesides
import Derived.Deep.QuietTactic
import Derived.BigQuiet
import Derived.Deep.RegionWith
import Derived.Deep.LoopGhost
import Derived.Deep.Cut
import Derived.Deep.CutRange
namespace Go.Proofs.YtnmdnjdibdmodaaGreatDoor
open Go.RowKit
set_option linter.unusedSimpArgs false
set_option linter.unusedVariables false

theorem below_drewN' {B : Nat} {a w : World} (h : Below B a w) (n : Nat) : Below B a (w.drewN n) := h.trans ⟨rfl, rfl, rfl, Nat.le_refl _, fun _ _ => rfl⟩
/-- Two parts that are the same, with their places or without. -/
def SameE (pl : Bool) (e e' : Px.Ex) : Prop := if pl then e = e' else e.er = e'.er
theorem SameE.parts {pl : Bool} {k o n : Nat} {t : Lx.B} {a : List Px.Ex} {p k' o' n' : Nat} {t' : Lx.B} {a' : List Px.Ex} {p' : Nat} (h : SameE pl (.mk k o n t a p) (.mk k' o' n' t' a' p')) :
    k = k' ∧ o = o' ∧ n = n' ∧ t = t' ∧ (pl = true → p = p') ∧ a.length = a'.length ∧ ∀ (i : Nat) (x y : Px.Ex), a[i]? = some x → a'[i]? = some y → SameE pl x y := by
  unfold SameE at h
  cases pl with
  | true =>
    simp only [if_true, Px.Ex.mk.injEq] at h
    obtain ⟨rfl, rfl, rfl, rfl, rfl, rfl⟩ := h
    refine ⟨rfl, rfl, rfl, rfl, fun _ => rfl, rfl, fun i x y hx hy => ?_⟩
    rw [hx] at hy
    simp at hy; subst hy
    simp [SameE]
  | false =>
    simp only [Bool.false_eq_true, if_false, Px.Ex.er, Px.Ex.mk.injEq, Px.ersE_map] at h
    obtain ⟨rfl, rfl, rfl, rfl, h, _⟩ := h
    refine ⟨rfl, rfl, rfl, rfl, fun h => by simp at h, by simpa using congrArg List.length h, fun i x y hx hy => ?_⟩
    have := congrArg (fun l => l[i]?) h
    simp only [List.getElem?_map, hx, hy, Option.map_some, Option.some.injEq] at this
    simpa [SameE] using this

/-- Memory behind the two boxes that the call puts its arguments into. -/
abbrev exBox (k o n : Nat) (t : Lx.B) (sl : Value) (p : Nat) : Obj := .cells #[.int .i64 k, .int .i64 o, .int .i64 n, .string ⟨t.toArray⟩, .int .i64 0, .string ⟨#[]⟩, sl, .int .i64 p] 51
abbrev boxes (w : World) (k o n : Nat) (t : Lx.B) (ao : Option Addr) (len cap p : Nat) (ao' : Option Addr) (cap' p' : Nat) : World := (w.alloc (exBox k o n t (.slice ao len cap) p)).alloc (exBox k o n t (.slice ao' len cap') p')

set_option maxRecDepth 100000 in
set_option maxHeartbeats 4000000 in
theorem sameExpr_any : ∀ (N : Nat) (e e' : Px.Ex) (cs cs' : List Value) (pl : Bool) (B : Nat → Prop) (w : World), exSize e < N → IsEx B w e cs → IsEx B w e' cs' → SameE pl e e' →
    Calls Tryz.prog 42 #[.agg cs.toArray, .agg cs'.toArray, .bool pl] w fun r w' => r = .returned (.bool true) ∧ Below w.heap.size w w' := by
  intro N
  induction N with
  | zero => intro e e' cs cs' pl B w hN; omega
  | succ N ih =>
    intro e e' cs cs' pl B w hN h1 h2 hs
    obtain ⟨k, o, n, t, a, p⟩ := e
    obtain ⟨k', o', n', t', a', p'⟩ := e'
    obtain ⟨rfl, rfl, rfl, rfl, hp, hlen, hel⟩ := SameE.parts hs
    rw [IsEx] at h1 h2
    obtain ⟨sl, row, rfl, hr, ha⟩ := h1
    obtain ⟨sl', row', rfl, hr', ha'⟩ := h2
    rw [← hlen] at hr'
    obtain ⟨ao, cap, rfl, hm⟩ := hr.slice
    obtain ⟨ao', cap', rfl, _⟩ := hr'.slice
    unfold maxLen at hm
    simp only [exSize] at hN
    have hpp : Aside (pl = true → p' = p) := fun h => (hp h).symm
    have hb0 : Below w.heap.size w (boxes w k o n t ao a.length cap p ao' cap' p') := ((Below.refl _ _).alloc (Nat.le_refl _) _).alloc (by simp) _
    have hsz : (boxes w k o n t ao a.length cap p ao' cap' p').heap.size = w.heap.size + 2 := by simp [boxes]
    have hround : ∀ (q : Nat) (wr : World), q < a.length → Below (boxes w k o n t ao a.length cap p ao' cap' p').heap.size (boxes w k o n t ao a.length cap p ao' cap' p') wr →
        ∃ g0 o0 g1 o1 u0 u1 u2 u3 u4 u5 u6 u7 v0 v1 v2 v3 v4 v5 v6 v7, ao = some ⟨g0, o0, none⟩ ∧ ao' = some ⟨g1, o1, none⟩ ∧ g0 < wr.heap.size ∧ g1 < wr.heap.size ∧ w.heap.size + 1 < wr.heap.size ∧
          wr.cell? ⟨w.heap.size, 6, none⟩ = some (.slice ao a.length cap) ∧ wr.cell? ⟨w.heap.size + 1, 6, none⟩ = some (.slice ao' a.length cap') ∧
          (wr.cell? ⟨g0, o0 + q * 8, none⟩ = some u0 ∧ wr.cell? ⟨g0, o0 + q * 8 + 1, none⟩ = some u1 ∧ wr.cell? ⟨g0, o0 + q * 8 + 2, none⟩ = some u2 ∧ wr.cell? ⟨g0, o0 + q * 8 + 3, none⟩ = some u3 ∧ wr.cell? ⟨g0, o0 + q * 8 + 4, none⟩ = some u4 ∧ wr.cell? ⟨g0, o0 + q * 8 + 5, none⟩ = some u5 ∧ wr.cell? ⟨g0, o0 + q * 8 + 6, none⟩ = some u6 ∧ wr.cell? ⟨g0, o0 + q * 8 + 7, none⟩ = some u7) ∧
          (wr.cell? ⟨g1, o1 + q * 8, none⟩ = some v0 ∧ wr.cell? ⟨g1, o1 + q * 8 + 1, none⟩ = some v1 ∧ wr.cell? ⟨g1, o1 + q * 8 + 2, none⟩ = some v2 ∧ wr.cell? ⟨g1, o1 + q * 8 + 3, none⟩ = some v3 ∧ wr.cell? ⟨g1, o1 + q * 8 + 4, none⟩ = some v4 ∧ wr.cell? ⟨g1, o1 + q * 8 + 5, none⟩ = some v5 ∧ wr.cell? ⟨g1, o1 + q * 8 + 6, none⟩ = some v6 ∧ wr.cell? ⟨g1, o1 + q * 8 + 7, none⟩ = some v7) ∧
          ∀ m, Calls Tryz.prog 42 #[.agg #[u0, u1, u2, u3, u4, u5, u6, u7], .agg #[v0, v1, v2, v3, v4, v5, v6, v7], .bool pl] (wr.drewN m) fun r w' => r = .returned (.bool true) ∧ Below (wr.drewN m).heap.size (wr.drewN m) w' := by
      intro q wr hq hB
      obtain ⟨x, hx⟩ : ∃ x, a[q]? = some x := ⟨a[q], List.getElem?_eq_getElem hq⟩
      obtain ⟨y, hy⟩ : ∃ y, a'[q]? = some y := ⟨a'[q]'(by omega), List.getElem?_eq_getElem (by omega)⟩
      obtain ⟨cx, kx, rx⟩ := ha.get hx
      obtain ⟨cy, ky, ry⟩ := ha'.get hy
      obtain ⟨g0, o0, c0, e0, _, _, _, hg0, hc0⟩ := hr.cells (by omega)
      obtain ⟨g1, o1, c1, e1, _, _, _, hg1, hc1⟩ := hr'.cells (by omega)
      simp only [Value.slice.injEq] at e0 e1
      obtain ⟨rfl, _, rfl⟩ := e0
      obtain ⟨rfl, _, rfl⟩ := e1
      have hBw : Below w.heap.size w wr := hb0.trans (hB.mono (by omega))
      have hsn : Since B w wr := ⟨hBw.size, fun k _ h => hBw.block k h⟩
      have hsz2 := hB.size
      have hrec := ih x y cx cy pl B
      have hsx : exSize x < N := by have := exsSize_get hx; omega
      have lx := kx.len
      have ly := ky.len
      match cx, lx, rx, kx with
      | [u0, u1, u2, u3, u4, u5, u6, u7], _, rx, kx =>
        match cy, ly, ry, ky with
        | [v0, v1, v2, v3, v4, v5, v6, v7], _, ry, ky =>
          have f0 : ∀ (j : Nat) (u : Value), j < 8 → ([u0, u1, u2, u3, u4, u5, u6, u7] : List Value)[j]? = some u → wr.cell? ⟨g0, o0 + q * 8 + j, none⟩ = some u := by
            intro j u hj hu
            rw [Nat.add_assoc, hBw.cell (p := ⟨g0, o0 + (q * 8 + j), none⟩) hg0]
            exact hc0 _ _ (by rw [rx j hj]; exact hu)
          have f1 : ∀ (j : Nat) (u : Value), j < 8 → ([v0, v1, v2, v3, v4, v5, v6, v7] : List Value)[j]? = some u → wr.cell? ⟨g1, o1 + q * 8 + j, none⟩ = some u := by
            intro j u hj hu
            rw [Nat.add_assoc, hBw.cell (p := ⟨g1, o1 + (q * 8 + j), none⟩) hg1]
            exact hc1 _ _ (by rw [ry j hj]; exact hu)
          refine ⟨g0, o0, g1, o1, u0, u1, u2, u3, u4, u5, u6, u7, v0, v1, v2, v3, v4, v5, v6, v7, rfl, rfl, by omega, by omega, by omega, ?_, ?_, ⟨f0 0 _ (by omega) rfl, f0 1 _ (by omega) rfl, f0 2 _ (by omega) rfl, f0 3 _ (by omega) rfl, f0 4 _ (by omega) rfl, f0 5 _ (by omega) rfl, f0 6 _ (by omega) rfl, f0 7 _ (by omega) rfl⟩,
            ⟨f1 0 _ (by omega) rfl, f1 1 _ (by omega) rfl, f1 2 _ (by omega) rfl, f1 3 _ (by omega) rfl, f1 4 _ (by omega) rfl, f1 5 _ (by omega) rfl, f1 6 _ (by omega) rfl, f1 7 _ (by omega) rfl⟩, fun m => ?_⟩
          · rw [hB.cell (p := ⟨w.heap.size, 6, none⟩) (by rw [hsz]; show w.heap.size < _; omega)]; simp [boxes]
          · rw [hB.cell (p := ⟨w.heap.size + 1, 6, none⟩) (by rw [hsz]; show w.heap.size + 1 < _; omega)]; simp [boxes]
          · exact hrec (wr.drewN m) hsx (kx.since (hsn.trans (Since.drewN B wr m))) (ky.since (hsn.trans (Since.drewN B wr m))) (hel q x y hx hy)
    clear ih hel hs ha ha' hp hlen
    have hpl2 : Aside (pl = true ∧ ((p : Int) != (p' : Int)) = false ∨ pl = false) := by
      show _ ∨ _
      cases pl
      · exact Or.inr rfl
      · exact Or.inl ⟨rfl, by rw [hpp.out rfl]; simp⟩
    rcases hpl2.out with ⟨rfl, hne⟩ | rfl
    all_goals
      clear hpl2 hpp
      go_enter Tryz.func42, Tryz.ntmps42
      go_wp2_with fail
      go_loopg [70] a.length (fun g i wr => ∃ q : Nat, q ≤ a.length ∧ g = a.length - q ∧ i = .int .i64 q ∧ Below (boxes w k o n t ao a.length cap p ao' cap' p').heap.size (boxes w k o n t ao a.length cap p ao' cap' p') wr)
      case atStart => exact ⟨0, Nat.zero_le _, rfl, rfl, Below.refl _ _⟩
      case round =>
        obtain ⟨q, hq, rfl, rfl, hB⟩ := hrel
        by_cases hlt : q < a.length
        · obtain ⟨g0, o0, g1, o1, u0, u1, u2, u3, u4, u5, u6, u7, v0, v1, v2, v3, v4, v5, v6, v7, rfl, rfl, l0, l1, l2, b0, b1, ⟨x0, x1, x2, x3, x4, x5, x6, x7⟩, ⟨y0, y1, y2, y3, y4, y5, y6, y7⟩, hcall⟩ := hround q wr hlt hB
          clear hround hr hr'
          have hltI : (q : Int) < (a.length : Int) := by omega
          go_upto_region 6 with fail
          go_cut [70, 85] from 70 to 86 (fun i v wc => i = .int .i64 q ∧ v = .bool false ∧ Below (boxes w k o n t (some ⟨g0, o0, none⟩) a.length cap p (some ⟨g1, o1, none⟩) cap' p').heap.size (boxes w k o n t (some ⟨g0, o0, none⟩) a.length cap p (some ⟨g1, o1, none⟩) cap' p') wc)
          case first =>
            go_region_with (go_at_call 42; refine (hcall _).mono ?_; rintro e w5 ⟨rfl, hb5⟩)
            all_goals (go_wp2_with fail; go_meet; exact ⟨rfl, rfl, (below_drewN' hB _).trans (hb5.mono hB.size)⟩)
          case rest =>
            obtain ⟨rfl, rfl, hBc⟩ := hcut
            go_wp2_with fail
            go_roundg (a.length - (q + 1))
            case measure => omega
            case rel => exact ⟨q + 1, by omega, rfl, by go_num, hBc⟩
        · have hltI : ¬ (q : Int) < (a.length : Int) := by omega
          clear hround hr hr'
          go_wp2
          go_ret
          exact ⟨rfl, hb0.trans (hB.mono (by omega))⟩
end Go.Proofs.YtnmdnjdibdmodaaGreatDoor
