import Derived.Test.YtifebbdjdllfpaaGreatDoorRep
import Derived.WalkSpells
import Derived.WalkLawsBesides
import Derived.Deep.QuietTactic
import Derived.BigQuiet
import Derived.Deep.RegionWith
import Derived.Deep.LoopGhost
import Derived.Deep.Cut
import Derived.Deep.CutRange
/- The document's comparison of two expressions. -/
namespace Go.Proofs.YtifebbdjdllfpaaGreatDoor
open Go.RowKit
set_option linter.unusedSimpArgs false
set_option linter.unusedVariables false

theorem below_drewN' {B : Nat} {a w : World} (h : Below B a w) (n : Nat) : Below B a (w.drewN n) := h.trans ⟨rfl, rfl, rfl, Nat.le_refl _, fun _ _ => rfl⟩
/-- Two parts that are the same, with their places or without. -/
def SameE (pl : Bool) (e e' : Px.Ex) : Prop := if pl then e = e' else e.er = e'.er
theorem SameE.parts {pl : Bool} {k o n : Nat} {t : Lx.B} {a : List Px.Ex} {p k' o' n' : Nat} {t' : Lx.B} {a' : List Px.Ex} {p' : Nat} (h : SameE pl (.mk k o n t a p) (.mk k' o' n' t' a' p')) :
    k = k' ∧ o = o' ∧ n = n' ∧ t = t' ∧ (pl = true → p = p') ∧ a.length = a'.length ∧ ∀ (i : Nat) (x y : Px.Ex), a[i]? = some x → a'[i]? = some y → SameE pl x y := by
  unfold SameE at h
  cases pl with
  | true =>
    simp only [if_true, Px.Ex.mk.injEq] at h
    obtain ⟨rfl, rfl, rfl, rfl, rfl, rfl⟩ := h
    refine ⟨rfl, rfl, rfl, rfl, fun _ => rfl, rfl, fun i x y hx hy => ?_⟩
    rw [hx] at hy
    simp at hy; subst hy
    simp [SameE]
  | false =>
    simp only [Bool.false_eq_true, if_false, Px.Ex.er, Px.Ex.mk.injEq, Px.ersE_map] at h
    obtain ⟨rfl, rfl, rfl, rfl, h, _⟩ := h
    refine ⟨rfl, rfl, rfl, rfl, fun h => by simp at h, by simpa using congrArg List.length h, fun i x y hx hy => ?_⟩
    have := congrArg (fun l => l[i]?) h
    simp only [List.getElem?_map, hx, hy, Option.map_some, Option.some.injEq] at this
    simpa [SameE] using this

/-- Memory behind the two boxes that the call puts its arguments into. -/
abbrev exBox (k o n : Nat) (t : Lx.B) (sl : Value) (p : Nat) : Obj := .cells #[.int .i64 k, .int .i64 o, .int .i64 n, .string ⟨t.toArray⟩, .int .i64 0, .string ⟨#[]⟩, sl, .int .i64 p] 24
abbrev boxes (w : World) (k o n : Nat) (t : Lx.B) (ao : Option Addr) (len cap p : Nat) (ao' : Option Addr) (cap' p' : Nat) : World := (w.alloc (exBox k o n t (.slice ao len cap) p)).alloc (exBox k o n t (.slice ao' len cap') p')

set_option maxRecDepth 100000 in
set_option maxHeartbeats 4000000 in
theorem sameExpr_any : ∀ (N : Nat) (e e' : Px.Ex) (cs cs' : List Value) (pl : Bool) (B : Nat → Prop) (w : World), exSize e < N → IsEx B w e cs → IsEx B w e' cs' → SameE pl e e' →
    Calls Tryz.prog 47 #[.agg cs.toArray, .agg cs'.toArray, .bool pl] w fun r w' => r = .returned (.bool true) ∧ Below w.heap.size w w' := by
  intro N
  induction N with
  | zero => intro e e' cs cs' pl B w hN; omega
  | succ N ih =>
    intro e e' cs cs' pl B w hN h1 h2 hs
    obtain ⟨k, o, n, t, a, p⟩ := e
    obtain ⟨k', o', n', t', a', p'⟩ := e'
    obtain ⟨rfl, rfl, rfl, rfl, hp, hlen, hel⟩ := SameE.parts hs
    rw [IsEx] at h1 h2
    obtain ⟨sl, row, rfl, hr, ha⟩ := h1
    obtain ⟨sl', row', rfl, hr', ha'⟩ := h2
    rw [← hlen] at hr'
    obtain ⟨ao, cap, rfl, hm⟩ := hr.slice
    obtain ⟨ao', cap', rfl, _⟩ := hr'.slice
    unfold maxLen at hm
    simp only [exSize] at hN
    have hpp : Aside (pl = true → p' = p) := fun h => (hp h).symm
    have hb0 : Below w.heap.size w (boxes w k o n t ao a.length cap p ao' cap' p') := ((Below.refl _ _).alloc (Nat.le_refl _) _).alloc (by simp) _
    have hsz : (boxes w k o n t ao a.length cap p ao' cap' p').heap.size = w.heap.size + 2 := by simp [boxes]
    have hround : ∀ (q : Nat) (wr : World), q < a.length → Below (boxes w k o n t ao a.length cap p ao' cap' p').heap.size (boxes w k o n t ao a.length cap p ao' cap' p') wr →
        ∃ g0 o0 g1 o1 u0 u1 u2 u3 u4 u5 u6 u7 v0 v1 v2 v3 v4 v5 v6 v7, ao = some ⟨g0, o0, none⟩ ∧ ao' = some ⟨g1, o1, none⟩ ∧ g0 < wr.heap.size ∧ g1 < wr.heap.size ∧ w.heap.size + 1 < wr.heap.size ∧
          wr.cell? ⟨w.heap.size, 6, none⟩ = some (.slice ao a.length cap) ∧ wr.cell? ⟨w.heap.size + 1, 6, none⟩ = some (.slice ao' a.length cap') ∧
          (wr.cell? ⟨g0, o0 + q * 8, none⟩ = some u0 ∧ wr.cell? ⟨g0, o0 + q * 8 + 1, none⟩ = some u1 ∧ wr.cell? ⟨g0, o0 + q * 8 + 2, none⟩ = some u2 ∧ wr.cell? ⟨g0, o0 + q * 8 + 3, none⟩ = some u3 ∧ wr.cell? ⟨g0, o0 + q * 8 + 4, none⟩ = some u4 ∧ wr.cell? ⟨g0, o0 + q * 8 + 5, none⟩ = some u5 ∧ wr.cell? ⟨g0, o0 + q * 8 + 6, none⟩ = some u6 ∧ wr.cell? ⟨g0, o0 + q * 8 + 7, none⟩ = some u7) ∧
          (wr.cell? ⟨g1, o1 + q * 8, none⟩ = some v0 ∧ wr.cell? ⟨g1, o1 + q * 8 + 1, none⟩ = some v1 ∧ wr.cell? ⟨g1, o1 + q * 8 + 2, none⟩ = some v2 ∧ wr.cell? ⟨g1, o1 + q * 8 + 3, none⟩ = some v3 ∧ wr.cell? ⟨g1, o1 + q * 8 + 4, none⟩ = some v4 ∧ wr.cell? ⟨g1, o1 + q * 8 + 5, none⟩ = some v5 ∧ wr.cell? ⟨g1, o1 + q * 8 + 6, none⟩ = some v6 ∧ wr.cell? ⟨g1, o1 + q * 8 + 7, none⟩ = some v7) ∧
          ∀ m, Calls Tryz.prog 47 #[.agg #[u0, u1, u2, u3, u4, u5, u6, u7], .agg #[v0, v1, v2, v3, v4, v5, v6, v7], .bool pl] (wr.drewN m) fun r w' => r = .returned (.bool true) ∧ Below (wr.drewN m).heap.size (wr.drewN m) w' := by
      intro q wr hq hB
      obtain ⟨x, hx⟩ : ∃ x, a[q]? = some x := ⟨a[q], List.getElem?_eq_getElem hq⟩
      obtain ⟨y, hy⟩ : ∃ y, a'[q]? = some y := ⟨a'[q]'(by omega), List.getElem?_eq_getElem (by omega)⟩
      obtain ⟨cx, kx, rx⟩ := ha.get hx
      obtain ⟨cy, ky, ry⟩ := ha'.get hy
      obtain ⟨g0, o0, c0, e0, _, _, _, hg0, hc0⟩ := hr.cells (by omega)
      obtain ⟨g1, o1, c1, e1, _, _, _, hg1, hc1⟩ := hr'.cells (by omega)
      simp only [Value.slice.injEq] at e0 e1
      obtain ⟨rfl, _, rfl⟩ := e0
      obtain ⟨rfl, _, rfl⟩ := e1
      have hBw : Below w.heap.size w wr := hb0.trans (hB.mono (by omega))
      have hsn : Since B w wr := ⟨hBw.size, fun k _ h => hBw.block k h⟩
      have hsz2 := hB.size
      have hrec := ih x y cx cy pl B
      have hsx : exSize x < N := by have := exsSize_get hx; omega
      have lx := kx.len
      have ly := ky.len
      match cx, lx, rx, kx with
      | [u0, u1, u2, u3, u4, u5, u6, u7], _, rx, kx =>
        match cy, ly, ry, ky with
        | [v0, v1, v2, v3, v4, v5, v6, v7], _, ry, ky =>
          have f0 : ∀ (j : Nat) (u : Value), j < 8 → ([u0, u1, u2, u3, u4, u5, u6, u7] : List Value)[j]? = some u → wr.cell? ⟨g0, o0 + q * 8 + j, none⟩ = some u := by
            intro j u hj hu
            rw [Nat.add_assoc, hBw.cell (p := ⟨g0, o0 + (q * 8 + j), none⟩) hg0]
            exact hc0 _ _ (by rw [rx j hj]; exact hu)
          have f1 : ∀ (j : Nat) (u : Value), j < 8 → ([v0, v1, v2, v3, v4, v5, v6, v7] : List Value)[j]? = some u → wr.cell? ⟨g1, o1 + q * 8 + j, none⟩ = some u := by
            intro j u hj hu
            rw [Nat.add_assoc, hBw.cell (p := ⟨g1, o1 + (q * 8 + j), none⟩) hg1]
            exact hc1 _ _ (by rw [ry j hj]; exact hu)
          refine ⟨g0, o0, g1, o1, u0, u1, u2, u3, u4, u5, u6, u7, v0, v1, v2, v3, v4, v5, v6, v7, rfl, rfl, by omega, by omega, by omega, ?_, ?_, ⟨f0 0 _ (by omega) rfl, f0 1 _ (by omega) rfl, f0 2 _ (by omega) rfl, f0 3 _ (by omega) rfl, f0 4 _ (by omega) rfl, f0 5 _ (by omega) rfl, f0 6 _ (by omega) rfl, f0 7 _ (by omega) rfl⟩,
            ⟨f1 0 _ (by omega) rfl, f1 1 _ (by omega) rfl, f1 2 _ (by omega) rfl, f1 3 _ (by omega) rfl, f1 4 _ (by omega) rfl, f1 5 _ (by omega) rfl, f1 6 _ (by omega) rfl, f1 7 _ (by omega) rfl⟩, fun m => ?_⟩
          · rw [hB.cell (p := ⟨w.heap.size, 6, none⟩) (by rw [hsz]; show w.heap.size < _; omega)]; simp [boxes]
          · rw [hB.cell (p := ⟨w.heap.size + 1, 6, none⟩) (by rw [hsz]; show w.heap.size + 1 < _; omega)]; simp [boxes]
          · exact hrec (wr.drewN m) hsx (kx.since (hsn.trans (Since.drewN B wr m))) (ky.since (hsn.trans (Since.drewN B wr m))) (hel q x y hx hy)
    clear ih hel hs ha ha' hp hlen
    have hpl2 : Aside (pl = true ∧ ((p : Int) != (p' : Int)) = false ∨ pl = false) := by
      show _ ∨ _
      cases pl
      · exact Or.inr rfl
      · exact Or.inl ⟨rfl, by rw [hpp.out rfl]; simp⟩
    rcases hpl2.out with ⟨rfl, hne⟩ | rfl
    all_goals
      clear hpl2 hpp
      go_enter Tryz.func47, Tryz.ntmps47
      go_wp2_with fail
      go_loopg [70] a.length (fun g i wr => ∃ q : Nat, q ≤ a.length ∧ g = a.length - q ∧ i = .int .i64 q ∧ Below (boxes w k o n t ao a.length cap p ao' cap' p').heap.size (boxes w k o n t ao a.length cap p ao' cap' p') wr)
      case atStart => exact ⟨0, Nat.zero_le _, rfl, rfl, Below.refl _ _⟩
      case round =>
        obtain ⟨q, hq, rfl, rfl, hB⟩ := hrel
        by_cases hlt : q < a.length
        · obtain ⟨g0, o0, g1, o1, u0, u1, u2, u3, u4, u5, u6, u7, v0, v1, v2, v3, v4, v5, v6, v7, rfl, rfl, l0, l1, l2, b0, b1, ⟨x0, x1, x2, x3, x4, x5, x6, x7⟩, ⟨y0, y1, y2, y3, y4, y5, y6, y7⟩, hcall⟩ := hround q wr hlt hB
          clear hround hr hr'
          have hltI : (q : Int) < (a.length : Int) := by omega
          go_upto_region 6 with fail
          go_cut [70, 85] from 70 to 86 (fun i v wc => i = .int .i64 q ∧ v = .bool false ∧ Below (boxes w k o n t (some ⟨g0, o0, none⟩) a.length cap p (some ⟨g1, o1, none⟩) cap' p').heap.size (boxes w k o n t (some ⟨g0, o0, none⟩) a.length cap p (some ⟨g1, o1, none⟩) cap' p') wc)
          case first =>
            go_region_with (go_at_call 47; refine (hcall _).mono ?_; rintro e w5 ⟨rfl, hb5⟩)
            all_goals (go_wp2_with fail; go_meet; exact ⟨rfl, rfl, (below_drewN' hB _).trans (hb5.mono hB.size)⟩)
          case rest =>
            obtain ⟨rfl, rfl, hBc⟩ := hcut
            go_wp2_with fail
            go_roundg (a.length - (q + 1))
            case measure => omega
            case rel => exact ⟨q + 1, by omega, rfl, by go_num, hBc⟩
        · have hltI : ¬ (q : Int) < (a.length : Int) := by omega
          clear hround hr hr'
          go_wp2
          go_ret
          exact ⟨rfl, hb0.trans (hB.mono (by omega))⟩
end Go.Proofs.YtifebbdjdllfpaaGreatDoor
/- The document's comparison of two lists of slots. -/
namespace Go.Proofs.YtifebbdjdllfpaaGreatDoor
open Go.RowKit
set_option linter.unusedSimpArgs false
set_option linter.unusedVariables false

def SameL (pl : Bool) (l l' : List Px.Sl) : Prop := if pl then l = l' else l.map Px.Sl.er = l'.map Px.Sl.er
theorem SameL.parts {pl : Bool} {l l' : List Px.Sl} (h : SameL pl l l') : l.length = l'.length ∧ ∀ (i : Nat) (x y : Px.Sl), l[i]? = some x → l'[i]? = some y → x.name = y.name ∧ x.type = y.type ∧ (pl = true → x.place = y.place) := by
  unfold SameL at h
  cases pl with
  | true =>
    simp only [if_true] at h
    subst h
    refine ⟨rfl, fun i x y hx hy => ?_⟩
    rw [hx] at hy; simp at hy; subst hy
    exact ⟨rfl, rfl, fun _ => rfl⟩
  | false =>
    simp only [Bool.false_eq_true, if_false] at h
    refine ⟨by simpa using congrArg List.length h, fun i x y hx hy => ?_⟩
    have := congrArg (fun l => l[i]?) h
    simp only [List.getElem?_map, hx, hy, Option.map_some, Option.some.injEq, Px.Sl.er, Px.Sl.mk.injEq] at this
    exact ⟨this.1, this.2.1, fun h => by simp at h⟩
theorem slRow_get : ∀ {l : List Px.Sl} {i : Nat} {s : Px.Sl}, l[i]? = some s → (l.flatMap slCells)[i * 3]? = some (.string ⟨s.name.toArray⟩) ∧ (l.flatMap slCells)[i * 3 + 1]? = some (.string ⟨s.type.toArray⟩) ∧ (l.flatMap slCells)[i * 3 + 2]? = some (.int .i64 s.place)
  | [], i, s, h => by simp at h
  | a :: r, 0, s, h => by simp at h; subst h; simp [slCells]
  | a :: r, i + 1, s, h => by
    have ih := slRow_get (l := r) (i := i) (by simpa using h)
    have e : (a :: r).flatMap slCells = slCells a ++ r.flatMap slCells := by simp
    have hl : (slCells a).length = 3 := rfl
    rw [e]
    refine ⟨?_, ?_, ?_⟩
    · rw [List.getElem?_append_right (by omega), hl, show (i + 1) * 3 - 3 = i * 3 by omega]; exact ih.1
    · rw [List.getElem?_append_right (by omega), hl, show (i + 1) * 3 + 1 - 3 = i * 3 + 1 by omega]; exact ih.2.1
    · rw [List.getElem?_append_right (by omega), hl, show (i + 1) * 3 + 2 - 3 = i * 3 + 2 by omega]; exact ih.2.2

set_option maxRecDepth 100000 in
set_option maxHeartbeats 4000000 in
theorem sameSlots_any (l l' : List Px.Sl) (v v' : Value) (pl : Bool) (B : Nat → Prop) (w : World) (h1 : IsSls B w l v) (h2 : IsSls B w l' v') (hs : SameL pl l l') :
    Calls Tryz.prog 29 #[v, v', .bool pl] w fun r w' => r = .returned (.bool true) ∧ ∃ m, w' = w.drewN m := by
  obtain ⟨hlen, hel⟩ := hs.parts
  have hr : SlRow B w 3 v l.length (l.flatMap slCells) := h1
  have hr' : SlRow B w 3 v' l'.length (l'.flatMap slCells) := h2
  rw [← hlen] at hr'
  obtain ⟨ao, cap, rfl, hm⟩ := hr.slice
  obtain ⟨ao', cap', rfl, _⟩ := hr'.slice
  unfold maxLen at hm
  have hround : ∀ (q : Nat), q < l.length → ∃ (g0 o0 g1 o1 : Nat) (x y : Px.Sl), ao = some ⟨g0, o0, none⟩ ∧ ao' = some ⟨g1, o1, none⟩ ∧
      (w.cell? ⟨g0, o0 + q * 3, none⟩ = some (.string ⟨x.name.toArray⟩) ∧ w.cell? ⟨g0, o0 + q * 3 + 1, none⟩ = some (.string ⟨x.type.toArray⟩) ∧ w.cell? ⟨g0, o0 + q * 3 + 2, none⟩ = some (.int .i64 x.place)) ∧
      (w.cell? ⟨g1, o1 + q * 3, none⟩ = some (.string ⟨x.name.toArray⟩) ∧ w.cell? ⟨g1, o1 + q * 3 + 1, none⟩ = some (.string ⟨x.type.toArray⟩) ∧ w.cell? ⟨g1, o1 + q * 3 + 2, none⟩ = some (.int .i64 y.place)) ∧ (pl = true → ((x.place : Int) != (y.place : Int)) = false) := by
    intro q hq
    obtain ⟨x, hx⟩ : ∃ x, l[q]? = some x := ⟨l[q], List.getElem?_eq_getElem hq⟩
    obtain ⟨y, hy⟩ : ∃ y, l'[q]? = some y := ⟨l'[q]'(by omega), List.getElem?_eq_getElem (by omega)⟩
    obtain ⟨e1, e2, e3⟩ := hel q x y hx hy
    obtain ⟨g0, o0, c0, k0, _, _, _, _, hc0⟩ := hr.cells (by omega)
    obtain ⟨g1, o1, c1, k1, _, _, _, _, hc1⟩ := hr'.cells (by omega)
    simp only [Value.slice.injEq] at k0 k1
    obtain ⟨a1, a2, a3⟩ := slRow_get hx
    obtain ⟨b1, b2, b3⟩ := slRow_get hy
    rw [← e1] at b1
    rw [← e2] at b2
    refine ⟨g0, o0, g1, o1, x, y, k0.1, k1.1, ⟨hc0 _ _ a1, ?_, ?_⟩, ⟨hc1 _ _ b1, ?_, ?_⟩, fun h => by rw [e3 h]; simp⟩
    · rw [Nat.add_assoc]; exact hc0 _ _ a2
    · rw [Nat.add_assoc]; exact hc0 _ _ a3
    · rw [Nat.add_assoc]; exact hc1 _ _ b2
    · rw [Nat.add_assoc]; exact hc1 _ _ b3
  clear hel hlen hs h1 h2 hr hr'
  rcases pl with _ | _
  all_goals
    go_enter Tryz.func29, Tryz.ntmps29
    go_wp2_with fail
    go_loopg [15] l.length (fun g i wr => ∃ q : Nat, q ≤ l.length ∧ g = l.length - q ∧ i = .int .i64 q ∧ ∃ m, wr = w.drewN m)
    case atStart => exact ⟨0, Nat.zero_le _, rfl, rfl, 0, rfl⟩
    case round =>
      obtain ⟨q, hq, rfl, rfl, mm, rfl⟩ := hrel
      by_cases hlt : q < l.length
      · obtain ⟨g0, o0, g1, o1, x, y, rfl, rfl, ⟨x0, x1, x2⟩, ⟨y0, y1, y2⟩, hne⟩ := hround q hlt
        clear hround
        have hltI : (q : Int) < (l.length : Int) := by omega
        try replace hne := hne rfl
        go_wp2_with fail
        go_quiet (fail)
        go_wp2
        go_roundg (l.length - (q + 1))
        case measure => omega
        case rel => exact ⟨q + 1, by omega, rfl, by go_num, _, rfl⟩
      · have hltI : ¬ (q : Int) < (l.length : Int) := by omega
        clear hround
        go_wp2
        go_ret
        exact ⟨rfl, _, rfl⟩
end Go.Proofs.YtifebbdjdllfpaaGreatDoor
/- The document's comparison of two lists of statements. -/
namespace Go.Proofs.YtifebbdjdllfpaaGreatDoor
open Go.RowKit
set_option linter.unusedSimpArgs false
set_option linter.unusedVariables false

def SameSS (pl : Bool) (l l' : List Px.St) : Prop := if pl then l = l' else l.map Px.St.er = l'.map Px.St.er
def SameEE (pl : Bool) (l l' : List Px.Ex) : Prop := l.length = l'.length ∧ ∀ (i : Nat) (x y : Px.Ex), l[i]? = some x → l'[i]? = some y → SameE pl x y
theorem SameSS.parts {pl : Bool} {l l' : List Px.St} (h : SameSS pl l l') : l.length = l'.length ∧ ∀ (i : Nat) (k : Nat) (n : Lx.B) (es : List Px.Ex) (b c : List Px.St) (p k' : Nat) (n' : Lx.B) (es' : List Px.Ex) (b' c' : List Px.St) (p' : Nat),
    l[i]? = some (.mk k n es b c p) → l'[i]? = some (.mk k' n' es' b' c' p') → k = k' ∧ n = n' ∧ SameEE pl es es' ∧ SameSS pl b b' ∧ SameSS pl c c' ∧ (pl = true → p = p') := by
  unfold SameSS at h
  cases pl with
  | true =>
    simp only [if_true] at h
    subst h
    refine ⟨rfl, fun i k n es b c p k' n' es' b' c' p' hx hy => ?_⟩
    rw [hx] at hy
    simp only [Option.some.injEq, Px.St.mk.injEq] at hy
    obtain ⟨rfl, rfl, rfl, rfl, rfl, rfl⟩ := hy
    refine ⟨rfl, rfl, ⟨rfl, fun i x y hx hy => ?_⟩, by simp [SameSS], by simp [SameSS], fun _ => rfl⟩
    rw [hx] at hy; simp at hy; subst hy; simp [SameE]
  | false =>
    simp only [Bool.false_eq_true, if_false] at h
    refine ⟨by simpa using congrArg List.length h, fun i k n es b c p k' n' es' b' c' p' hx hy => ?_⟩
    have := congrArg (fun l => l[i]?) h
    simp only [List.getElem?_map, hx, hy, Option.map_some, Option.some.injEq, Px.St.er, Px.St.mk.injEq, Px.ersE_map, Px.ersS_map] at this
    obtain ⟨h1, h2, h3, h4, h5, _⟩ := this
    refine ⟨h1, h2, ⟨by simpa using congrArg List.length h3, fun i x y hx hy => ?_⟩, by simpa [SameSS] using h4, by simpa [SameSS] using h5, fun h => by simp at h⟩
    have := congrArg (fun l => l[i]?) h3
    simp only [List.getElem?_map, hx, hy, Option.map_some, Option.some.injEq] at this
    simpa [SameE] using this

/-- Block b8 holds a statement's nine cells. -/
def StBox (w : World) (b : Nat) (cs : List Value) : Prop := b < w.heap.size ∧ ∀ (j : Nat) (u : Value), cs[j]? = some u → w.cell? ⟨b, j, none⟩ = some u
theorem StBox.below {w w' : World} {b : Nat} {cs : List Value} {B : Nat} (h : StBox w b cs) (m : Below B w w') (hb : b < B) : StBox w' b cs := ⟨by have := m.size; have := h.1; omega, fun j u hj => by rw [m.cell (p := ⟨b, j, none⟩) hb]; exact h.2 j u hj⟩
theorem StBox.of_heap {w : World} {b : Nat} {cs : Array Value} {T : TypeId} {fr : Nat × Nat} (h : w.heap[b]? = some (.cells cs T fr)) : StBox w b cs.toList :=
  ⟨(Array.getElem?_eq_some_iff.1 h).1, fun j u hj => by rw [Lib.cell_of_heap h]; simpa using hj⟩
theorem box_old (w : World) (cs : Array Value) (T : TypeId) (o : Obj) : ((w.alloc (.cells cs T)).alloc o).drew.heap[w.heap.size]? = some (.cells cs T) := by
  show ((w.heap.push _).push _)[w.heap.size]? = _
  rw [Array.getElem?_push, if_neg (by simp), Array.getElem?_push, if_pos rfl]
theorem box_new (w : World) (cs : Array Value) (T : TypeId) (o : Obj) : ((w.alloc o).alloc (.cells cs T)).drew.heap[w.heap.size + 1]? = some (.cells cs T) := by
  show ((w.heap.push _).push _)[w.heap.size + 1]? = _
  rw [Array.getElem?_push, if_pos (by simp)]
theorem below_two {w wr : World} (h : Below w.heap.size w wr) (o1 o2 : Obj) : Below w.heap.size w ((wr.alloc o1).alloc o2).drew :=
  ((h.alloc h.size _).alloc (by have := h.size; simp; omega) _).trans ⟨rfl, rfl, rfl, Nat.le_refl _, fun _ _ => rfl⟩
/-- Two expressions of two lists, at one index: their cells, and what the comparison answers. -/
theorem ex_pair {B : Nat → Prop} {w : World} {es es' : List Px.Ex} {ao ao' : Option Addr} {cap cap' : Nat} {row row' : List Value} {pl : Bool} (hr : SlRow B w 8 (.slice ao es.length cap) es.length row) (ha : AllEx B w es row) (hr' : SlRow B w 8 (.slice ao' es.length cap') es.length row') (ha' : AllEx B w es' row') (hs : SameEE pl es es') (q : Nat) (hq : q < es.length) (wr : World) (hW : Below w.heap.size w wr) :
    ∃ g0 o0 g1 o1 u0 u1 u2 u3 u4 u5 u6 u7 v0 v1 v2 v3 v4 v5 v6 v7, ao = some ⟨g0, o0, none⟩ ∧ ao' = some ⟨g1, o1, none⟩ ∧ g0 < wr.heap.size ∧ g1 < wr.heap.size ∧
      (wr.cell? ⟨g0, o0 + q * 8, none⟩ = some u0 ∧ wr.cell? ⟨g0, o0 + q * 8 + 1, none⟩ = some u1 ∧ wr.cell? ⟨g0, o0 + q * 8 + 2, none⟩ = some u2 ∧ wr.cell? ⟨g0, o0 + q * 8 + 3, none⟩ = some u3 ∧ wr.cell? ⟨g0, o0 + q * 8 + 4, none⟩ = some u4 ∧ wr.cell? ⟨g0, o0 + q * 8 + 5, none⟩ = some u5 ∧ wr.cell? ⟨g0, o0 + q * 8 + 6, none⟩ = some u6 ∧ wr.cell? ⟨g0, o0 + q * 8 + 7, none⟩ = some u7) ∧
      (wr.cell? ⟨g1, o1 + q * 8, none⟩ = some v0 ∧ wr.cell? ⟨g1, o1 + q * 8 + 1, none⟩ = some v1 ∧ wr.cell? ⟨g1, o1 + q * 8 + 2, none⟩ = some v2 ∧ wr.cell? ⟨g1, o1 + q * 8 + 3, none⟩ = some v3 ∧ wr.cell? ⟨g1, o1 + q * 8 + 4, none⟩ = some v4 ∧ wr.cell? ⟨g1, o1 + q * 8 + 5, none⟩ = some v5 ∧ wr.cell? ⟨g1, o1 + q * 8 + 6, none⟩ = some v6 ∧ wr.cell? ⟨g1, o1 + q * 8 + 7, none⟩ = some v7) ∧
      ∀ m, Calls Tryz.prog 47 #[.agg #[u0, u1, u2, u3, u4, u5, u6, u7], .agg #[v0, v1, v2, v3, v4, v5, v6, v7], .bool pl] (wr.drewN m) fun r w' => r = .returned (.bool true) ∧ Below (wr.drewN m).heap.size (wr.drewN m) w' := by
  obtain ⟨hlen, hel⟩ := hs
  obtain ⟨x, hx⟩ : ∃ x, es[q]? = some x := ⟨es[q], List.getElem?_eq_getElem hq⟩
  obtain ⟨y, hy⟩ : ∃ y, es'[q]? = some y := ⟨es'[q]'(by omega), List.getElem?_eq_getElem (by omega)⟩
  obtain ⟨cx, kx, rx⟩ := ha.get hx
  obtain ⟨cy, ky, ry⟩ := ha'.get hy
  obtain ⟨g0, o0, c0, e0, _, _, _, hg0, hc0⟩ := hr.cells (by omega)
  obtain ⟨g1, o1, c1, e1, _, _, _, hg1, hc1⟩ := hr'.cells (by omega)
  simp only [Value.slice.injEq] at e0 e1
  obtain ⟨rfl, _, rfl⟩ := e0
  obtain ⟨rfl, _, rfl⟩ := e1
  have hsn : Since B w wr := ⟨hW.size, fun k _ h => hW.block k h⟩
  have hsz := hW.size
  have lx := kx.len
  have ly := ky.len
  match cx, lx, rx, kx with
  | [u0, u1, u2, u3, u4, u5, u6, u7], _, rx, kx =>
    match cy, ly, ry, ky with
    | [v0, v1, v2, v3, v4, v5, v6, v7], _, ry, ky =>
      have f0 : ∀ (j : Nat) (u : Value), j < 8 → ([u0, u1, u2, u3, u4, u5, u6, u7] : List Value)[j]? = some u → wr.cell? ⟨g0, o0 + q * 8 + j, none⟩ = some u := by
        intro j u hj hu
        rw [Nat.add_assoc, hW.cell (p := ⟨g0, o0 + (q * 8 + j), none⟩) hg0]
        exact hc0 _ _ (by rw [rx j hj]; exact hu)
      have f1 : ∀ (j : Nat) (u : Value), j < 8 → ([v0, v1, v2, v3, v4, v5, v6, v7] : List Value)[j]? = some u → wr.cell? ⟨g1, o1 + q * 8 + j, none⟩ = some u := by
        intro j u hj hu
        rw [Nat.add_assoc, hW.cell (p := ⟨g1, o1 + (q * 8 + j), none⟩) hg1]
        exact hc1 _ _ (by rw [ry j hj]; exact hu)
      exact ⟨g0, o0, g1, o1, u0, u1, u2, u3, u4, u5, u6, u7, v0, v1, v2, v3, v4, v5, v6, v7, rfl, rfl, by omega, by omega, ⟨f0 0 _ (by omega) rfl, f0 1 _ (by omega) rfl, f0 2 _ (by omega) rfl, f0 3 _ (by omega) rfl, f0 4 _ (by omega) rfl, f0 5 _ (by omega) rfl, f0 6 _ (by omega) rfl, f0 7 _ (by omega) rfl⟩,
        ⟨f1 0 _ (by omega) rfl, f1 1 _ (by omega) rfl, f1 2 _ (by omega) rfl, f1 3 _ (by omega) rfl, f1 4 _ (by omega) rfl, f1 5 _ (by omega) rfl, f1 6 _ (by omega) rfl, f1 7 _ (by omega) rfl⟩,
        fun m => sameExpr_any _ x y _ _ pl B (wr.drewN m) (Nat.lt_succ_self _) (kx.since (hsn.trans (Since.drewN B wr m))) (ky.since (hsn.trans (Since.drewN B wr m))) (hel q x y hx hy)⟩

set_option maxRecDepth 100000 in
set_option maxHeartbeats 8000000 in
theorem sameStmts_any : ∀ (N : Nat) (l l' : List Px.St) (v v' : Value) (pl : Bool) (B : Nat → Prop) (w : World), stsSize l < N → IsSts B w l v → IsSts B w l' v' → SameSS pl l l' →
    Calls Tryz.prog 30 #[v, v', .bool pl] w fun r w' => r = .returned (.bool true) ∧ Below w.heap.size w w' := by
  intro N
  induction N with
  | zero => intro l l' v v' pl B w hN; omega
  | succ N ih =>
    intro l l' v v' pl B w hN h1 h2 hs
    obtain ⟨hlen, hel⟩ := SameSS.parts hs
    obtain ⟨row, hr, ha⟩ := h1
    obtain ⟨row', hr', ha'⟩ := h2
    rw [← hlen] at hr'
    obtain ⟨ao, cap, rfl, hm⟩ := hr.slice
    obtain ⟨ao', cap', rfl, _⟩ := hr'.slice
    unfold maxLen at hm
    have hround : ∀ (q : Nat) (wr : World), q < l.length → Below w.heap.size w wr →
        ∃ (g0 o0 g1 o1 k p p' : Nat) (n : Lx.B) (e0 e1 : Option Addr) (ln ec ec' : Nat) (bo0 bo1 co0 co1 : Option Addr) (bn0 bc0 bn1 bc1 cn0 cc0 cn1 cc1 : Nat), ao = some ⟨g0, o0, none⟩ ∧ ao' = some ⟨g1, o1, none⟩ ∧ g0 < wr.heap.size ∧ g1 < wr.heap.size ∧ ln ≤ 2 ^ 63 - 1 ∧
          (wr.cell? ⟨g0, o0 + q * 9, none⟩ = some (.int .i64 k) ∧ wr.cell? ⟨g0, o0 + q * 9 + 1, none⟩ = some (.string ⟨n.toArray⟩) ∧ wr.cell? ⟨g0, o0 + q * 9 + 2, none⟩ = some (.int .i64 0) ∧ wr.cell? ⟨g0, o0 + q * 9 + 3, none⟩ = some (.bool false) ∧ wr.cell? ⟨g0, o0 + q * 9 + 4, none⟩ = some (.int .i64 0) ∧ wr.cell? ⟨g0, o0 + q * 9 + 5, none⟩ = some (.slice e0 ln ec) ∧ wr.cell? ⟨g0, o0 + q * 9 + 6, none⟩ = some (.slice bo0 bn0 bc0) ∧ wr.cell? ⟨g0, o0 + q * 9 + 7, none⟩ = some (.slice co0 cn0 cc0) ∧ wr.cell? ⟨g0, o0 + q * 9 + 8, none⟩ = some (.int .i64 p)) ∧
          (wr.cell? ⟨g1, o1 + q * 9, none⟩ = some (.int .i64 k) ∧ wr.cell? ⟨g1, o1 + q * 9 + 1, none⟩ = some (.string ⟨n.toArray⟩) ∧ wr.cell? ⟨g1, o1 + q * 9 + 2, none⟩ = some (.int .i64 0) ∧ wr.cell? ⟨g1, o1 + q * 9 + 3, none⟩ = some (.bool false) ∧ wr.cell? ⟨g1, o1 + q * 9 + 4, none⟩ = some (.int .i64 0) ∧ wr.cell? ⟨g1, o1 + q * 9 + 5, none⟩ = some (.slice e1 ln ec') ∧ wr.cell? ⟨g1, o1 + q * 9 + 6, none⟩ = some (.slice bo1 bn1 bc1) ∧ wr.cell? ⟨g1, o1 + q * 9 + 7, none⟩ = some (.slice co1 cn1 cc1) ∧ wr.cell? ⟨g1, o1 + q * 9 + 8, none⟩ = some (.int .i64 p')) ∧
          (pl = true → ((p : Int) != (p' : Int)) = false) ∧
          (∀ (j : Nat) (w1 : World), j < ln → Below w.heap.size w w1 → ∃ g2 o2 g3 o3 u0 u1 u2 u3 u4 u5 u6 u7 v0 v1 v2 v3 v4 v5 v6 v7, e0 = some ⟨g2, o2, none⟩ ∧ e1 = some ⟨g3, o3, none⟩ ∧ g2 < w1.heap.size ∧ g3 < w1.heap.size ∧
            (w1.cell? ⟨g2, o2 + j * 8, none⟩ = some u0 ∧ w1.cell? ⟨g2, o2 + j * 8 + 1, none⟩ = some u1 ∧ w1.cell? ⟨g2, o2 + j * 8 + 2, none⟩ = some u2 ∧ w1.cell? ⟨g2, o2 + j * 8 + 3, none⟩ = some u3 ∧ w1.cell? ⟨g2, o2 + j * 8 + 4, none⟩ = some u4 ∧ w1.cell? ⟨g2, o2 + j * 8 + 5, none⟩ = some u5 ∧ w1.cell? ⟨g2, o2 + j * 8 + 6, none⟩ = some u6 ∧ w1.cell? ⟨g2, o2 + j * 8 + 7, none⟩ = some u7) ∧
            (w1.cell? ⟨g3, o3 + j * 8, none⟩ = some v0 ∧ w1.cell? ⟨g3, o3 + j * 8 + 1, none⟩ = some v1 ∧ w1.cell? ⟨g3, o3 + j * 8 + 2, none⟩ = some v2 ∧ w1.cell? ⟨g3, o3 + j * 8 + 3, none⟩ = some v3 ∧ w1.cell? ⟨g3, o3 + j * 8 + 4, none⟩ = some v4 ∧ w1.cell? ⟨g3, o3 + j * 8 + 5, none⟩ = some v5 ∧ w1.cell? ⟨g3, o3 + j * 8 + 6, none⟩ = some v6 ∧ w1.cell? ⟨g3, o3 + j * 8 + 7, none⟩ = some v7) ∧
            ∀ m, Calls Tryz.prog 47 #[.agg #[u0, u1, u2, u3, u4, u5, u6, u7], .agg #[v0, v1, v2, v3, v4, v5, v6, v7], .bool pl] (w1.drewN m) fun r w' => r = .returned (.bool true) ∧ Below (w1.drewN m).heap.size (w1.drewN m) w') ∧
          (∀ w1, Below w.heap.size w w1 → Calls Tryz.prog 30 #[.slice bo0 bn0 bc0, .slice bo1 bn1 bc1, .bool pl] w1 fun r w' => r = .returned (.bool true) ∧ Below w1.heap.size w1 w') ∧
          (∀ w1, Below w.heap.size w w1 → Calls Tryz.prog 30 #[.slice co0 cn0 cc0, .slice co1 cn1 cc1, .bool pl] w1 fun r w' => r = .returned (.bool true) ∧ Below w1.heap.size w1 w') := by
      intro q wr hq hW
      obtain ⟨x, hx⟩ : ∃ x, l[q]? = some x := ⟨l[q], List.getElem?_eq_getElem hq⟩
      obtain ⟨y, hy⟩ : ∃ y, l'[q]? = some y := ⟨l'[q]'(by omega), List.getElem?_eq_getElem (by omega)⟩
      obtain ⟨cx, kx, rx⟩ := ha.get hx
      obtain ⟨cy, ky, ry⟩ := ha'.get hy
      have hsx := stsSize_get hx
      obtain ⟨k, n, es, b, c, p⟩ := x
      obtain ⟨k', n', es', b', c', p'⟩ := y
      obtain ⟨rfl, rfl, hes, hbb, hcc, hpp⟩ := hel q k n es b c p k' n' es' b' c' p' hx hy
      simp only [stSize] at hsx
      rw [IsSt] at kx ky
      obtain ⟨s1, s2, s3, r1, r2, r3, rfl, a1, a2, a3, a4, a5, a6⟩ := kx
      obtain ⟨t1, t2, t3, q1, q2, q3, rfl, d1, d2, d3, d4, d5, d6⟩ := ky
      rw [← hes.1] at d1
      obtain ⟨e0, ec, rfl, hln⟩ := a1.slice
      obtain ⟨e1, ec', rfl, _⟩ := d1.slice
      unfold maxLen at hln
      obtain ⟨bo0, bc0, rfl, _⟩ := a3.slice
      obtain ⟨bo1, bc1, rfl, _⟩ := d3.slice
      obtain ⟨co0, cc0, rfl, _⟩ := a5.slice
      obtain ⟨co1, cc1, rfl, _⟩ := d5.slice
      obtain ⟨g0, o0, z0, y0, _, _, _, hg0, hc0⟩ := hr.cells (by omega)
      obtain ⟨g1, o1, z1, y1, _, _, _, hg1, hc1⟩ := hr'.cells (by omega)
      simp only [Value.slice.injEq] at y0 y1
      obtain ⟨rfl, _, rfl⟩ := y0
      obtain ⟨rfl, _, rfl⟩ := y1
      have hsz := hW.size
      have f0 : ∀ (j : Nat) (u : Value), j < 9 → ([.int .i64 k, .string ⟨n.toArray⟩, .int .i64 0, .bool false, .int .i64 0, .slice e0 es.length ec, .slice bo0 b.length bc0, .slice co0 c.length cc0, .int .i64 p] : List Value)[j]? = some u → wr.cell? ⟨g0, o0 + q * 9 + j, none⟩ = some u := by
        intro j u hj hu
        rw [Nat.add_assoc, hW.cell (p := ⟨g0, o0 + (q * 9 + j), none⟩) hg0]
        exact hc0 _ _ (by rw [rx j hj]; exact hu)
      have f1 : ∀ (j : Nat) (u : Value), j < 9 → ([.int .i64 k, .string ⟨n.toArray⟩, .int .i64 0, .bool false, .int .i64 0, .slice e1 es.length ec', .slice bo1 b'.length bc1, .slice co1 c'.length cc1, .int .i64 p'] : List Value)[j]? = some u → wr.cell? ⟨g1, o1 + q * 9 + j, none⟩ = some u := by
        intro j u hj hu
        rw [Nat.add_assoc, hW.cell (p := ⟨g1, o1 + (q * 9 + j), none⟩) hg1]
        exact hc1 _ _ (by rw [ry j hj]; exact hu)
      refine ⟨g0, o0, g1, o1, k, p, p', n, e0, e1, es.length, ec, ec', bo0, bo1, co0, co1, b.length, bc0, b'.length, bc1, c.length, cc0, c'.length, cc1, rfl, rfl, by omega, by omega, hln, ⟨f0 0 _ (by omega) rfl, f0 1 _ (by omega) rfl, f0 2 _ (by omega) rfl, f0 3 _ (by omega) rfl, f0 4 _ (by omega) rfl, f0 5 _ (by omega) rfl, f0 6 _ (by omega) rfl, f0 7 _ (by omega) rfl, f0 8 _ (by omega) rfl⟩,
        ⟨f1 0 _ (by omega) rfl, f1 1 _ (by omega) rfl, f1 2 _ (by omega) rfl, f1 3 _ (by omega) rfl, f1 4 _ (by omega) rfl, f1 5 _ (by omega) rfl, f1 6 _ (by omega) rfl, f1 7 _ (by omega) rfl, f1 8 _ (by omega) rfl⟩, fun h => by rw [hpp h]; simp, ?_, ?_, ?_⟩
      · intro j w1 hj hW1
        exact ex_pair a1 a2 d1 d2 hes j hj w1 hW1
      · intro w1 hW1
        have hsn : Since B w w1 := ⟨hW1.size, fun k _ h => hW1.block k h⟩
        exact ih b b' _ _ pl B w1 (by omega) ⟨r2, a3.since hsn, a4.since hsn⟩ ⟨q2, d3.since hsn, d4.since hsn⟩ hbb
      · intro w1 hW1
        have hsn : Since B w w1 := ⟨hW1.size, fun k _ h => hW1.block k h⟩
        exact ih c c' _ _ pl B w1 (by omega) ⟨r3, a5.since hsn, a6.since hsn⟩ ⟨q3, d5.since hsn, d6.since hsn⟩ hcc
    clear ih hel hs ha ha' hlen hr hr'
    rcases pl with _ | _
    all_goals
      go_enter Tryz.func30, Tryz.ntmps30
      go_wp2_with fail
      go_loopg [18] l.length (fun g i wr => ∃ q : Nat, q ≤ l.length ∧ g = l.length - q ∧ i = .int .i64 q ∧ Below w.heap.size w wr)
      case atStart => exact ⟨0, Nat.zero_le _, rfl, rfl, Below.refl _ _⟩
      case round =>
        obtain ⟨q, hq, rfl, rfl, hW⟩ := hrel
        by_cases hlt : q < l.length
        · obtain ⟨g0, o0, g1, o1, k, p, p', n, e0, e1, ln, ec, ec', bo0, bo1, co0, co1, bn0, bc0, bn1, bc1, cn0, cc0, cn1, cc1, rfl, rfl, l0, l1, hln, ⟨x0, x1, x2, x3, x4, x5, x6, x7, x8⟩, ⟨y0, y1, y2, y3, y4, y5, y6, y7, y8⟩, hne, hpair, hcb, hcc⟩ := hround q wr hlt hW
          clear hround
          have hltI : (q : Int) < (l.length : Int) := by omega
          go_upto_region 6 with fail
          go_cut [8, 9, 18] from 18 to 117 (fun s8 s9 i wc => i = .int .i64 q ∧ ∃ b8 b9, s8 = .pointer (some ⟨b8, 0, none⟩) ∧ s9 = .pointer (some ⟨b9, 0, none⟩) ∧ StBox wc b8 [.int .i64 k, .string ⟨n.toArray⟩, .int .i64 0, .bool false, .int .i64 0, .slice e0 ln ec, .slice bo0 bn0 bc0, .slice co0 cn0 cc0, .int .i64 p] ∧ StBox wc b9 [.int .i64 k, .string ⟨n.toArray⟩, .int .i64 0, .bool false, .int .i64 0, .slice e1 ln ec', .slice bo1 bn1 bc1, .slice co1 cn1 cc1, .int .i64 p'] ∧ Below w.heap.size w wc)
          case first =>
            go_region
            all_goals (go_wp2_with fail; go_meet)
            all_goals first
              | exact ⟨rfl, _, _, rfl, rfl, StBox.of_heap (box_old _ _ _ _), StBox.of_heap (box_new _ _ _ _), below_two hW _ _⟩
              | exact ⟨rfl, _, _, rfl, rfl, StBox.of_heap (box_new _ _ _ _), StBox.of_heap (box_old _ _ _ _), below_two hW _ _⟩
          case rest =>
            obtain ⟨rfl, b8, b9, rfl, rfl, hx8, hx9, hWc⟩ := hcut
            have d0 := hx8.2 0 _ rfl
            have d1 := hx8.2 1 _ rfl
            have d2 := hx8.2 2 _ rfl
            have d3 := hx8.2 3 _ rfl
            have d4 := hx8.2 4 _ rfl
            have d5 := hx8.2 5 _ rfl
            have d8 := hx8.2 8 _ rfl
            have f0 := hx9.2 0 _ rfl
            have f1 := hx9.2 1 _ rfl
            have f2 := hx9.2 2 _ rfl
            have f3 := hx9.2 3 _ rfl
            have f4 := hx9.2 4 _ rfl
            have f5 := hx9.2 5 _ rfl
            have f8 := hx9.2 8 _ rfl
            have j8 := hx8.1
            have j9 := hx9.1
            clear x0 x1 x2 x3 x4 x5 x6 x7 x8 y0 y1 y2 y3 y4 y5 y6 y7 y8
            try replace hne := hne rfl
            go_wp2_with fail
            clear d0 d1 d2 d3 d4 d5 d8 f0 f1 f2 f3 f4 f5 f8
            go_loopg [84] ln (fun g i wz => ∃ j : Nat, j ≤ ln ∧ g = ln - j ∧ i = .int .i64 j ∧ Below wc.heap.size wc wz)
            case atStart => exact ⟨0, Nat.zero_le _, rfl, rfl, Below.refl _ _⟩
            case round =>
              obtain ⟨j, hj, rfl, rfl, hWz⟩ := hrel
              have hWw : Below w.heap.size w wr := hWc.trans (hWz.mono hWc.size)
              have hy8 := hx8.below hWz j8
              have hy9 := hx9.below hWz j9
              have i8 := hy8.1
              have i9 := hy9.1
              by_cases hlt2 : j < ln
              · obtain ⟨g2, o2, g3, o3, u0, u1, u2, u3, u4, u5, u6, u7, v0, v1, v2, v3, v4, v5, v6, v7, rfl, rfl, m0, m1, ⟨x0, x1, x2, x3, x4, x5, x6, x7⟩, ⟨y0, y1, y2, y3, y4, y5, y6, y7⟩, hcall⟩ := hpair j wr hlt2 hWw
                have d5 := hy8.2 5 _ rfl
                have f5 := hy9.2 5 _ rfl
                have hlt2I : (j : Int) < (ln : Int) := by omega
                clear hpair hcb hcc hy8 hy9 hx8 hx9
                go_upto_region 12 with fail
                go_cut [84, 99] from 84 to 100 (fun i v wq => i = .int .i64 j ∧ v = .bool false ∧ Below wc.heap.size wc wq)
                case first =>
                  go_region_with (go_at_call 47; refine (hcall _).mono ?_; rintro e w5 ⟨rfl, hb5⟩)
                  all_goals (go_wp2_with fail; go_meet; exact ⟨rfl, rfl, (below_drewN' hWz _).trans (hb5.mono hWz.size)⟩)
                case rest =>
                  obtain ⟨rfl, rfl, hBq⟩ := hcut
                  go_wp2_with fail
                  go_roundg (ln - (j + 1))
                  case measure => omega
                  case rel => exact ⟨j + 1, by omega, rfl, by go_num, hBq⟩
              · have hlt2I : ¬ (j : Int) < (ln : Int) := by omega
                have d6 := hy8.2 6 _ rfl
                have d7 := hy8.2 7 _ rfl
                have f6 := hy9.2 6 _ rfl
                have f7 := hy9.2 7 _ rfl
                clear hpair hx8 hx9
                go_wp2_with fail
                refine (hcb wr hWw).mono ?_
                rintro e w5 ⟨rfl, hb5⟩
                have hz8 := hy8.below hb5 i8
                have hz9 := hy9.below hb5 i9
                replace d7 := hz8.2 7 _ rfl
                replace f7 := hz9.2 7 _ rfl
                have t8 := hz8.1
                have t9 := hz9.1
                have hW5 : Below w.heap.size w w5 := hWw.trans (hb5.mono hWw.size)
                clear d6 f6 hcb
                go_wp2_with fail
                refine (hcc w5 hW5).mono ?_
                rintro e w6 ⟨rfl, hb6⟩
                go_wp2_with fail
                go_roundg (l.length - (q + 1))
                case measure => omega
                case rel => exact ⟨q + 1, by omega, rfl, by go_num, hW5.trans (hb6.mono hW5.size)⟩
        · have hltI : ¬ (q : Int) < (l.length : Int) := by omega
          clear hround
          go_wp2
          go_ret
          exact ⟨rfl, hW⟩
end Go.Proofs.YtifebbdjdllfpaaGreatDoor
/- The document's comparison of two programs. -/
namespace Go.Proofs.YtifebbdjdllfpaaGreatDoor
open Go.RowKit
set_option linter.unusedSimpArgs false
set_option linter.unusedVariables false

def SameP (pl : Bool) (p p' : Px.Pr) : Prop := if pl then p = p' else p.er = p'.er
theorem SameP.parts {pl : Bool} {p p' : Px.Pr} (h : SameP pl p p') : p.version = p'.version ∧ SameL pl p.states p'.states ∧ p.fns.length = p'.fns.length ∧ ∀ (i : Nat) (x y : Px.Fn), p.fns[i]? = some x → p'.fns[i]? = some y →
    x.name = y.name ∧ x.on = y.on ∧ x.result = y.result ∧ SameL pl x.params y.params ∧ SameSS pl x.body y.body ∧ (pl = true → x.place = y.place) := by
  unfold SameP at h
  cases pl with
  | true =>
    simp only [if_true] at h
    subst h
    refine ⟨rfl, by simp [SameL], rfl, fun i x y hx hy => ?_⟩
    rw [hx] at hy; simp at hy; subst hy
    exact ⟨rfl, rfl, rfl, by simp [SameL], by simp [SameSS], fun _ => rfl⟩
  | false =>
    simp only [Bool.false_eq_true, if_false, Px.Pr.er, Px.Pr.mk.injEq] at h
    obtain ⟨h1, h2, h3⟩ := h
    refine ⟨h1, by simpa [SameL] using h2, by simpa using congrArg List.length h3, fun i x y hx hy => ?_⟩
    have := congrArg (fun l => l[i]?) h3
    simp only [List.getElem?_map, hx, hy, Option.map_some, Option.some.injEq, Px.Fn.er, Px.Fn.mk.injEq, Px.ersS_map] at this
    obtain ⟨a1, a2, a3, a4, a5, _⟩ := this
    exact ⟨a1, a2, a4, by simpa [SameL] using a3, by simpa [SameSS] using a5, fun h => by simp at h⟩
theorem IsSls.slice {B : Nat → Prop} {w : World} {l : List Px.Sl} {v : Value} (h : IsSls B w l v) : ∃ ao cap, v = .slice ao l.length cap := by
  obtain ⟨ao, cap, e, _⟩ := SlRow.slice h; exact ⟨ao, cap, e⟩
theorem IsSts.slice {B : Nat → Prop} {w : World} {l : List Px.St} {v : Value} (h : IsSts B w l v) : ∃ ao cap, v = .slice ao l.length cap := by
  obtain ⟨row, h, _⟩ := h
  obtain ⟨ao, cap, e, _⟩ := SlRow.slice h; exact ⟨ao, cap, e⟩

set_option maxRecDepth 100000 in
set_option maxHeartbeats 8000000 in
theorem same_any (p p' : Px.Pr) (v v' : Value) (pl : Bool) (B : Nat → Prop) (w : World) (h1 : IsPr B w p v) (h2 : IsPr B w p' v') (hs : SameP pl p p') :
    Calls Tryz.prog 16 #[v, v', .bool pl] w fun r w' => r = .returned (.bool true) ∧ Below w.heap.size w w' := by
  obtain ⟨hver, hst, hlen, hel⟩ := hs.parts
  obtain ⟨ss, fs, rfl, hss, row, hr, ha⟩ := h1
  obtain ⟨ss', fs', rfl, hss', row', hr', ha'⟩ := h2
  rw [← hver]
  rw [← hlen] at hr'
  obtain ⟨sa, sc, rfl⟩ := hss.slice
  obtain ⟨sa', sc', rfl⟩ := hss'.slice
  obtain ⟨ao, cap, rfl, hm⟩ := hr.slice
  obtain ⟨ao', cap', rfl, _⟩ := hr'.slice
  unfold maxLen at hm
  have hslots : ∀ w1, Since B w w1 → Calls Tryz.prog 29 #[.slice sa p.states.length sc, .slice sa' p'.states.length sc', .bool pl] w1 fun r w' => r = .returned (.bool true) ∧ ∃ m, w' = w1.drewN m := fun w1 hS => sameSlots_any p.states p'.states _ _ pl B w1 (hss.since hS) (hss'.since hS) hst
  have hround : ∀ (q : Nat) (wr : World), q < p.fns.length → Below w.heap.size w wr →
      ∃ (g0 o0 g1 o1 pp pp' : Nat) (nm rs : Lx.B) (on : Bool) (pa pa' ba ba' : Option Addr) (pn pc pn' pc' bn bc bn' bc' : Nat), ao = some ⟨g0, o0, none⟩ ∧ ao' = some ⟨g1, o1, none⟩ ∧ g0 < wr.heap.size ∧ g1 < wr.heap.size ∧
        (wr.cell? ⟨g0, o0 + q * 7, none⟩ = some (.string ⟨nm.toArray⟩) ∧ wr.cell? ⟨g0, o0 + q * 7 + 1, none⟩ = some (.bool on) ∧ wr.cell? ⟨g0, o0 + q * 7 + 2, none⟩ = some (.slice pa pn pc) ∧ wr.cell? ⟨g0, o0 + q * 7 + 3, none⟩ = some (.string ⟨rs.toArray⟩) ∧ wr.cell? ⟨g0, o0 + q * 7 + 4, none⟩ = some (.slice none 0 0) ∧ wr.cell? ⟨g0, o0 + q * 7 + 5, none⟩ = some (.slice ba bn bc) ∧ wr.cell? ⟨g0, o0 + q * 7 + 6, none⟩ = some (.int .i64 pp)) ∧
        (wr.cell? ⟨g1, o1 + q * 7, none⟩ = some (.string ⟨nm.toArray⟩) ∧ wr.cell? ⟨g1, o1 + q * 7 + 1, none⟩ = some (.bool on) ∧ wr.cell? ⟨g1, o1 + q * 7 + 2, none⟩ = some (.slice pa' pn' pc') ∧ wr.cell? ⟨g1, o1 + q * 7 + 3, none⟩ = some (.string ⟨rs.toArray⟩) ∧ wr.cell? ⟨g1, o1 + q * 7 + 4, none⟩ = some (.slice none 0 0) ∧ wr.cell? ⟨g1, o1 + q * 7 + 5, none⟩ = some (.slice ba' bn' bc') ∧ wr.cell? ⟨g1, o1 + q * 7 + 6, none⟩ = some (.int .i64 pp')) ∧
        (pl = true → ((pp : Int) != (pp' : Int)) = false) ∧
        (∀ w1, Below w.heap.size w w1 → Calls Tryz.prog 29 #[.slice pa pn pc, .slice pa' pn' pc', .bool pl] w1 fun r w' => r = .returned (.bool true) ∧ ∃ m, w' = w1.drewN m) ∧
        (∀ w1, Below w.heap.size w w1 → Calls Tryz.prog 30 #[.slice ba bn bc, .slice ba' bn' bc', .bool pl] w1 fun r w' => r = .returned (.bool true) ∧ Below w1.heap.size w1 w') := by
    intro q wr hq hW
    obtain ⟨x, hx⟩ : ∃ x, p.fns[q]? = some x := ⟨p.fns[q], List.getElem?_eq_getElem hq⟩
    obtain ⟨y, hy⟩ : ∃ y, p'.fns[q]? = some y := ⟨p'.fns[q]'(by omega), List.getElem?_eq_getElem (by omega)⟩
    obtain ⟨cx, ⟨ps, bs, rfl, kp, kb⟩, rx⟩ := ha.get hx
    obtain ⟨cy, ⟨ps', bs', rfl, kp', kb'⟩, ry⟩ := ha'.get hy
    obtain ⟨e1, e2, e3, e4, e5, e6⟩ := hel q x y hx hy
    rw [← e1, ← e2, ← e3] at ry
    obtain ⟨pa, pc, rfl⟩ := kp.slice
    obtain ⟨pa', pc', rfl⟩ := kp'.slice
    obtain ⟨ba, bc, rfl⟩ := kb.slice
    obtain ⟨ba', bc', rfl⟩ := kb'.slice
    obtain ⟨g0, o0, z0, y0, _, _, _, hg0, hc0⟩ := hr.cells (by omega)
    obtain ⟨g1, o1, z1, y1, _, _, _, hg1, hc1⟩ := hr'.cells (by omega)
    simp only [Value.slice.injEq] at y0 y1
    obtain ⟨rfl, _, rfl⟩ := y0
    obtain ⟨rfl, _, rfl⟩ := y1
    have hsz := hW.size
    have f0 : ∀ (j : Nat) (u : Value), j < 7 → ([.string ⟨x.name.toArray⟩, .bool x.on, .slice pa x.params.length pc, .string ⟨x.result.toArray⟩, .slice none 0 0, .slice ba x.body.length bc, .int .i64 x.place] : List Value)[j]? = some u → wr.cell? ⟨g0, o0 + q * 7 + j, none⟩ = some u := by
      intro j u hj hu
      rw [Nat.add_assoc, hW.cell (p := ⟨g0, o0 + (q * 7 + j), none⟩) hg0]
      exact hc0 _ _ (by rw [rx j hj]; exact hu)
    have f1 : ∀ (j : Nat) (u : Value), j < 7 → ([.string ⟨x.name.toArray⟩, .bool x.on, .slice pa' y.params.length pc', .string ⟨x.result.toArray⟩, .slice none 0 0, .slice ba' y.body.length bc', .int .i64 y.place] : List Value)[j]? = some u → wr.cell? ⟨g1, o1 + q * 7 + j, none⟩ = some u := by
      intro j u hj hu
      rw [Nat.add_assoc, hW.cell (p := ⟨g1, o1 + (q * 7 + j), none⟩) hg1]
      exact hc1 _ _ (by rw [ry j hj]; exact hu)
    refine ⟨g0, o0, g1, o1, x.place, y.place, x.name, x.result, x.on, pa, pa', ba, ba', x.params.length, pc, y.params.length, pc', x.body.length, bc, y.body.length, bc', rfl, rfl, by omega, by omega, ⟨f0 0 _ (by omega) rfl, f0 1 _ (by omega) rfl, f0 2 _ (by omega) rfl, f0 3 _ (by omega) rfl, f0 4 _ (by omega) rfl, f0 5 _ (by omega) rfl, f0 6 _ (by omega) rfl⟩,
      ⟨f1 0 _ (by omega) rfl, f1 1 _ (by omega) rfl, f1 2 _ (by omega) rfl, f1 3 _ (by omega) rfl, f1 4 _ (by omega) rfl, f1 5 _ (by omega) rfl, f1 6 _ (by omega) rfl⟩, fun h => by rw [e6 h]; simp, ?_, ?_⟩
    · intro w1 hW1
      have hsn : Since B w w1 := ⟨hW1.size, fun k _ h => hW1.block k h⟩
      exact sameSlots_any x.params y.params _ _ pl B w1 (kp.since hsn) (kp'.since hsn) e4
    · intro w1 hW1
      have hsn : Since B w w1 := ⟨hW1.size, fun k _ h => hW1.block k h⟩
      obtain ⟨r1, t1, t2⟩ := kb
      obtain ⟨r2, t3, t4⟩ := kb'
      exact sameStmts_any _ x.body y.body _ _ pl B w1 (Nat.lt_succ_self _) ⟨r1, t1.since hsn, t2.since hsn⟩ ⟨r2, t3.since hsn, t4.since hsn⟩ e5
  have hbx : ∀ o1 o2, Below w.heap.size w ((w.alloc o1).alloc o2) := fun o1 o2 => ((Below.refl _ _).alloc (Nat.le_refl _) _).alloc (by simp) _
  have hsl2 : ∀ o1 o2, Calls Tryz.prog 29 #[.slice sa p.states.length sc, .slice sa' p'.states.length sc', .bool pl] ((w.alloc o1).alloc o2) fun r w' => r = .returned (.bool true) ∧ ∃ m, w' = ((w.alloc o1).alloc o2).drewN m := fun o1 o2 => hslots _ (Since.of_below (hbx o1 o2))
  clear hslots hel hs ha ha' hlen hr hr' hver hst hss hss'
  generalize p.version = ver at *
  generalize p.states.length = sn at *
  generalize p'.states.length = sn' at *
  rcases pl with _ | _
  all_goals
    go_enter Tryz.func16, Tryz.ntmps16
    go_wp2_with (go_at_call 29; refine (hsl2 _ _).mono ?_; rintro e w1 ⟨rfl, m1, rfl⟩)
    have q0 : (((w.alloc (.cells #[.int .i64 ver, .slice sa sn sc, .slice ao p.fns.length cap] 31)).alloc (.cells #[.int .i64 ver, .slice sa' sn' sc', .slice ao' p.fns.length cap'] 31)).drewN m1).cell? ⟨w.heap.size, 2, none⟩ = some (.slice ao p.fns.length cap) := by simp
    have q1 : (((w.alloc (.cells #[.int .i64 ver, .slice sa sn sc, .slice ao p.fns.length cap] 31)).alloc (.cells #[.int .i64 ver, .slice sa' sn' sc', .slice ao' p.fns.length cap'] 31)).drewN m1).cell? ⟨w.heap.size + 1, 2, none⟩ = some (.slice ao' p.fns.length cap') := by simp
    have q2 : w.heap.size + 1 < (((w.alloc (.cells #[.int .i64 ver, .slice sa sn sc, .slice ao p.fns.length cap] 31)).alloc (.cells #[.int .i64 ver, .slice sa' sn' sc', .slice ao' p.fns.length cap'] 31)).drewN m1).heap.size := by simp
    have q3 : Below w.heap.size w (((w.alloc (.cells #[.int .i64 ver, .slice sa sn sc, .slice ao p.fns.length cap] 31)).alloc (.cells #[.int .i64 ver, .slice sa' sn' sc', .slice ao' p.fns.length cap'] 31)).drewN m1) := below_drewN' (hbx _ _) _
    generalize (((w.alloc (.cells #[.int .i64 ver, .slice sa sn sc, .slice ao p.fns.length cap] 31)).alloc (.cells #[.int .i64 ver, .slice sa' sn' sc', .slice ao' p.fns.length cap'] 31)).drewN m1) = wb at *
    clear hsl2 hbx
    have qA : w.heap.size < wb.heap.size := by omega
    generalize w.heap.size + 1 = bB at *
    go_loopg [37] p.fns.length (fun g i wr => ∃ q : Nat, q ≤ p.fns.length ∧ g = p.fns.length - q ∧ i = .int .i64 q ∧ Below wb.heap.size wb wr)
    case atStart => exact ⟨0, Nat.zero_le _, rfl, rfl, Below.refl _ _⟩
    case round =>
      obtain ⟨q, hq, rfl, rfl, hB⟩ := hrel
      have hW : Below w.heap.size w wr := q3.trans (hB.mono q3.size)
      by_cases hlt : q < p.fns.length
      · obtain ⟨g0, o0, g1, o1, pp, pp', nm, rs, on, pa, pa', ba, ba', pn, pc, pn', pc', bn, bc, bn', bc', rfl, rfl, l0, l1, ⟨x0, x1, x2, x3, x4, x5, x6⟩, ⟨y0, y1, y2, y3, y4, y5, y6⟩, hne, hcs, hcb⟩ := hround q wr hlt hW
        clear hround
        have hltI : (q : Int) < (p.fns.length : Int) := by omega
        have z0 := (hB.cell (p := ⟨w.heap.size, 2, none⟩) qA).trans q0
        have z1 := (hB.cell (p := ⟨bB, 2, none⟩) q2).trans q1
        have z2 : bB < wr.heap.size := by have := hB.size; omega
        have z3 : w.heap.size < wr.heap.size := by have := hB.size; omega
        go_upto_region 6 with fail
        go_cut [8, 9, 37] from 37 to 122 (fun s8 s9 i wc => i = .int .i64 q ∧ ∃ b8 b9, s8 = .pointer (some ⟨b8, 0, none⟩) ∧ s9 = .pointer (some ⟨b9, 0, none⟩) ∧ StBox wc b8 [.string ⟨nm.toArray⟩, .bool on, .slice pa pn pc, .string ⟨rs.toArray⟩, .slice none 0 0, .slice ba bn bc, .int .i64 pp] ∧ StBox wc b9 [.string ⟨nm.toArray⟩, .bool on, .slice pa' pn' pc', .string ⟨rs.toArray⟩, .slice none 0 0, .slice ba' bn' bc', .int .i64 pp'] ∧ Below wb.heap.size wb wc)
        case first =>
          go_region
          all_goals (go_wp2_with fail; go_meet)
          all_goals first
            | exact ⟨rfl, _, _, rfl, rfl, StBox.of_heap (box_old _ _ _ _), StBox.of_heap (box_new _ _ _ _), below_two hB _ _⟩
            | exact ⟨rfl, _, _, rfl, rfl, StBox.of_heap (box_new _ _ _ _), StBox.of_heap (box_old _ _ _ _), below_two hB _ _⟩
        case rest =>
          obtain ⟨rfl, b8, b9, rfl, rfl, hx8, hx9, hBc⟩ := hcut
          have hWc : Below w.heap.size w wc := q3.trans (hBc.mono q3.size)
          have d0 := hx8.2 0 _ rfl
          have d1 := hx8.2 1 _ rfl
          have d2 := hx8.2 2 _ rfl
          have d3 := hx8.2 3 _ rfl
          have d4 := hx8.2 4 _ rfl
          have d6 := hx8.2 6 _ rfl
          have f0 := hx9.2 0 _ rfl
          have f1 := hx9.2 1 _ rfl
          have f2 := hx9.2 2 _ rfl
          have f3 := hx9.2 3 _ rfl
          have f4 := hx9.2 4 _ rfl
          have f6 := hx9.2 6 _ rfl
          have d5 := hx8.2 5 _ rfl
          have f5 := hx9.2 5 _ rfl
          have j8 := hx8.1
          have j9 := hx9.1
          clear x0 x1 x2 x3 x4 x5 x6 y0 y1 y2 y3 y4 y5 y6 z0 z1 z2 q0 q1 q2
          try replace hne := hne rfl
          go_wp2_with fail
          refine (hcs wc hWc).mono ?_
          rintro e w1 ⟨rfl, m5, rfl⟩
          go_wp2_with fail
          go_loopg [100] 0 (fun g i wz => i = .int .i64 0 ∧ wz = wc.drewN m5)
          case atStart => exact ⟨rfl, rfl⟩
          case round =>
            obtain ⟨rfl, rfl⟩ := hrel
            go_wp2_with fail
            refine (hcb (wc.drewN m5) (below_drewN' hWc _)).mono ?_
            rintro e w6 ⟨rfl, hb6⟩
            go_wp2_with fail
            go_roundg (p.fns.length - (q + 1))
            case measure => omega
            case rel => exact ⟨q + 1, by omega, rfl, by go_num, (below_drewN' hBc _).trans (hb6.mono hBc.size)⟩
      · have hltI : ¬ (q : Int) < (p.fns.length : Int) := by omega
        clear hround
        go_wp2
        go_ret
        exact ⟨rfl, hW⟩
end Go.Proofs.YtifebbdjdllfpaaGreatDoor
