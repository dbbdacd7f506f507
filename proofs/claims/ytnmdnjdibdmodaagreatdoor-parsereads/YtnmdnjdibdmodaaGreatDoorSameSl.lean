/- The document's comparison of two lists of slots. -/
import Derived.Test.YtnmdnjdibdmodaaGreatDoorSameEx
namespace Go.Proofs.YtnmdnjdibdmodaaGreatDoor
open Go.RowKit
set_option linter.unusedSimpArgs false
set_option linter.unusedVariables false

def SameL (pl : Bool) (l l' : List Px.Sl) : Prop := if pl then l = l' else l.map Px.Sl.er = l'.map Px.Sl.er
theorem SameL.parts {pl : Bool} {l l' : List Px.Sl} (h : SameL pl l l') : l.length = l'.length ∧ ∀ (i : Nat) (x y : Px.Sl), l[i]? = some x → l'[i]? = some y → x.name = y.name ∧ x.type = y.type ∧ (pl = true → x.place = y.place) := by
  unfold SameL at h
  cases pl with
  | true =>
    simp only [if_true] at h
    subst h
    refine ⟨rfl, fun i x y hx hy => ?_⟩
    rw [hx] at hy; simp at hy; subst hy
    exact ⟨rfl, rfl, fun _ => rfl⟩
  | false =>
    simp only [Bool.false_eq_true, if_false] at h
    refine ⟨by simpa using congrArg List.length h, fun i x y hx hy => ?_⟩
    have := congrArg (fun l => l[i]?) h
    simp only [List.getElem?_map, hx, hy, Option.map_some, Option.some.injEq, Px.Sl.er, Px.Sl.mk.injEq] at this
    exact ⟨this.1, this.2.1, fun h => by simp at h⟩
theorem slRow_get : ∀ {l : List Px.Sl} {i : Nat} {s : Px.Sl}, l[i]? = some s → (l.flatMap slCells)[i * 3]? = some (.string ⟨s.name.toArray⟩) ∧ (l.flatMap slCells)[i * 3 + 1]? = some (.string ⟨s.type.toArray⟩) ∧ (l.flatMap slCells)[i * 3 + 2]? = some (.int .i64 s.place)
  | [], i, s, h => by simp at h
  | a :: r, 0, s, h => by simp at h; subst h; simp [slCells]
  | a :: r, i + 1, s, h => by
    have ih := slRow_get (l := r) (i := i) (by simpa using h)
    have e : (a :: r).flatMap slCells = slCells a ++ r.flatMap slCells := by simp
    have hl : (slCells a).length = 3 := rfl
    rw [e]
    refine ⟨?_, ?_, ?_⟩
    · rw [List.getElem?_append_right (by omega), hl, show (i + 1) * 3 - 3 = i * 3 by omega]; exact ih.1
    · rw [List.getElem?_append_right (by omega), hl, show (i + 1) * 3 + 1 - 3 = i * 3 + 1 by omega]; exact ih.2.1
    · rw [List.getElem?_append_right (by omega), hl, show (i + 1) * 3 + 2 - 3 = i * 3 + 2 by omega]; exact ih.2.2

set_option maxRecDepth 100000 in
set_option maxHeartbeats 4000000 in
theorem sameSlots_any (l l' : List Px.Sl) (v v' : Value) (pl : Bool) (B : Nat → Prop) (w : World) (h1 : IsSls B w l v) (h2 : IsSls B w l' v') (hs : SameL pl l l') :
    Calls Tryz.prog 26 #[v, v', .bool pl] w fun r w' => r = .returned (.bool true) ∧ ∃ m, w' = w.drewN m := by
  obtain ⟨hlen, hel⟩ := hs.parts
  have hr : SlRow B w 3 v l.length (l.flatMap slCells) := h1
  have hr' : SlRow B w 3 v' l'.length (l'.flatMap slCells) := h2
  rw [← hlen] at hr'
  obtain ⟨ao, cap, rfl, hm⟩ := hr.slice
  obtain ⟨ao', cap', rfl, _⟩ := hr'.slice
  unfold maxLen at hm
  have hround : ∀ (q : Nat), q < l.length → ∃ (g0 o0 g1 o1 : Nat) (x y : Px.Sl), ao = some ⟨g0, o0, none⟩ ∧ ao' = some ⟨g1, o1, none⟩ ∧
      (w.cell? ⟨g0, o0 + q * 3, none⟩ = some (.string ⟨x.name.toArray⟩) ∧ w.cell? ⟨g0, o0 + q * 3 + 1, none⟩ = some (.string ⟨x.type.toArray⟩) ∧ w.cell? ⟨g0, o0 + q * 3 + 2, none⟩ = some (.int .i64 x.place)) ∧
      (w.cell? ⟨g1, o1 + q * 3, none⟩ = some (.string ⟨x.name.toArray⟩) ∧ w.cell? ⟨g1, o1 + q * 3 + 1, none⟩ = some (.string ⟨x.type.toArray⟩) ∧ w.cell? ⟨g1, o1 + q * 3 + 2, none⟩ = some (.int .i64 y.place)) ∧ (pl = true → ((x.place : Int) != (y.place : Int)) = false) := by
    intro q hq
    obtain ⟨x, hx⟩ : ∃ x, l[q]? = some x := ⟨l[q], List.getElem?_eq_getElem hq⟩
    obtain ⟨y, hy⟩ : ∃ y, l'[q]? = some y := ⟨l'[q]'(by omega), List.getElem?_eq_getElem (by omega)⟩
    obtain ⟨e1, e2, e3⟩ := hel q x y hx hy
    obtain ⟨g0, o0, c0, k0, _, _, _, _, hc0⟩ := hr.cells (by omega)
    obtain ⟨g1, o1, c1, k1, _, _, _, _, hc1⟩ := hr'.cells (by omega)
    simp only [Value.slice.injEq] at k0 k1
    obtain ⟨a1, a2, a3⟩ := slRow_get hx
    obtain ⟨b1, b2, b3⟩ := slRow_get hy
    rw [← e1] at b1
    rw [← e2] at b2
    refine ⟨g0, o0, g1, o1, x, y, k0.1, k1.1, ⟨hc0 _ _ a1, ?_, ?_⟩, ⟨hc1 _ _ b1, ?_, ?_⟩, fun h => by rw [e3 h]; simp⟩
    · rw [Nat.add_assoc]; exact hc0 _ _ a2
    · rw [Nat.add_assoc]; exact hc0 _ _ a3
    · rw [Nat.add_assoc]; exact hc1 _ _ b2
    · rw [Nat.add_assoc]; exact hc1 _ _ b3
  clear hel hlen hs h1 h2 hr hr'
  rcases pl with _ | _
  all_goals
    go_enter Tryz.func26, Tryz.ntmps26
    go_wp2_with fail
    go_loopg [15] l.length (fun g i wr => ∃ q : Nat, q ≤ l.length ∧ g = l.length - q ∧ i = .int .i64 q ∧ ∃ m, wr = w.drewN m)
    case atStart => exact ⟨0, Nat.zero_le _, rfl, rfl, 0, rfl⟩
    case round =>
      obtain ⟨q, hq, rfl, rfl, mm, rfl⟩ := hrel
      by_cases hlt : q < l.length
      · obtain ⟨g0, o0, g1, o1, x, y, rfl, rfl, ⟨x0, x1, x2⟩, ⟨y0, y1, y2⟩, hne⟩ := hround q hlt
        clear hround
        have hltI : (q : Int) < (l.length : Int) := by omega
        try replace hne := hne rfl
        go_wp2_with fail
        go_quiet (fail)
        go_wp2
        go_roundg (l.length - (q + 1))
        case measure => omega
        case rel => exact ⟨q + 1, by omega, rfl, by go_num, _, rfl⟩
      · have hltI : ¬ (q : Int) < (l.length : Int) := by omega
        clear hround
        go_wp2
        go_ret
        exact ⟨rfl, _, rfl⟩
end Go.Proofs.YtnmdnjdibdmodaaGreatDoor
