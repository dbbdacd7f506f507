/- The document's comparison of two programs. -/
import Derived.Test.YtnmdnjdibdmodaaGreatDoorSameSt
namespace Go.Proofs.YtnmdnjdibdmodaaGreatDoor
open Go.RowKit
set_option linter.unusedSimpArgs false
set_option linter.unusedVariables false

def SameP (pl : Bool) (p p' : Px.Pr) : Prop := if pl then p = p' else p.er = p'.er
theorem SameP.parts {pl : Bool} {p p' : Px.Pr} (h : SameP pl p p') : p.version = p'.version ∧ SameL pl p.states p'.states ∧ p.fns.length = p'.fns.length ∧ ∀ (i : Nat) (x y : Px.Fn), p.fns[i]? = some x → p'.fns[i]? = some y →
    x.name = y.name ∧ x.on = y.on ∧ x.result = y.result ∧ SameL pl x.params y.params ∧ SameSS pl x.body y.body ∧ (pl = true → x.place = y.place) := by
  unfold SameP at h
  cases pl with
  | true =>
    simp only [if_true] at h
    subst h
    refine ⟨rfl, by simp [SameL], rfl, fun i x y hx hy => ?_⟩
    rw [hx] at hy; simp at hy; subst hy
    exact ⟨rfl, rfl, rfl, by simp [SameL], by simp [SameSS], fun _ => rfl⟩
  | false =>
    simp only [Bool.false_eq_true, if_false, Px.Pr.er, Px.Pr.mk.injEq] at h
    obtain ⟨h1, h2, h3⟩ := h
    refine ⟨h1, by simpa [SameL] using h2, by simpa using congrArg List.length h3, fun i x y hx hy => ?_⟩
    have := congrArg (fun l => l[i]?) h3
    simp only [List.getElem?_map, hx, hy, Option.map_some, Option.some.injEq, Px.Fn.er, Px.Fn.mk.injEq, Px.ersS_map] at this
    obtain ⟨a1, a2, a3, a4, a5, _⟩ := this
    exact ⟨a1, a2, a4, by simpa [SameL] using a3, by simpa [SameSS] using a5, fun h => by simp at h⟩
theorem IsSls.slice {B : Nat → Prop} {w : World} {l : List Px.Sl} {v : Value} (h : IsSls B w l v) : ∃ ao cap, v = .slice ao l.length cap := by
  obtain ⟨ao, cap, e, _⟩ := SlRow.slice h; exact ⟨ao, cap, e⟩
theorem IsSts.slice {B : Nat → Prop} {w : World} {l : List Px.St} {v : Value} (h : IsSts B w l v) : ∃ ao cap, v = .slice ao l.length cap := by
  obtain ⟨row, h, _⟩ := h
  obtain ⟨ao, cap, e, _⟩ := SlRow.slice h; exact ⟨ao, cap, e⟩

set_option maxRecDepth 100000 in
set_option maxHeartbeats 8000000 in
theorem same_any (p p' : Px.Pr) (v v' : Value) (pl : Bool) (B : Nat → Prop) (w : World) (h1 : IsPr B w p v) (h2 : IsPr B w p' v') (hs : SameP pl p p') :
    Calls Tryz.prog 11 #[v, v', .bool pl] w fun r w' => r = .returned (.bool true) ∧ Below w.heap.size w w' := by
  obtain ⟨hver, hst, hlen, hel⟩ := hs.parts
  obtain ⟨ss, fs, rfl, hss, row, hr, ha⟩ := h1
  obtain ⟨ss', fs', rfl, hss', row', hr', ha'⟩ := h2
  rw [← hver]
  rw [← hlen] at hr'
  obtain ⟨sa, sc, rfl⟩ := hss.slice
  obtain ⟨sa', sc', rfl⟩ := hss'.slice
  obtain ⟨ao, cap, rfl, hm⟩ := hr.slice
  obtain ⟨ao', cap', rfl, _⟩ := hr'.slice
  unfold maxLen at hm
  have hslots : ∀ w1, Since B w w1 → Calls Tryz.prog 26 #[.slice sa p.states.length sc, .slice sa' p'.states.length sc', .bool pl] w1 fun r w' => r = .returned (.bool true) ∧ ∃ m, w' = w1.drewN m := fun w1 hS => sameSlots_any p.states p'.states _ _ pl B w1 (hss.since hS) (hss'.since hS) hst
  have hround : ∀ (q : Nat) (wr : World), q < p.fns.length → Below w.heap.size w wr →
      ∃ (g0 o0 g1 o1 pp pp' : Nat) (nm rs : Lx.B) (on : Bool) (pa pa' ba ba' : Option Addr) (pn pc pn' pc' bn bc bn' bc' : Nat), ao = some ⟨g0, o0, none⟩ ∧ ao' = some ⟨g1, o1, none⟩ ∧ g0 < wr.heap.size ∧ g1 < wr.heap.size ∧
        (wr.cell? ⟨g0, o0 + q * 7, none⟩ = some (.string ⟨nm.toArray⟩) ∧ wr.cell? ⟨g0, o0 + q * 7 + 1, none⟩ = some (.bool on) ∧ wr.cell? ⟨g0, o0 + q * 7 + 2, none⟩ = some (.slice pa pn pc) ∧ wr.cell? ⟨g0, o0 + q * 7 + 3, none⟩ = some (.string ⟨rs.toArray⟩) ∧ wr.cell? ⟨g0, o0 + q * 7 + 4, none⟩ = some (.slice none 0 0) ∧ wr.cell? ⟨g0, o0 + q * 7 + 5, none⟩ = some (.slice ba bn bc) ∧ wr.cell? ⟨g0, o0 + q * 7 + 6, none⟩ = some (.int .i64 pp)) ∧
        (wr.cell? ⟨g1, o1 + q * 7, none⟩ = some (.string ⟨nm.toArray⟩) ∧ wr.cell? ⟨g1, o1 + q * 7 + 1, none⟩ = some (.bool on) ∧ wr.cell? ⟨g1, o1 + q * 7 + 2, none⟩ = some (.slice pa' pn' pc') ∧ wr.cell? ⟨g1, o1 + q * 7 + 3, none⟩ = some (.string ⟨rs.toArray⟩) ∧ wr.cell? ⟨g1, o1 + q * 7 + 4, none⟩ = some (.slice none 0 0) ∧ wr.cell? ⟨g1, o1 + q * 7 + 5, none⟩ = some (.slice ba' bn' bc') ∧ wr.cell? ⟨g1, o1 + q * 7 + 6, none⟩ = some (.int .i64 pp')) ∧
        (pl = true → ((pp : Int) != (pp' : Int)) = false) ∧
        (∀ w1, Below w.heap.size w w1 → Calls Tryz.prog 26 #[.slice pa pn pc, .slice pa' pn' pc', .bool pl] w1 fun r w' => r = .returned (.bool true) ∧ ∃ m, w' = w1.drewN m) ∧
        (∀ w1, Below w.heap.size w w1 → Calls Tryz.prog 27 #[.slice ba bn bc, .slice ba' bn' bc', .bool pl] w1 fun r w' => r = .returned (.bool true) ∧ Below w1.heap.size w1 w') := by
    intro q wr hq hW
    obtain ⟨x, hx⟩ : ∃ x, p.fns[q]? = some x := ⟨p.fns[q], List.getElem?_eq_getElem hq⟩
    obtain ⟨y, hy⟩ : ∃ y, p'.fns[q]? = some y := ⟨p'.fns[q]'(by omega), List.getElem?_eq_getElem (by omega)⟩
    obtain ⟨cx, ⟨ps, bs, rfl, kp, kb⟩, rx⟩ := ha.get hx
    obtain ⟨cy, ⟨ps', bs', rfl, kp', kb'⟩, ry⟩ := ha'.get hy
    obtain ⟨e1, e2, e3, e4, e5, e6⟩ := hel q x y hx hy
    rw [← e1, ← e2, ← e3] at ry
    obtain ⟨pa, pc, rfl⟩ := kp.slice
    obtain ⟨pa', pc', rfl⟩ := kp'.slice
    obtain ⟨ba, bc, rfl⟩ := kb.slice
    obtain ⟨ba', bc', rfl⟩ := kb'.slice
    obtain ⟨g0, o0, z0, y0, _, _, _, hg0, hc0⟩ := hr.cells (by omega)
    obtain ⟨g1, o1, z1, y1, _, _, _, hg1, hc1⟩ := hr'.cells (by omega)
    simp only [Value.slice.injEq] at y0 y1
    obtain ⟨rfl, _, rfl⟩ := y0
    obtain ⟨rfl, _, rfl⟩ := y1
    have hsz := hW.size
    have f0 : ∀ (j : Nat) (u : Value), j < 7 → ([.string ⟨x.name.toArray⟩, .bool x.on, .slice pa x.params.length pc, .string ⟨x.result.toArray⟩, .slice none 0 0, .slice ba x.body.length bc, .int .i64 x.place] : List Value)[j]? = some u → wr.cell? ⟨g0, o0 + q * 7 + j, none⟩ = some u := by
      intro j u hj hu
      rw [Nat.add_assoc, hW.cell (p := ⟨g0, o0 + (q * 7 + j), none⟩) hg0]
      exact hc0 _ _ (by rw [rx j hj]; exact hu)
    have f1 : ∀ (j : Nat) (u : Value), j < 7 → ([.string ⟨x.name.toArray⟩, .bool x.on, .slice pa' y.params.length pc', .string ⟨x.result.toArray⟩, .slice none 0 0, .slice ba' y.body.length bc', .int .i64 y.place] : List Value)[j]? = some u → wr.cell? ⟨g1, o1 + q * 7 + j, none⟩ = some u := by
      intro j u hj hu
      rw [Nat.add_assoc, hW.cell (p := ⟨g1, o1 + (q * 7 + j), none⟩) hg1]
      exact hc1 _ _ (by rw [ry j hj]; exact hu)
    refine ⟨g0, o0, g1, o1, x.place, y.place, x.name, x.result, x.on, pa, pa', ba, ba', x.params.length, pc, y.params.length, pc', x.body.length, bc, y.body.length, bc', rfl, rfl, by omega, by omega, ⟨f0 0 _ (by omega) rfl, f0 1 _ (by omega) rfl, f0 2 _ (by omega) rfl, f0 3 _ (by omega) rfl, f0 4 _ (by omega) rfl, f0 5 _ (by omega) rfl, f0 6 _ (by omega) rfl⟩,
      ⟨f1 0 _ (by omega) rfl, f1 1 _ (by omega) rfl, f1 2 _ (by omega) rfl, f1 3 _ (by omega) rfl, f1 4 _ (by omega) rfl, f1 5 _ (by omega) rfl, f1 6 _ (by omega) rfl⟩, fun h => by rw [e6 h]; simp, ?_, ?_⟩
    · intro w1 hW1
      have hsn : Since B w w1 := ⟨hW1.size, fun k _ h => hW1.block k h⟩
      exact sameSlots_any x.params y.params _ _ pl B w1 (kp.since hsn) (kp'.since hsn) e4
    · intro w1 hW1
      have hsn : Since B w w1 := ⟨hW1.size, fun k _ h => hW1.block k h⟩
      obtain ⟨r1, t1, t2⟩ := kb
      obtain ⟨r2, t3, t4⟩ := kb'
      exact sameStmts_any _ x.body y.body _ _ pl B w1 (Nat.lt_succ_self _) ⟨r1, t1.since hsn, t2.since hsn⟩ ⟨r2, t3.since hsn, t4.since hsn⟩ e5
  have hbx : ∀ o1 o2, Below w.heap.size w ((w.alloc o1).alloc o2) := fun o1 o2 => ((Below.refl _ _).alloc (Nat.le_refl _) _).alloc (by simp) _
  have hsl2 : ∀ o1 o2, Calls Tryz.prog 26 #[.slice sa p.states.length sc, .slice sa' p'.states.length sc', .bool pl] ((w.alloc o1).alloc o2) fun r w' => r = .returned (.bool true) ∧ ∃ m, w' = ((w.alloc o1).alloc o2).drewN m := fun o1 o2 => hslots _ (Since.of_below (hbx o1 o2))
  clear hslots hel hs ha ha' hlen hr hr' hver hst hss hss'
  generalize p.version = ver at *
  generalize p.states.length = sn at *
  generalize p'.states.length = sn' at *
  rcases pl with _ | _
  all_goals
    go_enter Tryz.func11, Tryz.ntmps11
    go_wp2_with (go_at_call 26; refine (hsl2 _ _).mono ?_; rintro e w1 ⟨rfl, m1, rfl⟩)
    have q0 : (((w.alloc (.cells #[.int .i64 ver, .slice sa sn sc, .slice ao p.fns.length cap] 26)).alloc (.cells #[.int .i64 ver, .slice sa' sn' sc', .slice ao' p.fns.length cap'] 26)).drewN m1).cell? ⟨w.heap.size, 2, none⟩ = some (.slice ao p.fns.length cap) := by simp
    have q1 : (((w.alloc (.cells #[.int .i64 ver, .slice sa sn sc, .slice ao p.fns.length cap] 26)).alloc (.cells #[.int .i64 ver, .slice sa' sn' sc', .slice ao' p.fns.length cap'] 26)).drewN m1).cell? ⟨w.heap.size + 1, 2, none⟩ = some (.slice ao' p.fns.length cap') := by simp
    have q2 : w.heap.size + 1 < (((w.alloc (.cells #[.int .i64 ver, .slice sa sn sc, .slice ao p.fns.length cap] 26)).alloc (.cells #[.int .i64 ver, .slice sa' sn' sc', .slice ao' p.fns.length cap'] 26)).drewN m1).heap.size := by simp
    have q3 : Below w.heap.size w (((w.alloc (.cells #[.int .i64 ver, .slice sa sn sc, .slice ao p.fns.length cap] 26)).alloc (.cells #[.int .i64 ver, .slice sa' sn' sc', .slice ao' p.fns.length cap'] 26)).drewN m1) := below_drewN' (hbx _ _) _
    generalize (((w.alloc (.cells #[.int .i64 ver, .slice sa sn sc, .slice ao p.fns.length cap] 26)).alloc (.cells #[.int .i64 ver, .slice sa' sn' sc', .slice ao' p.fns.length cap'] 26)).drewN m1) = wb at *
    clear hsl2 hbx
    have qA : w.heap.size < wb.heap.size := by omega
    generalize w.heap.size + 1 = bB at *
    go_loopg [37] p.fns.length (fun g i wr => ∃ q : Nat, q ≤ p.fns.length ∧ g = p.fns.length - q ∧ i = .int .i64 q ∧ Below wb.heap.size wb wr)
    case atStart => exact ⟨0, Nat.zero_le _, rfl, rfl, Below.refl _ _⟩
    case round =>
      obtain ⟨q, hq, rfl, rfl, hB⟩ := hrel
      have hW : Below w.heap.size w wr := q3.trans (hB.mono q3.size)
      by_cases hlt : q < p.fns.length
      · obtain ⟨g0, o0, g1, o1, pp, pp', nm, rs, on, pa, pa', ba, ba', pn, pc, pn', pc', bn, bc, bn', bc', rfl, rfl, l0, l1, ⟨x0, x1, x2, x3, x4, x5, x6⟩, ⟨y0, y1, y2, y3, y4, y5, y6⟩, hne, hcs, hcb⟩ := hround q wr hlt hW
        clear hround
        have hltI : (q : Int) < (p.fns.length : Int) := by omega
        have z0 := (hB.cell (p := ⟨w.heap.size, 2, none⟩) qA).trans q0
        have z1 := (hB.cell (p := ⟨bB, 2, none⟩) q2).trans q1
        have z2 : bB < wr.heap.size := by have := hB.size; omega
        have z3 : w.heap.size < wr.heap.size := by have := hB.size; omega
        go_upto_region 6 with fail
        go_cut [8, 9, 37] from 37 to 122 (fun s8 s9 i wc => i = .int .i64 q ∧ ∃ b8 b9, s8 = .pointer (some ⟨b8, 0, none⟩) ∧ s9 = .pointer (some ⟨b9, 0, none⟩) ∧ StBox wc b8 [.string ⟨nm.toArray⟩, .bool on, .slice pa pn pc, .string ⟨rs.toArray⟩, .slice none 0 0, .slice ba bn bc, .int .i64 pp] ∧ StBox wc b9 [.string ⟨nm.toArray⟩, .bool on, .slice pa' pn' pc', .string ⟨rs.toArray⟩, .slice none 0 0, .slice ba' bn' bc', .int .i64 pp'] ∧ Below wb.heap.size wb wc)
        case first =>
          go_region
          all_goals (go_wp2_with fail; go_meet)
          all_goals first
            | exact ⟨rfl, _, _, rfl, rfl, StBox.of_heap (box_old _ _ _ _), StBox.of_heap (box_new _ _ _ _), below_two hB _ _⟩
            | exact ⟨rfl, _, _, rfl, rfl, StBox.of_heap (box_new _ _ _ _), StBox.of_heap (box_old _ _ _ _), below_two hB _ _⟩
        case rest =>
          obtain ⟨rfl, b8, b9, rfl, rfl, hx8, hx9, hBc⟩ := hcut
          have hWc : Below w.heap.size w wc := q3.trans (hBc.mono q3.size)
          have d0 := hx8.2 0 _ rfl
          have d1 := hx8.2 1 _ rfl
          have d2 := hx8.2 2 _ rfl
          have d3 := hx8.2 3 _ rfl
          have d4 := hx8.2 4 _ rfl
          have d6 := hx8.2 6 _ rfl
          have f0 := hx9.2 0 _ rfl
          have f1 := hx9.2 1 _ rfl
          have f2 := hx9.2 2 _ rfl
          have f3 := hx9.2 3 _ rfl
          have f4 := hx9.2 4 _ rfl
          have f6 := hx9.2 6 _ rfl
          have d5 := hx8.2 5 _ rfl
          have f5 := hx9.2 5 _ rfl
          have j8 := hx8.1
          have j9 := hx9.1
          clear x0 x1 x2 x3 x4 x5 x6 y0 y1 y2 y3 y4 y5 y6 z0 z1 z2 q0 q1 q2
          try replace hne := hne rfl
          go_wp2_with fail
          refine (hcs wc hWc).mono ?_
          rintro e w1 ⟨rfl, m5, rfl⟩
          go_wp2_with fail
          go_loopg [100] 0 (fun g i wz => i = .int .i64 0 ∧ wz = wc.drewN m5)
          case atStart => exact ⟨rfl, rfl⟩
          case round =>
            obtain ⟨rfl, rfl⟩ := hrel
            go_wp2_with fail
            refine (hcb (wc.drewN m5) (below_drewN' hWc _)).mono ?_
            rintro e w6 ⟨rfl, hb6⟩
            go_wp2_with fail
            go_roundg (p.fns.length - (q + 1))
            case measure => omega
            case rel => exact ⟨q + 1, by omega, rfl, by go_num, (below_drewN' hBc _).trans (hb6.mono hBc.size)⟩
      · have hltI : ¬ (q : Int) < (p.fns.length : Int) := by omega
        clear hround
        go_wp2
        go_ret
        exact ⟨rfl, hW⟩
end Go.Proofs.YtnmdnjdibdmodaaGreatDoor
