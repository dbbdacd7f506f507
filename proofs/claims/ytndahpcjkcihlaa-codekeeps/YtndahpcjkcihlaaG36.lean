/- Texts of ours, joined: Jl. -/
import Derived.Test.YtndahpcjkcihlaaG03
import Derived.Test.YtndahpcjkcihlaaG30
import Derived.Test.YtndahpcjkcihlaaG35
/- Numbers put, however many; the numbers of a function: the program's. -/
namespace Go.Proofs.Ytndahpcjkcihlaa
open Go.RowKit
set_option linter.unusedVariables false
set_option linter.unusedSimpArgs false

set_option maxRecDepth 100000 in
set_option maxHeartbeats 2000000 in
theorem put_many {g cx : Nat} {xs : List Int} {w : World} (hxs : IntsAt w g xs) (hr : ∀ x ∈ xs, InR x) (hm : xs.length ≤ 50000) :
    Calls Try.prog 24 #[.slice none 0 0, .slice (some ⟨g, 0, none⟩) xs.length cx] w fun r w' => (∃ ao cap, r = .returned (.slice ao (nums xs).length cap) ∧ w'.ownsRow w.heap.size 5 1 (.slice ao (nums xs).length cap) (nums xs).length (c8 (nums xs))) ∧ Below w.heap.size w w' := by
  have hsize : ∀ q x, xs[q]? = some x → Calls Try.prog 44 #[.int .i64 x] w fun r w' => (∃ m : Nat, r = .returned (.int .i64 m) ∧ m ≤ 9) ∧ w' = w := fun q x h => size_any x (hr x (List.mem_of_getElem? h)) w
  have hstart : ∀ n : Nat, n ≤ 600000 → ∃ w1 ao cap w2, (Instr.makeSlice 34 (.int .i64 0) (.int .i64 n)).run Try.prog w = .ok (.slice (some ⟨w.heap.size, 0, none⟩) 0 n) w1 ∧ (Builtin.append_ #[34, 34] 34 #[.slice (some ⟨w.heap.size, 0, none⟩) 0 n, .slice none 0 0]).run Try.prog w1 = .ok (.slice ao 0 cap) w2 ∧ w2.ownsRow w.heap.size 5 1 (.slice ao 0 cap) 0 (c8 []) ∧ Below w.heap.size w w2 := by
    intro n hn
    obtain ⟨i, hi, hz, hs, hb⟩ := info_parts byteInfo
    obtain ⟨w1, h1, h2, h3⟩ := run_make_own (P := Try.prog) w w.heap.size 34 5 i _ 1 Try.underlying34 hi hz hs .i64 .i64 n (by rw [hb]; omega) (by unfold maxLen; omega) (Nat.le_refl _)
    have hb1 : Below w.heap.size w w1 := (Below.refl _ _).grown h3 (Nat.le_refl _) (fun k hk => by cases hk)
    obtain ⟨ao, cap, w2, hr2, ho, hb2, _⟩ := app_run (news := []) Try.underlying34 byteInfo rfl (by decide) 34 (m := 0) (c := 0) (ad := none) h2 (by simp) (by simp) (by simp) (by simp) (by omega) (by decide) hb1.size
    exact ⟨w1, ao, cap, w2, h1, hr2, ho, hb1.trans hb2⟩
  have hput : ∀ (q : Nat) (x : Int) (wr : World) (ao : Option Addr) (cap : Nat), xs[q]? = some x → Below w.heap.size w wr → wr.ownsRow w.heap.size 5 1 (.slice ao (nums (xs.take q)).length cap) (nums (xs.take q)).length (c8 (nums (xs.take q))) →
      Calls Try.prog 45 #[.slice ao (nums (xs.take q)).length cap, .int .i64 (max x 0)] wr fun r w' => (∃ ao' cap', r = .returned (.slice ao' (nums (xs.take (q + 1))).length cap') ∧ w'.ownsRow w.heap.size 5 1 (.slice ao' (nums (xs.take (q + 1))).length cap') (nums (xs.take (q + 1))).length (c8 (nums (xs.take (q + 1))))) ∧ Below w.heap.size w w' := by
    intro q x wr ao cap hx hB ho
    have hxr := hr x (List.mem_of_getElem? hx)
    have hle := nums_len (xs.take q) (fun y hy => hr y (List.mem_of_mem_take hy))
    have hql : (xs.take q).length ≤ 50000 := by simp; omega
    have hP := putOne_any (x := x.toNat) ho (by omega) (by have := hxr.2; omega) hB.size
    have e : ((x.toNat : Nat) : Int) = max x 0 := by omega
    rw [e] at hP
    have e2 : (nums (xs.take (q + 1))).length = (nums (xs.take q)).length + (num x.toNat).length := by rw [nums_take_succ hx]; simp
    rw [e2, nums_take_succ hx]
    exact hP.mono fun e w' ⟨h1, h2⟩ => ⟨h1, hB.trans h2⟩
  have hcell : ∀ (q : Nat) (wr : World), q < xs.length → Below w.heap.size w wr → ∃ x, xs[q]? = some x ∧ wr.cell? ⟨g, q, none⟩ = some (.int .i64 x) := fun q wr hq hB => ⟨xs[q], List.getElem?_eq_getElem hq, (hxs.below hB).2 q _ (List.getElem?_eq_getElem hq)⟩
  have hg := hxs.1
  clear hxs hr
  go_enter Try.func24, Try.ntmps24
  go_wp2_with fail
  go_loopg [5, 15] xs.length (fun gh s i wr => ∃ (q n : Nat), q ≤ xs.length ∧ gh = xs.length - q ∧ n ≤ 9 * q ∧ i = .int .i64 q ∧ s = .int .i64 n ∧ w = wr)
  case atStart => exact ⟨0, 0, by omega, rfl, by omega, rfl, rfl, rfl⟩
  case round =>
    obtain ⟨q, n, hq, rfl, hn, rfl, rfl, rfl⟩ := hrel
    by_cases hlt : q < xs.length
    · have hltI : (q : Int) < (xs.length : Int) := by omega
      obtain ⟨x, hx, hc⟩ := hcell q w hlt (Below.refl _ _)
      have hS := hsize q x hx
      clear hsize hstart hput hcell hx
      go_wp2_with fail
      refine hS.mono ?_
      rintro e w' ⟨⟨m, rfl, hm9⟩, rfl⟩
      clear hS
      go_wp2_with fail
      go_roundg (xs.length - (q + 1))
      case measure => omega
      case rel => exact ⟨q + 1, n + m, by omega, rfl, by omega, by go_num, by go_num, rfl⟩
    · have hltI : ¬ (q : Int) < (xs.length : Int) := by omega
      obtain ⟨w1, ao, cap, w2, hmk, happ, hown, hb2⟩ := hstart n (by omega)
      clear hsize hstart
      go_wp2_with (at_builtin; refine Lib.wpList_append_run _ rfl _ _ 34 34 rfl _ _ rfl rfl _ _ happ ?_)
      go_loopg [8, 30] xs.length (fun gh s i wr => ∃ (q : Nat) (ao : Option Addr) (cap : Nat), q ≤ xs.length ∧ gh = xs.length - q ∧ i = .int .i64 q ∧ s = .slice ao (nums (xs.take q)).length cap ∧ Hid (wr.ownsRow w.heap.size 5 1 (.slice ao (nums (xs.take q)).length cap) (nums (xs.take q)).length (c8 (nums (xs.take q)))) ∧ Below w.heap.size w wr)
      case atStart => exact ⟨0, ao, cap, by omega, rfl, rfl, rfl, hown, hb2⟩
      case round =>
        clear hown hb2 hmk happ
        obtain ⟨q, ao, cap, hq, rfl, rfl, rfl, HO, hB⟩ := hrel
        by_cases hlt : q < xs.length
        · have hltI : (q : Int) < (xs.length : Int) := by omega
          obtain ⟨x, hx, hc⟩ := hcell q wr hlt hB
          have hP := hput q x wr ao cap hx hB HO.out
          have hg2 : g < wr.heap.size := by have := hB.size; omega
          have hmx : ∀ (ts : Array TypeId) (t : TypeId) (wx : World), (Builtin.max_ ts t #[.int .i64 x, .int .i64 0]).run Try.prog wx = .ok (.int .i64 (max x 0)) wx := by
            intro ts t wx
            rw [run_max_int2]
            have : (if (0 : Int) > x then (0 : Int) else x) = max x 0 := by split <;> omega
            rw [this]
          generalize max x 0 = xm at *
          clear hput hcell hx HO
          go_wp2_with fail
          refine hP.mono ?_
          rintro e w' ⟨⟨a3, c3, rfl, h3⟩, hb3⟩
          have HO2 : Hid (w'.ownsRow w.heap.size 5 1 (.slice a3 (nums (xs.take (q + 1))).length c3) (nums (xs.take (q + 1))).length (c8 (nums (xs.take (q + 1))))) := h3
          clear hP h3
          go_wp2_with fail
          go_roundg (xs.length - (q + 1))
          case measure => omega
          case rel => exact ⟨q + 1, a3, c3, by omega, rfl, by go_num, rfl, HO2, hb3⟩
        · have hltI : ¬ (q : Int) < (xs.length : Int) := by omega
          have hqe : q = xs.length := by omega
          have hfin : w.heap.size ≤ wr.heap.size ∧ wr.ownsRow w.heap.size 5 1 (.slice ao (nums xs).length cap) (nums xs).length (c8 (nums xs)) := by
            have := HO.out
            rw [hqe, List.take_length] at this
            exact ⟨hB.size, this⟩
          have etk : Hid (nums (xs.take q) = nums xs) := by show _ = _; rw [hqe, List.take_length]
          clear hput hcell HO hqe
          rw [etk.out]
          go_wp2
          go_ret
          exact ⟨⟨ao, cap, rfl, hfin.2⟩, hB⟩
attribute [local go_sem ↓] Go.wp_at_zero Go.wp_at_succ
/-- What a function's bytes are the bytes of. -/
def inN (i : In) : List Int := [i.op, i.a]
def xsN (f : Fu) : List Int := xsF f ++ f.code.flatMap inN
theorem nums_app (a b : List Int) : nums (a ++ b) = nums a ++ nums b := by unfold nums; rw [List.flatMap_append]
theorem nums_in : ∀ l : List In, nums (l.flatMap inN) = l.flatMap eI
  | [] => rfl
  | a :: r => by
    rw [List.flatMap_cons, nums_app, nums_in r, List.flatMap_cons]
    simp [inN, nums, eI]
theorem nums_xsN (f : Fu) : nums (xsN f) = eF f := by
  unfold xsN eF
  rw [nums_app, nums_in]
  rfl
theorem inN_len : ∀ l : List In, (l.flatMap inN).length = 2 * l.length
  | [] => rfl
  | a :: r => by
    rw [List.flatMap_cons, List.length_append, inN_len r]
    simp only [inN, List.length_cons, List.length_nil]
    omega
theorem xsN_len (f : Fu) : (xsN f).length = 5 + 2 * f.code.length := by
  unfold xsN
  rw [List.length_append, inN_len]
  rfl
theorem inN_take {l : List In} {q : Nat} {x : In} (h : l[q]? = some x) : (l.take (q + 1)).flatMap inN = (l.take q).flatMap inN ++ inN x := by
  rw [List.take_add_one, h, List.flatMap_append]; simp
theorem IRow.of_block {n0 : Nat} {w : World} {g : Nat} {l : List Int} (h : w.heap[g]? = some (.cells (l.map iV).toArray 3 (0, 0))) (hn : n0 ≤ g) (hl : l.length ≤ 100000) : IRow n0 w (.slice (some ⟨g, 0, none⟩) l.length l.length) l := by
  refine ⟨by simp, Or.inr ⟨g, l.length, (l.map iV).toArray, rfl, hn, h, Nat.le_refl _, by unfold maxLen; omega, by simp, by simp [List.take_of_length_le]⟩⟩
theorem IRow.push2 {n0 : Nat} {w : World} {v : Value} {l : List Int} (h : IRow n0 w v l) {x y : Int} {g0 : Nat} (hb : w.heap[g0]? = some (.cells #[iV x, iV y] 3 (0, 0))) (hn : n0 ≤ w.heap.size) (hl : l.length ≤ 100000) (c : Nat) (ty : TypeId) :
    ∃ g cap w', (Builtin.append_ #[55, 55] ty #[v, .slice (some ⟨g0, 0, none⟩) 2 c]).run Try.prog w = .ok (.slice (some ⟨g, 0, none⟩) (l.length + 2) cap) w' ∧ IRow n0 w' (.slice (some ⟨g, 0, none⟩) (l.length + 2) cap) (l ++ [x, y]) ∧ w.grownBy w' v.ownBlock := by
  obtain ⟨i, hi, hz, hs, hby⟩ := infoParts intInfo
  obtain ⟨g, cap, w', hr, ho, hg, hat, hlt⟩ := run_append_lies (P := Try.prog) w 55 ty n0 3 i _ 1 8 Try.underlying55 hi hz hs hby rfl (by decide) v l.length (l.map iV) h ⟨g0, 0, none⟩ 2 c [iV x, iV y] rfl (fun j u hj => by
    have hj0 : j = 0 ∨ j = 1 := by have := (List.getElem?_eq_some_iff.1 hj).1; simp at this; omega
    rcases hj0 with rfl | rfl
    · simp only [List.getElem?_cons_zero, Option.some.injEq] at hj
      subst hj
      have : w.cell? ⟨g0, 0, none⟩ = some (iV x) := by simp [World.cell?, hb]
      simpa [Addr.add] using this
    · simp only [List.getElem?_cons_succ, List.getElem?_cons_zero, Option.some.injEq] at hj
      subst hj
      have : w.cell? ⟨g0, 1, none⟩ = some (iV y) := by simp [World.cell?, hb]
      simpa [Addr.add] using this) (fun u hu => by simp at hu; rcases hu with rfl | rfl <;> rfl) (by omega) (by unfold maxLen; omega) (by omega) hn _ rfl
  refine ⟨g, cap, w', hr, ?_, hg⟩
  have : (l ++ [x, y]).length = l.length + 2 := by simp
  unfold IRow
  rw [this, List.map_append]
  exact ho
theorem IRow.ints {n0 : Nat} {w : World} {g n cap : Nat} {l : List Int} (h : IRow n0 w (.slice (some ⟨g, 0, none⟩) n cap) l) (hl : 1 ≤ l.length) : IntsAt w g l := by
  obtain ⟨x, hx⟩ : ∃ x, l[0]? = some x := ⟨_, List.getElem?_eq_getElem (by omega)⟩
  obtain ⟨g', c', e, hg, -⟩ := h.get hx
  simp only [Value.slice.injEq, Option.some.injEq, Addr.mk.injEq] at e
  obtain ⟨⟨rfl, -⟩, -⟩ := e
  refine ⟨hg, fun q x hq => ?_⟩
  obtain ⟨g', c', e, hg, hc⟩ := h.get hq
  simp only [Value.slice.injEq, Option.some.injEq, Addr.mk.injEq] at e
  obtain ⟨⟨rfl, -⟩, -⟩ := e
  exact hc
def NmPost (f : Fu) (w : World) (e : Ending) (w' : World) : Prop := (∃ g cap, e = .returned (.slice (some ⟨g, 0, none⟩) (xsN f).length cap) ∧ IntsAt w' g (xsN f)) ∧ Below w.heap.size w w'
set_option maxRecDepth 100000 in
set_option maxHeartbeats 4000000 in
theorem lnumbers_any {B : Nat → Prop} {f : Fu} {ak : Option Addr} {ck : Nat} {w : World} (hf : IsFn B w f (.slice ak f.code.length ck)) (hk : f.code.length ≤ 16384) :
    Calls Try.prog 26 #[.agg #[.int .i64 f.params, .int .i64 f.locals, .int .i64 f.zero, .int .i64 f.stack, .slice ak f.code.length ck]] w fun e w' => NmPost f w e w' := by
  obtain ⟨w0, hW0, hb0, hl0, hx0⟩ := box5 w (.int .i64 f.params) (.int .i64 f.locals) (.int .i64 f.zero) (.int .i64 f.stack) (.slice ak f.code.length ck) 44
  obtain ⟨d0, d1, d2, d3, d4, -, -, -, -, -, hld⟩ := cells_k5 hx0
  obtain ⟨w1, hW1, hb1, hl1, hx1⟩ := box5 w0 (.int .i64 f.params) (.int .i64 f.locals) (.int .i64 f.zero) (.int .i64 f.stack) (.int .i64 f.code.length) 3
  have hr1 : IRow w0.heap.size w1 (.slice (some ⟨w0.heap.size, 0, none⟩) 5 5) (xsF f) := IRow.of_block (l := xsF f) hx1 (Nat.le_refl _) (by simp [xsF])
  obtain ⟨e0, e1, e2, e3, e4, -, -, -, -, -, hle⟩ := cells_k5 ((hb1.block _ hld).trans hx0)
  have hrH : Hid (IRow w0.heap.size w1 (.slice (some ⟨w0.heap.size, 0, none⟩) 5 5) (xsF f)) := hr1
  have hB1 : Below w.heap.size w w1 := hb0.trans (hb1.mono hb0.size)
  have hx5 : (xsF f).length = 5 := rfl
  clear hl0 hx0 hl1 hx1 hr1
  go_enter Try.func26, Try.ntmps26
  go_wp2_with fail
  clear hW0 hW1 d0 d1 d2 d3 d4 e0 e1 e2 e3 e4
  go_loopg [3, 21] f.code.length (fun gk xs i wr => ∃ (q g cap : Nat), q ≤ f.code.length ∧ gk = f.code.length - q ∧ i = .int .i64 q ∧ xs = .slice (some ⟨g, 0, none⟩) (5 + 2 * q) cap ∧ Hid (Below w0.heap.size w0 wr ∧ IRow w0.heap.size wr (.slice (some ⟨g, 0, none⟩) (5 + 2 * q) cap) (xsF f ++ (f.code.take q).flatMap inN)))
  case atStart => exact ⟨0, w0.heap.size, 5, Nat.zero_le _, rfl, rfl, rfl, hb1, by simpa using hrH.out⟩
  case round =>
    obtain ⟨q, g, cap, hq, rfl, rfl, rfl, HI⟩ := hrel
    obtain ⟨hBr, hrow⟩ := HI.out
    clear HI hrH
    have hBw : Below w.heap.size w wr := hb0.trans (hBr.mono hb0.size)
    have hlen : (xsF f ++ (f.code.take q).flatMap inN).length = 5 + 2 * q := by
      rw [List.length_append, inN_len, hx5, List.length_take]; omega
    by_cases hlt : q < f.code.length
    · have hltI : (q : Int) < (f.code.length : Int) := by omega
      have hq0 : (0 : Int) ≤ (q : Int) := by omega
      obtain ⟨i, hi⟩ : ∃ i, f.code[q]? = some i := ⟨_, List.getElem?_eq_getElem hlt⟩
      obtain ⟨gc, oc, hak, -, hgc, ci0, ci1, -, -⟩ := ((hf.below hBw).code).get hi
      subst hak
      obtain ⟨wz, wi, hWz, hWi, hbz, hbi, -, hxi, hz⟩ := zibox wr (.int .i64 i.op) (.int .i64 i.a)
      obtain ⟨z0, z1, y0, y1, hlz⟩ := cells_k2 hz
      obtain ⟨u0, u1, -, -, hli⟩ := cells_k2 hxi
      obtain ⟨wa, hWa, hba, hla, hxa⟩ := box2 wi (iV i.op) (iV i.a) 3
      have hBi : Below w0.heap.size w0 wi := hBr.trans (hbi.mono hBr.size)
      have hBa : Below w0.heap.size w0 wa := hBi.trans (hba.mono hBi.size)
      have hrow2 : IRow w0.heap.size wa (.slice (some ⟨g, 0, none⟩) (5 + 2 * q) cap) (xsF f ++ (f.code.take q).flatMap inN) := (hrow.since (fun j hj => hbi.block j (hrow.lt hj).2)).since (fun j hj => hba.block j (Nat.lt_of_lt_of_le (hrow.lt hj).2 hbi.size))
      obtain ⟨g2, cap2, w2, hrun, hrow3, hgr⟩ := hrow2.push2 hxa hBa.size (by omega) 2 55
      have hB2 : Below w0.heap.size w0 w2 := hBa.trans (hrow2.below hgr (Nat.le_refl _) hBa.size)
      rw [hlen] at hrun hrow3
      have hnew : Hid (Below w0.heap.size w0 w2 ∧ IRow w0.heap.size w2 (.slice (some ⟨g2, 0, none⟩) (5 + 2 * (q + 1)) cap2) (xsF f ++ (f.code.take (q + 1)).flatMap inN)) := ⟨hB2, by rw [inN_take hi, ← List.append_assoc]; exact hrow3⟩
      clear hf hz hi hrow hrow2 hrow3 hgr hB2 hBa hBi hxi hxa hla hBr hBw hlen hx5
      go_wp2_with (at_builtin; refine Lib.wpList_append_run _ rfl _ _ 55 55 rfl _ _ rfl rfl _ _ hrun ?_; clear hrun)
      go_roundg (f.code.length - (q + 1))
      case measure => omega
      case rel => exact ⟨q + 1, g2, cap2, by omega, rfl, by go_num, rfl, hnew⟩
    · have hltI : ¬ (q : Int) < (f.code.length : Int) := by omega
      have hqe : q = f.code.length := by omega
      have hrow' := hrow
      rw [hqe, List.take_length] at hrow'
      have hfin := hrow'.ints (by simp [xsF])
      have hnl : 5 + 2 * q = (xsN f).length := by rw [xsN_len]; omega
      rw [hnl]
      clear hf hrow hrow' hlen hqe hnl hBr hx5
      go_wp2
      go_ret
      exact ⟨⟨g, cap, rfl, hfin⟩, hBw⟩
end Go.Proofs.Ytndahpcjkcihlaa
