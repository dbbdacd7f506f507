/- Texts of ours, joined: Kv, Lct. -/
import Derived.Test.YtndahpcjkcihlaaG16
import Derived.Test.YtndahpcjkcihlaaG14
import Derived.Test.YtndahpcjkcihlaaG01
import Derived.Test.YtndahpcjkcihlaaG02
import Derived.Deep.LoopGhost
/- Can a module be run? The document's. -/
namespace Go.Proofs.Ytndahpcjkcihlaa
open Go.RowKit
set_option linter.unusedVariables false
set_option linter.unusedSimpArgs false
attribute [local go_sem ↓] Go.wp_at_zero Go.wp_at_succ

/-- A value's box, laid empty and then filled. -/
theorem zvbox (w : World) (x0 x1 x2 x3 : Value) : ∃ wz w4, w.alloc (.cells #[.int .i64 0, .int .i64 0, .string ⟨#[]⟩, .slice none 0 0] 29) = wz ∧ (((wz.setCell ⟨w.heap.size, 0, none⟩ x0).setCell ⟨w.heap.size, 1, none⟩ x1).setCell ⟨w.heap.size, 2, none⟩ x2).setCell ⟨w.heap.size, 3, none⟩ x3 = w4 ∧ Below w.heap.size w wz ∧ Below w.heap.size w w4 ∧ w4.heap[w.heap.size]? = some (.cells #[x0, x1, x2, x3] 29 (0, 0)) ∧ wz.heap[w.heap.size]? = some (.cells #[.int .i64 0, .int .i64 0, .string ⟨#[]⟩, .slice none 0 0] 29 (0, 0)) := by
  have hb : Below w.heap.size w (w.alloc (.cells #[.int .i64 0, .int .i64 0, .string ⟨#[]⟩, .slice none 0 0] 29)) := (Below.refl _ _).alloc (Nat.le_refl _) _
  have hz : (w.alloc (.cells #[.int .i64 0, .int .i64 0, .string ⟨#[]⟩, .slice none 0 0] 29)).heap[w.heap.size]? = some (.cells #[.int .i64 0, .int .i64 0, .string ⟨#[]⟩, .slice none 0 0] 29 (0, 0)) := heap_new _ _
  refine ⟨_, _, rfl, rfl, hb, (((hb.setCell (p := ⟨w.heap.size, 0, none⟩) (Nat.le_refl _) x0).setCell (p := ⟨w.heap.size, 1, none⟩) (Nat.le_refl _) x1).setCell (p := ⟨w.heap.size, 2, none⟩) (Nat.le_refl _) x2).setCell (p := ⟨w.heap.size, 3, none⟩) (Nat.le_refl _) x3, ?_, hz⟩
  generalize w.alloc (.cells #[.int .i64 0, .int .i64 0, .string ⟨#[]⟩, .slice none 0 0] 29) = wz at *
  simp [World.setCell, Array.getElem?_modify, hz]
theorem cells_k4 {w : World} {g : Nat} {y0 y1 y2 y3 : Value} {T : TypeId} (h : w.heap[g]? = some (.cells #[y0, y1, y2, y3] T (0, 0))) : w.cell? ⟨g, 0, none⟩ = some y0 ∧ w.cell? ⟨g, 1, none⟩ = some y1 ∧ w.cell? ⟨g, 2, none⟩ = some y2 ∧ w.cell? ⟨g, 3, none⟩ = some y3 ∧ w.frozen? ⟨g, 0, none⟩ = false ∧ w.frozen? ⟨g, 1, none⟩ = false ∧ w.frozen? ⟨g, 2, none⟩ = false ∧ w.frozen? ⟨g, 3, none⟩ = false ∧ g < w.heap.size := by
  refine ⟨?_, ?_, ?_, ?_, ?_, ?_, ?_, ?_, (Array.getElem?_eq_some_iff.1 h).1⟩
  all_goals first | simp [World.cell?, h] | simp [World.frozen?, h]
/-- What the reckoning of heights asks ahead. -/
theorem insOk_of {nc : Nat} {states : Int} {fs : List Fu} {n : Nat} {f : Fu} (hn : n ≤ fs.length) (hnum : NumOk nc f) (hins : ∀ i ∈ f.code, InOk nc states n f i) (hpre : ∀ k g, k < n → fs[k]? = some g → 0 ≤ g.params ∧ g.params ≤ 8) : InsOk fs f := by
  unfold NumOk at hnum
  refine ⟨by omega, by omega, by omega, fun i hi h9 => ?_, fun i hi => ?_, fun i hi h => ?_⟩
  · have := (hins i hi).call h9
    exact ⟨i.a.toNat, fs[i.a.toNat]'(by omega), by omega, List.getElem?_eq_getElem _⟩
  · unfold popN
    split
    · omega
    split
    · omega
    split
    · omega
    split
    · rename_i h9
      have h := (hins i hi).call (by simpa using h9)
      have hg : fs[i.a.toNat]? = some (fs[i.a.toNat]'(by omega)) := List.getElem?_eq_getElem _
      rw [hg]
      exact hpre _ _ (by omega) hg
    · omega
  · obtain ⟨_, _, h3, _⟩ := inOk_iff.1 (hins i hi)
    unfold inLow at h3
    split at h3
    · rename_i h12
      simp at h12
      omega
    · exact h3
set_option maxRecDepth 100000 in
set_option maxHeartbeats 8000000 in
theorem verify13_any {B : Nat → Prop} {m : Md} {ac af : Option Addr} {cc cf : Nat} {w : World} (hm : IsMd B w m (.slice ac m.consts.length cc) (.slice af m.funcs.length cf)) (hwt : ∀ v ∈ m.consts, wt v ≤ 4611686018427387904) (states : Int) :
    Calls Try.prog 12 #[.agg #[.slice ac m.consts.length cc, .slice af m.funcs.length cf], .int .i64 states] w fun e w' => e = .returned (.int .i64 (vfy m states)) ∧ Below w.heap.size w w' := by
  obtain ⟨w0, hW0, hb0, hl0, hx0⟩ := box2 w (.slice ac m.consts.length cc) (.slice af m.funcs.length cf) 25
  obtain ⟨d0, d1, -, -, hld⟩ := cells_k2 hx0
  have hcell : ∀ wr, Below w0.heap.size w0 wr → wr.cell? ⟨w.heap.size, 0, none⟩ = some (.slice ac m.consts.length cc) ∧ wr.cell? ⟨w.heap.size, 1, none⟩ = some (.slice af m.funcs.length cf) ∧ w.heap.size < wr.heap.size := fun wr hb => by
    obtain ⟨q0, q1, -, -, q2⟩ := cells_k2 ((hb.block _ hld).trans hx0)
    exact ⟨q0, q1, q2⟩
  have hBf : ∀ wr, Below w0.heap.size w0 wr → Below w.heap.size w wr := fun wr hb => hb0.trans (hb.mono hb0.size)
  obtain ⟨vr, hvr⟩ : ∃ vr, Hid (vfy m states = vr) := ⟨_, rfl⟩
  rw [hvr.out]
  have hno : ∀ wr, Below w0.heap.size w0 wr → ¬ Run m states → (Ending.returned (.int .i64 40) = Ending.returned (.int .i64 vr) ∧ Below w.heap.size w wr) := fun wr hb hr => ⟨by rw [← hvr.out, vfy_no hr], hBf wr hb⟩
  clear hl0 hx0
  by_cases h1 : states < 0
  · have hpost := hno w0 (Below.refl _ _) (fun h => by have := h.st.1; omega)
    have i1 : states < 0 := by omega
    clear hm hwt hno hcell hBf
    go_enter Try.func12, Try.ntmps12
    go_wp2
    go_ret
    exact hpost
  by_cases h2 : 32 < states
  · have hpost := hno w0 (Below.refl _ _) (fun h => by have := h.st.2; omega)
    have i2 : 32 < states := by omega
    have j1 : ¬ states < 0 := by omega
    clear hm hwt hno hcell hBf
    go_enter Try.func12, Try.ntmps12
    go_wp2
    go_ret
    exact hpost
  by_cases h3 : 32 < m.funcs.length
  · have hpost := hno w0 (Below.refl _ _) (fun h => by have := h.few.1; omega)
    have i3 : 32 < (m.funcs.length : Int) := by omega
    have j1 : ¬ states < 0 := by omega
    have j2 : ¬ 32 < states := by omega
    clear hm hwt hno hcell hBf
    go_enter Try.func12, Try.ntmps12
    go_wp2
    go_ret
    exact hpost
  by_cases h4 : 16384 < m.consts.length
  · have hpost := hno w0 (Below.refl _ _) (fun h => by have := h.few.2; omega)
    have i4 : 16384 < (m.consts.length : Int) := by omega
    have j1 : ¬ states < 0 := by omega
    have j2 : ¬ 32 < states := by omega
    have j3 : ¬ 32 < (m.funcs.length : Int) := by omega
    clear hm hwt hno hcell hBf
    go_enter Try.func12, Try.ntmps12
    go_wp2
    go_ret
    exact hpost
  have s1 : ¬ states < 0 := h1
  have s2 : ¬ 32 < states := h2
  have s3 : ¬ 32 < (m.funcs.length : Int) := by omega
  have s4 : ¬ 16384 < (m.consts.length : Int) := by omega
  go_enter Try.func12, Try.ntmps12
  go_wp2_with fail
  clear hW0 d0 d1 s3 s4
  go_loopg [32] m.consts.length (fun gk i wr => ∃ q : Nat, q ≤ m.consts.length ∧ gk = m.consts.length - q ∧ i = .int .i64 q ∧ Hid (Below w0.heap.size w0 wr ∧ ∀ (p : Nat) v, p < q → m.consts[p]? = some v → ctype v ≠ []))
  case atStart => exact ⟨0, Nat.zero_le _, rfl, rfl, Below.refl _ _, fun p v hp => by omega⟩
  case round =>
    obtain ⟨q, hq, rfl, rfl, HI⟩ := hrel
    obtain ⟨hBr, hct⟩ := HI.out
    clear HI
    by_cases hlt : q < m.consts.length
    · have hltI : (q : Int) < (m.consts.length : Int) := by omega
      have hq0 : (0 : Int) ≤ (q : Int) := by omega
      obtain ⟨x, hx⟩ : ∃ x, m.consts[q]? = some x := ⟨_, List.getElem?_eq_getElem hlt⟩
      obtain ⟨gx, ox, ax, cx, rfl, -, hgx, p0, p1, p2, p3, hwx⟩ := (hm.con.below (hBf wr hBr)).get hx
      obtain ⟨wz, wb, hWz, hWb, hbz, hbb, hxb, hz⟩ := zvbox wr (.int .i64 x.k) (.int .i64 x.n) (.string ⟨x.t.toArray⟩) (.slice ax x.l.length cx)
      obtain ⟨z0, z1, z2, z3, y0, y1, y2, y3, hlz⟩ := cells_k4 hz
      obtain ⟨c0, c1, c2, c3, -, -, -, -, hlc⟩ := cells_k4 hxb
      have hT := type13_any (hwx.below hbb) (hwt x (List.mem_of_getElem? hx))
      have hBb : Below w0.heap.size w0 wb := hBr.trans (hbb.mono hBr.size)
      have Hct : Hid (∀ (p : Nat) v, p < q → m.consts[p]? = some v → ctype v ≠ []) := hct
      have hxx : Hid (m.consts[q]? = some x) := hx
      clear hct hx hz hxb hwx
      go_wp2_with fail
      refine hT.mono ?_
      rintro e w2 ⟨rfl, hb2⟩
      have hB2 : Below w0.heap.size w0 w2 := hBb.trans (hb2.mono hBb.size)
      clear hT hWz hWb z0 z1 z2 z3 y0 y1 y2 y3 c0 c1 c2 c3 p0 p1 p2 p3
      by_cases hc : ctype x = []
      · have hpost := hno w2 hB2 (fun h => h.con x (List.mem_of_getElem? hxx.out) hc)
        rw [hc]
        clear hm hwt hno Hct hxx hc hcell hBf
        go_wp2
        go_ret
        exact hpost
      · obtain ⟨c, r, hcr⟩ : ∃ c r, ctype x = c :: r := by
          rcases h : ctype x with _ | ⟨c, r⟩
          · exact absurd h hc
          · exact ⟨c, r, rfl⟩
        have hnew : Hid (Below w0.heap.size w0 w2 ∧ ∀ (p : Nat) v, p < q + 1 → m.consts[p]? = some v → ctype v ≠ []) := ⟨hB2, fun p v hp hv => by
          by_cases e : p = q
          · subst e
            rw [hxx.out] at hv
            cases hv
            exact hc
          · exact Hct.out p v (by omega) hv⟩
        rw [hcr]
        clear hm hwt hno Hct hxx hc hcell hBf hcr
        go_wp2_with fail
        go_roundg (m.consts.length - (q + 1))
        case measure => omega
        case rel => exact ⟨q + 1, by omega, rfl, by go_num, hnew⟩
    · have hltI : ¬ (q : Int) < (m.consts.length : Int) := by omega
      have hcon : Hid (∀ v ∈ m.consts, ctype v ≠ []) := fun v hv => by
        obtain ⟨i, hi⟩ := List.mem_iff_getElem?.1 hv
        exact hct i v (by have := (List.getElem?_eq_some_iff.1 hi).1; omega) hi
      obtain ⟨k0, k1, k2⟩ := hcell wr hBr
      clear hct
      have hBr0 : Hid (Below w0.heap.size w0 wr) := hBr
      clear hBr
      go_wp2_with fail
      clear k0 k1
      go_loopg [43] m.funcs.length (fun gk i wr' => ∃ n : Nat, n ≤ m.funcs.length ∧ gk = m.funcs.length - n ∧ i = .int .i64 n ∧ Hid (Below w0.heap.size w0 wr' ∧ ∀ (k : Nat) g, k < n → m.funcs[k]? = some g → FuOk m.consts.length states m.funcs k g))
      case atStart => exact ⟨0, Nat.zero_le _, rfl, rfl, hBr0.out, fun k g hk => by omega⟩
      case round =>
        obtain ⟨n, hn, rfl, rfl, HI⟩ := hrel
        have hBr := HI.out.1
        have Hok : Hid (∀ (k : Nat) g, k < n → m.funcs[k]? = some g → FuOk m.consts.length states m.funcs k g) := HI.out.2
        clear HI hBr0
        by_cases hnlt : n < m.funcs.length
        rotate_left
        · have hnI : ¬ (n : Int) < (m.funcs.length : Int) := by omega
          have hrun : Run m states := ⟨⟨by omega, by omega⟩, ⟨by omega, by omega⟩, hcon.out, fun k g hk => Hok.out k g (by have := (List.getElem?_eq_some_iff.1 hk).1; omega) hk⟩
          have hpost : Ending.returned (.int .i64 0) = Ending.returned (.int .i64 vr) ∧ Below w.heap.size w wr := ⟨by rw [← hvr.out, vfy_ok hrun], hBf wr hBr⟩
          clear hm hwt hno hcell hBf hrun Hok hcon hBr
          go_wp2
          go_ret
          exact hpost
        have hnI : (n : Int) < (m.funcs.length : Int) := by omega
        have hn0 : (0 : Int) ≤ (n : Int) := by omega
        obtain ⟨f, hf⟩ : ∃ f, m.funcs[n]? = some f := ⟨_, List.getElem?_eq_getElem hnlt⟩
        obtain ⟨gf, of, ak, ck, haf, -, hgf, p0, p1, p2, p3, p4, hfn⟩ := (hm.fun_.since (Since.of_below (hBf wr hBr))).get hf
        subst haf
        obtain ⟨wz, wb, hWz, hWb, hbz, hbb, -, hxb, hz⟩ := fbox wr (.int .i64 f.params) (.int .i64 f.locals) (.int .i64 f.zero) (.int .i64 f.stack) (.slice ak f.code.length ck)
        obtain ⟨z0, z1, z2, z3, z4, y0, y1, y2, y3, y4, hlz⟩ := cells_k5 hz
        obtain ⟨c0, c1, c2, c3, c4, -, -, -, -, -, hlc⟩ := cells_k5 hxb
        have hBb : Below w0.heap.size w0 wb := hBr.trans (hbb.mono hBr.size)
        obtain ⟨k0, k1, k3⟩ := hcell wb hBb
        have hff : Hid (m.funcs[n]? = some f) := hf
        have hfnb := hfn.below hbb
        have hclen : f.code.length ≤ 9223372036854775807 := by obtain ⟨_, _, e, h1, h2⟩ := hfn.code.slice; cases e; omega
        clear hf hxb hz hfn
        by_cases n1 : f.params < 0
        · have hpost := hno wb hBb (fun h => by have := (h.fun_ n f hff.out).num; unfold NumOk at this; omega)
          clear hm hwt hno hcell hBf Hok hcon hfnb hBb hBr hff
          go_wp2
          go_ret
          exact hpost
        by_cases n2 : 8 < f.params
        · have hpost := hno wb hBb (fun h => by have := (h.fun_ n f hff.out).num; unfold NumOk at this; omega)
          clear hm hwt hno hcell hBf Hok hcon hfnb hBb hBr hff
          go_wp2
          go_ret
          exact hpost
        by_cases n3 : f.locals < f.params
        · have hpost := hno wb hBb (fun h => by have := (h.fun_ n f hff.out).num; unfold NumOk at this; omega)
          clear hm hwt hno hcell hBf Hok hcon hfnb hBb hBr hff
          go_wp2
          go_ret
          exact hpost
        by_cases n4 : 256 < f.locals
        · have hpost := hno wb hBb (fun h => by have := (h.fun_ n f hff.out).num; unfold NumOk at this; omega)
          clear hm hwt hno hcell hBf Hok hcon hfnb hBb hBr hff
          go_wp2
          go_ret
          exact hpost
        by_cases n5 : f.zero < 0
        · have hpost := hno wb hBb (fun h => by have := (h.fun_ n f hff.out).num; unfold NumOk at this; omega)
          clear hm hwt hno hcell hBf Hok hcon hfnb hBb hBr hff
          go_wp2
          go_ret
          exact hpost
        by_cases n6 : (m.consts.length : Int) ≤ f.zero
        · have hpost := hno wb hBb (fun h => by have := (h.fun_ n f hff.out).num; unfold NumOk at this; omega)
          clear hm hwt hno hcell hBf Hok hcon hfnb hBb hBr hff
          go_wp2
          go_ret
          exact hpost
        by_cases n7 : f.stack < 1
        · have hpost := hno wb hBb (fun h => by have := (h.fun_ n f hff.out).num; unfold NumOk at this; omega)
          clear hm hwt hno hcell hBf Hok hcon hfnb hBb hBr hff
          go_wp2
          go_ret
          exact hpost
        by_cases n8 : 256 < f.stack
        · have hpost := hno wb hBb (fun h => by have := (h.fun_ n f hff.out).num; unfold NumOk at this; omega)
          clear hm hwt hno hcell hBf Hok hcon hfnb hBb hBr hff
          go_wp2
          go_ret
          exact hpost
        by_cases n9 : (f.code.length : Int) < 1
        · have hpost := hno wb hBb (fun h => by have := (h.fun_ n f hff.out).num; unfold NumOk at this; omega)
          clear hm hwt hno hcell hBf Hok hcon hfnb hBb hBr hff
          go_wp2
          go_ret
          exact hpost
        by_cases n10 : 16384 < (f.code.length : Int)
        · have hpost := hno wb hBb (fun h => by have := (h.fun_ n f hff.out).num; unfold NumOk at this; omega)
          clear hm hwt hno hcell hBf Hok hcon hfnb hBb hBr hff
          go_wp2
          go_ret
          exact hpost
        have hnum : NumOk m.consts.length f := by unfold NumOk; omega
        have hBbH : Hid (Below w0.heap.size w0 wb) := hBb
        clear hBb hBr
        go_wp2_with fail
        clear hWz hWb z0 z1 z2 z3 z4 y0 y1 y2 y3 y4 c0 c1 c2 c3 c4 k0 k1 p0 p1 p2 p3 p4 n1 n2 n3 n4 n5 n6 n7 n8 n9 n10
        go_loopg [106] f.code.length (fun gk i wr' => ∃ j : Nat, j ≤ f.code.length ∧ gk = f.code.length - j ∧ i = .int .i64 j ∧ Hid (Below wb.heap.size wb wr' ∧ ∀ (k : Nat) i, k < j → f.code[k]? = some i → InOk m.consts.length states n f i))
        case atStart => exact ⟨0, Nat.zero_le _, rfl, rfl, Below.refl _ _, fun k i hk => by omega⟩
        case round =>
          obtain ⟨j, hj, rfl, rfl, HI⟩ := hrel
          have hBj := HI.out.1
          have Hin : Hid (∀ (k : Nat) i, k < j → f.code[k]? = some i → InOk m.consts.length states n f i) := HI.out.2
          clear HI
          have hBr : Below w0.heap.size w0 wr := hBbH.out.trans (hBj.mono hBbH.out.size)
          by_cases hjlt : j < f.code.length
          · have hjI : (j : Int) < (f.code.length : Int) := by omega
            have hj0 : (0 : Int) ≤ (j : Int) := by omega
            obtain ⟨i, hi⟩ : ∃ i, f.code[j]? = some i := ⟨_, List.getElem?_eq_getElem hjlt⟩
            obtain ⟨gc, oc, hak, -, hgc, ci0, ci1, -, -⟩ := ((hfnb.below hBj).code).get hi
            subst hak
            obtain ⟨wz, wi, hWz, hWi, hbz, hbi, -, hxi, hz⟩ := zibox wr (.int .i64 i.op) (.int .i64 i.a)
            obtain ⟨z0, z1, y0, y1, hlz⟩ := cells_k2 hz
            obtain ⟨u0, u1, -, -, hli⟩ := cells_k2 hxi
            have hBi : Below w0.heap.size w0 wi := hBr.trans (hbi.mono hBr.size)
            have hBji : Below wb.heap.size wb wi := hBj.trans (hbi.mono hBj.size)
            obtain ⟨k0, k1, k4⟩ := hcell wi hBi
            have hF := fits13_any (hm.below (hBf wi hBi)) (states := states) hff.out i
            have hii : Hid (f.code[j]? = some i) := hi
            clear hi hxi hz
            go_wp2_with fail
            refine hF.mono ?_
            rintro e w3 ⟨rfl, hb3⟩
            have hB3 : Below w0.heap.size w0 w3 := hBi.trans (hb3.mono hBi.size)
            have hBj3 : Below wb.heap.size wb w3 := hBji.trans (hb3.mono hBji.size)
            clear hF hWz hWi z0 z1 y0 y1 u0 u1 k0 k1 ci0 ci1
            cases hib : inB m.consts.length states n f i with
            | false =>
              have hpost := hno w3 hB3 (fun h => by have := (h.fun_ n f hff.out).ins i (List.mem_of_getElem? hii.out); unfold InOk at this; rw [hib] at this; cases this)
              clear hm hwt hno hcell hBf Hok hcon hfnb hBbH hBj hBr hBi hBji hB3 hBj3 Hin hii hff hib
              go_wp2
              go_ret
              exact hpost
            | true =>
              have hnew : Hid (Below wb.heap.size wb w3 ∧ ∀ (k : Nat) i, k < j + 1 → f.code[k]? = some i → InOk m.consts.length states n f i) := ⟨hBj3, fun k i' hk hi' => by
                by_cases e : k = j
                · subst e
                  rw [hii.out] at hi'
                  cases hi'
                  exact hib
                · exact Hin.out k i' (by omega) hi'⟩
              clear hm hwt hno hcell hBf Hok hcon hfnb hBbH hBj hBr hBi hBji hB3 hBj3 Hin hii hff hib
              go_wp2_with fail
              go_roundg (f.code.length - (j + 1))
              case measure => omega
              case rel => exact ⟨j + 1, by omega, rfl, by go_num, hnew⟩
          · have hjI : ¬ (j : Int) < (f.code.length : Int) := by omega
            have hall : ∀ i ∈ f.code, InOk m.consts.length states n f i := fun i hi => by
              obtain ⟨k, hk⟩ := List.mem_iff_getElem?.1 hi
              exact Hin.out k i (by have := (List.getElem?_eq_some_iff.1 hk).1; omega) hk
            have hio : InsOk m.funcs f := insOk_of (by omega) hnum hall (fun k g hk hg => by have := (Hok.out k g hk hg).num; unfold NumOk at this; omega)
            have hW := walk13_any (hm.below (hBf wr hBr)) hff.out hio
            obtain ⟨k0, k1, k4⟩ := hcell wr hBr
            clear hio Hin hBj
            go_wp2_with fail
            refine hW.mono ?_
            rintro e w3 ⟨⟨b, rfl, hb⟩, hb3⟩
            have hB3 : Below w0.heap.size w0 w3 := hBr.trans (hb3.mono hBr.size)
            have hbH : Hid (b = true ↔ WalkOk m.funcs f) := hb
            clear hW hb k0 k1
            cases b with
            | false =>
              have hpost := hno w3 hB3 (fun h => by have := hbH.out.2 (h.fun_ n f hff.out).walk; cases this)
              clear hm hwt hno hcell hBf Hok hcon hfnb hBbH hBr hB3 hbH hff hall hnum
              go_wp2
              go_ret
              exact hpost
            | true =>
              have hnew : Hid (Below w0.heap.size w0 w3 ∧ ∀ (k : Nat) g, k < n + 1 → m.funcs[k]? = some g → FuOk m.consts.length states m.funcs k g) := ⟨hB3, fun k g hk hg => by
                by_cases e : k = n
                · subst e
                  rw [hff.out] at hg
                  cases hg
                  exact ⟨hnum, hall, hbH.out.1 rfl⟩
                · exact Hok.out k g (by omega) hg⟩
              clear hm hwt hno hcell hBf Hok hcon hfnb hBbH hBr hB3 hbH hff hall hnum
              go_wp2_with fail
              go_roundg (m.funcs.length - (n + 1))
              case measure => omega
              case rel => exact ⟨n + 1, by omega, rfl, by go_num, hnew⟩
end Go.Proofs.Ytndahpcjkcihlaa
/- How much a value is: the statements' own count. -/
namespace Go.Proofs.Ytndahpcjkcihlaa
open Go.RowKit
set_option linter.unusedVariables false
set_option linter.unusedSimpArgs false

mutual
/-- Texts are no longer than a machine holds. -/
def SzV : V → Prop
  | .mk _ _ t l => t.length ≤ 281474976710656 ∧ SzVs l
def SzVs : List V → Prop
  | [] => True
  | v :: r => SzV v ∧ SzVs r
end
theorem SzVs.mem : ∀ {l : List V} {x : V}, SzVs l → x ∈ l → SzV x
  | a :: r, x, h, hx => by
    rw [SzVs] at h
    rcases List.mem_cons.1 hx with rfl | hx
    · exact h.1
    · exact SzVs.mem h.2 hx
theorem szV_eq (v : V) : SzV v ↔ v.t.length ≤ 281474976710656 ∧ SzVs v.l := by cases v; rw [SzV]; rfl
/-- The frame: all but the counter's block, and new memory. -/
structure But (g : Nat) (w w' : World) : Prop where
  os : w'.os = w.os
  tape : w'.tape = w.tape
  output : w'.output = w.output
  size : w.heap.size ≤ w'.heap.size
  block : ∀ k, k < w.heap.size → k ≠ g → w'.heap[k]? = w.heap[k]?
theorem But.refl (g : Nat) (w : World) : But g w w := ⟨rfl, rfl, rfl, Nat.le_refl _, fun _ _ _ => rfl⟩
theorem But.trans {g : Nat} {a b c : World} (h : But g a b) (k : But g b c) : But g a c := ⟨k.os.trans h.os, k.tape.trans h.tape, k.output.trans h.output, Nat.le_trans h.size k.size, fun i hi hg => (k.block i (by have := h.size; omega) hg).trans (h.block i hi hg)⟩
theorem But.of {g : Nat} {w w' : World} (h : Below w.heap.size w w') : But g w w' := ⟨h.os, h.tape, h.output, h.size, fun k hk _ => h.block k hk⟩
theorem But.set {w : World} {g o : Nat} (v : Value) : But g w (w.setCell ⟨g, o, none⟩ v) := ⟨rfl, rfl, rfl, by simp [World.setCell], fun k _ hk => Below.heap_setCell _ _ _ _ hk⟩
theorem But.drew {g : Nat} {a w : World} (h : But g a w) : But g a w.drew := ⟨h.os, h.tape, h.output, h.size, h.block⟩
theorem But.since {g : Nat} {w w' : World} (h : But g w w') : Since (fun k => k ≠ g) w w' := ⟨h.size, fun k h1 h2 => h.block k h2 h1⟩
/-- What counting does. -/
def CntPost (g m : Nat) (w : World) (v : V) (r : Ending) (w' : World) : Prop :=
  (if m + wt v ≤ 65536 then r = .returned (.bool false) ∧ w'.heap[g]? = some (.cells #[.int .i64 ((m + wt v : Nat) : Int)] 3 (0, 0)) else r = .returned (.bool true)) ∧ But g w w'
end Go.Proofs.Ytndahpcjkcihlaa
