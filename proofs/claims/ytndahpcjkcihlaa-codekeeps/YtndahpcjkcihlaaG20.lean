/- Texts of ours, joined: Kl, Vcc. -/
import Derived.Test.YtndahpcjkcihlaaG17
import Derived.Test.YtndahpcjkcihlaaG19
import Derived.Test.YtndahpcjkcihlaaG02
import Derived.Deep.LoopGhost
/- More than is played? The statements'. -/
namespace Go.Proofs.Ytndahpcjkcihlaa
open Go.RowKit
set_option linter.unusedVariables false
set_option linter.unusedSimpArgs false
attribute [local go_sem ↓] Go.wp_at_zero Go.wp_at_succ

def fsz : List Fu → Nat
  | [] => 0
  | f :: r => 1 + f.code.length + fsz r
def csz : List V → Nat
  | [] => 0
  | v :: r => 1 + v.t.length + v.l.length + csz r
theorem fsz_app : ∀ a b : List Fu, fsz (a ++ b) = fsz a + fsz b
  | [], b => by simp [fsz]
  | f :: r, b => by simp [fsz, fsz_app r b]; omega
theorem csz_app : ∀ a b : List V, csz (a ++ b) = csz a + csz b
  | [], b => by simp [csz]
  | f :: r, b => by simp [csz, csz_app r b]; omega
theorem fsz_take {l : List Fu} {q : Nat} {f : Fu} (h : l[q]? = some f) : fsz (l.take (q + 1)) = fsz (l.take q) + (1 + f.code.length) := by
  rw [List.take_add_one, h, fsz_app]; rfl
theorem csz_take {l : List V} {q : Nat} {v : V} (h : l[q]? = some v) : csz (l.take (q + 1)) = csz (l.take q) + (1 + v.t.length + v.l.length) := by
  rw [List.take_add_one, h, csz_app]; rfl
theorem fsz_len : ∀ l : List Fu, l.length ≤ fsz l
  | [] => Nat.le_refl _
  | f :: r => by have := fsz_len r; simp [fsz]; omega
theorem csz_len : ∀ l : List V, l.length ≤ csz l
  | [] => Nat.le_refl _
  | f :: r => by have := csz_len r; simp [csz]; omega
theorem fsz_mem : ∀ {l : List Fu} {f : Fu}, f ∈ l → 1 + f.code.length ≤ fsz l
  | a :: r, f, h => by
    rw [fsz]
    rcases List.mem_cons.1 h with rfl | h
    · omega
    · have := fsz_mem h; omega
theorem csz_mem : ∀ {l : List V} {v : V}, v ∈ l → 1 + v.t.length + v.l.length ≤ csz l
  | a :: r, f, h => by
    rw [csz]
    rcases List.mem_cons.1 h with rfl | h
    · omega
    · have := csz_mem h; omega
/-- No more than is played. -/
structure Small (m : Md) : Prop where
  f : fsz m.funcs ≤ 4096
  c : fsz m.funcs + csz m.consts ≤ 8192
  l : ∀ v ∈ m.consts, ∀ x ∈ v.l, x.l = []
theorem wts_small : ∀ {l : List V} {k : Nat}, (∀ x ∈ l, wt x ≤ k) → wts l ≤ l.length * k
  | [], k, h => by simp [wts]
  | a :: r, k, h => by
    have h1 := h a (by simp)
    have h2 := wts_small (l := r) (k := k) (fun x hx => h x (by simp [hx]))
    simp only [wts, List.length_cons, Nat.add_mul]
    omega
theorem szVs_mem : ∀ {l : List V} {x : V}, SzVs l → x ∈ l → SzV x
  | a :: r, x, h, hx => by
    rw [SzVs] at h
    rcases List.mem_cons.1 hx with rfl | hx
    · exact h.1
    · exact szVs_mem h.2 hx
theorem Small.wt {m : Md} (h : Small m) (hz : SzM m) : ∀ v ∈ m.consts, wt v ≤ 4611686018427387904 := fun v hv => by
  have h1 := csz_mem hv
  have h2 := h.c
  obtain ⟨h3, -⟩ := hz.con v hv
  have h4 : ∀ x ∈ v.l, Go.Proofs.Ytndahpcjkcihlaa.wt x ≤ 281474976710657 := fun x hx => by
    have e := h.l v hv x hx
    obtain ⟨k, n, t, l⟩ := v
    rw [SzV] at h3
    have h5 := szVs_mem h3.2 hx
    obtain ⟨k', n', t', l'⟩ := x
    rw [SzV] at h5
    have e' : l' = [] := e
    subst e'
    simp only [Go.Proofs.Ytndahpcjkcihlaa.wt, wts]
    omega
  have h6 := wts_small h4
  obtain ⟨k, n, t, l⟩ := v
  simp only [V.t, V.l] at h1 h6
  simp only [Go.Proofs.Ytndahpcjkcihlaa.wt]
  have h7 : l.length * 281474976710657 ≤ 8192 * 281474976710657 := Nat.mul_le_mul_right _ (by omega)
  omega
/-- What is answered. -/
def LgPost (m : Md) (w : World) (e : Ending) (w' : World) : Prop := (∃ b, e = .returned (.bool b) ∧ (b = false → Small m)) ∧ Below w.heap.size w w'
set_option maxRecDepth 100000 in
set_option maxHeartbeats 4000000 in
theorem large13_any {B : Nat → Prop} {m : Md} {ac af : Option Addr} {cc cf : Nat} {w : World} (hm : IsMd B w m (.slice ac m.consts.length cc) (.slice af m.funcs.length cf)) (hz : SzM m) :
    Calls Try.prog 8 #[.agg #[.slice ac m.consts.length cc, .slice af m.funcs.length cf]] w fun e w' => LgPost m w e w' := by
  obtain ⟨w0, hW0, hb0, hl0, hx0⟩ := box2 w (.slice ac m.consts.length cc) (.slice af m.funcs.length cf) 25
  obtain ⟨d0, d1, -, -, hld⟩ := cells_k2 hx0
  have hBf : ∀ wr, Below w0.heap.size w0 wr → Below w.heap.size w wr := fun wr hb => hb0.trans (hb.mono hb0.size)
  have hcell : ∀ wr, Below w0.heap.size w0 wr → wr.cell? ⟨w.heap.size, 0, none⟩ = some (.slice ac m.consts.length cc) ∧ w.heap.size < wr.heap.size := fun wr hb => by
    obtain ⟨q0, q1, -, -, q2⟩ := cells_k2 ((hb.block _ hld).trans hx0)
    exact ⟨q0, q2⟩
  have hyes : ∀ wr, Below w0.heap.size w0 wr → LgPost m w (.returned (.bool true)) wr := fun wr hb => ⟨⟨true, rfl, fun h => by cases h⟩, hBf wr hb⟩
  have hfl : m.funcs.length ≤ 9223372036854775807 := by obtain ⟨_, _, e, h1, h2⟩ := hm.fun_.slice; cases e; omega
  have hcl : m.consts.length ≤ 9223372036854775807 := by obtain ⟨_, _, e, h1, h2⟩ := hm.con.slice; cases e; omega
  clear hl0 hx0
  go_enter Try.func8, Try.ntmps8
  go_wp2_with fail
  clear hW0 d0 d1
  go_loopg [13, 3] m.funcs.length (fun gk i k wr => ∃ (q n : Nat), q ≤ m.funcs.length ∧ gk = m.funcs.length - q ∧ i = .int .i64 q ∧ k = .int .i64 n ∧ n ≤ 4096 ∧ Hid (n = fsz (m.funcs.take q) ∧ Below w0.heap.size w0 wr))
  case atStart => exact ⟨0, 0, Nat.zero_le _, rfl, rfl, rfl, by omega, by simp [fsz], Below.refl _ _⟩
  case round =>
    obtain ⟨q, n, hq, rfl, rfl, rfl, hn, HI⟩ := hrel
    have Hn : Hid (n = fsz (m.funcs.take q)) := HI.out.1
    have hBr := HI.out.2
    clear HI
    by_cases hlt : q < m.funcs.length
    · have hltI : (q : Int) < (m.funcs.length : Int) := by omega
      have hq0 : (0 : Int) ≤ (q : Int) := by omega
      obtain ⟨f, hf⟩ : ∃ f, m.funcs[q]? = some f := ⟨_, List.getElem?_eq_getElem hlt⟩
      obtain ⟨gf, of, ak, ck, haf, -, hgf, p0, p1, p2, p3, p4, hfn⟩ := (hm.fun_.since (Since.of_below (hBf wr hBr))).get hf
      subst haf
      obtain ⟨wz, wb, hWz, hWb, hbz, hbb, -, hxb, hzz⟩ := fbox wr (.int .i64 f.params) (.int .i64 f.locals) (.int .i64 f.zero) (.int .i64 f.stack) (.slice ak f.code.length ck)
      obtain ⟨z0, z1, z2, z3, z4, y0, y1, y2, y3, y4, hlz⟩ := cells_k5 hzz
      obtain ⟨c0, c1, c2, c3, c4, -, -, -, -, -, hlc⟩ := cells_k5 hxb
      have hBb : Below w0.heap.size w0 wb := hBr.trans (hbb.mono hBr.size)
      have hfar := hz.fun_ f (List.mem_of_getElem? hf)
      obtain ⟨N, hN⟩ : ∃ N : Nat, Hid (n + (1 + f.code.length) = N) := ⟨_, rfl⟩
      have hw1 : IntKind.i64.wrap (1 + (f.code.length : Int)) = 1 + (f.code.length : Int) := by rw [IntKind.wrap_i64]; omega
      have hw2 : IntKind.i64.wrap ((n : Int) + (1 + (f.code.length : Int))) = (N : Int) := by have := hN.out; rw [IntKind.wrap_i64]; omega
      have hNn : Hid (N = fsz (m.funcs.take (q + 1))) := by show _ = _; rw [fsz_take hf, ← Hn.out, hN.out]
      clear hf hfn hxb hzz hm hfar
      by_cases hbig : 4096 < N
      · have hbI : 4096 < (N : Int) := by omega
        have hpost := hyes wb hBb
        clear hyes hBf hcell hz
        go_wp2
        go_ret
        exact hpost
      · have hbI : ¬ 4096 < (N : Int) := by omega
        have hNle : Hid (N ≤ 4096) := by show N ≤ 4096; omega
        have hnew : Hid (N = fsz (m.funcs.take (q + 1)) ∧ Below w0.heap.size w0 wb) := ⟨hNn.out, hBb⟩
        clear hyes hBf hcell hz
        go_wp2_with fail
        go_roundg (m.funcs.length - (q + 1))
        case measure => omega
        case rel => exact ⟨q + 1, N, by omega, rfl, by go_num, rfl, hNle.out, hnew⟩
    · have hltI : ¬ (q : Int) < (m.funcs.length : Int) := by omega
      have Hn2 : Hid (n = fsz m.funcs) := by show _ = _; rw [Hn.out, List.take_of_length_le (by omega)]
      obtain ⟨k0, k1⟩ := hcell wr hBr
      have hBr0 : Hid (Below w0.heap.size w0 wr) := hBr
      clear Hn hBr
      go_wp2_with fail
      clear k0
      go_loopg [29, 3] m.consts.length (fun gk i k wr' => ∃ (q n : Nat), q ≤ m.consts.length ∧ gk = m.consts.length - q ∧ i = .int .i64 q ∧ k = .int .i64 n ∧ n ≤ 8192 ∧ Hid (fsz m.funcs ≤ 4096 ∧ n = fsz m.funcs + csz (m.consts.take q) ∧ Below w0.heap.size w0 wr' ∧ ∀ (p : Nat) v, p < q → m.consts[p]? = some v → ∀ x ∈ v.l, x.l = []))
      case atStart => exact ⟨0, n, Nat.zero_le _, rfl, rfl, rfl, by omega, by rw [← Hn2.out]; exact hn, by rw [Hn2.out]; simp [csz], hBr0.out, fun p v hp => by omega⟩
      case round =>
        obtain ⟨r, k, hr, rfl, rfl, rfl, hk, HI⟩ := hrel
        have Hk : Hid (fsz m.funcs ≤ 4096 ∧ k = fsz m.funcs + csz (m.consts.take r) ∧ ∀ (p : Nat) v, p < r → m.consts[p]? = some v → ∀ x ∈ v.l, x.l = []) := ⟨HI.out.1, HI.out.2.1, HI.out.2.2.2⟩
        have hBr := HI.out.2.2.1
        clear HI hBr0 Hn2
        by_cases hrlt : r < m.consts.length
        rotate_left
        · have hrI : ¬ (r : Int) < (m.consts.length : Int) := by omega
          have hs : Small m := by
            obtain ⟨a1, a2, a3⟩ := Hk.out
            rw [List.take_of_length_le (by omega)] at a2
            refine ⟨a1, by omega, fun v hv x hx => ?_⟩
            obtain ⟨i, hi⟩ := List.mem_iff_getElem?.1 hv
            exact a3 i v (by have := (List.getElem?_eq_some_iff.1 hi).1; omega) hi x hx
          have hpost : LgPost m w (.returned (.bool false)) wr := ⟨⟨false, rfl, fun _ => hs⟩, hBf wr hBr⟩
          clear hm hyes hBf hcell hz Hk hs hBr
          go_wp2
          go_ret
          exact hpost
        have hrI : (r : Int) < (m.consts.length : Int) := by omega
        have hr0 : (0 : Int) ≤ (r : Int) := by omega
        obtain ⟨x, hx⟩ : ∃ x, m.consts[r]? = some x := ⟨_, List.getElem?_eq_getElem hrlt⟩
        obtain ⟨gx, ox, ax, cx, hac, -, hgx, p0, p1, p2, p3, hwx⟩ := (hm.con.below (hBf wr hBr)).get hx
        subst hac
        obtain ⟨wz, wb, hWz, hWb, hbz, hbb, hxb, hzz⟩ := zvbox wr (.int .i64 x.k) (.int .i64 x.n) (.string ⟨x.t.toArray⟩) (.slice ax x.l.length cx)
        obtain ⟨z0, z1, z2, z3, y0, y1, y2, y3, hlz⟩ := cells_k4 hzz
        obtain ⟨c0, c1, c2, c3, -, -, -, -, hlc⟩ := cells_k4 hxb
        have hBb : Below w0.heap.size w0 wb := hBr.trans (hbb.mono hBr.size)
        obtain ⟨hsz, hfar⟩ := hz.con x (List.mem_of_getElem? hx)
        have htl : x.t.length ≤ 281474976710656 := by obtain ⟨a, b, c, d⟩ := x; rw [SzV] at hsz; exact hsz.1
        have hxl : x.l.length ≤ 140737488355328 := hfar
        obtain ⟨N, hN⟩ : ∃ N : Nat, Hid (k + (1 + x.t.length + x.l.length) = N) := ⟨_, rfl⟩
        have hw1 : IntKind.i64.wrap (1 + (x.t.length : Int)) = 1 + (x.t.length : Int) := by rw [IntKind.wrap_i64]; omega
        have hw2 : IntKind.i64.wrap (1 + (x.t.length : Int) + (x.l.length : Int)) = 1 + (x.t.length : Int) + (x.l.length : Int) := by rw [IntKind.wrap_i64]; omega
        have hw3 : IntKind.i64.wrap ((k : Int) + (1 + (x.t.length : Int) + (x.l.length : Int))) = (N : Int) := by have := hN.out; rw [IntKind.wrap_i64]; omega
        have hsize : (⟨x.t.toArray⟩ : ByteArray).size = x.t.length := by simp [ByteArray.size]
        have hNn : Hid (N = fsz m.funcs + csz (m.consts.take (r + 1))) := by show _ = _; have := Hk.out.2.1; have := hN.out; rw [csz_take hx]; omega
        have hxx : Hid (m.consts[r]? = some x) := hx
        have hwb := hwx.vs.below hbb
        clear hx hwx hxb hzz hsz hfar
        by_cases hbig : 8192 < N
        · have hbI : 8192 < (N : Int) := by omega
          have hpost := hyes wb hBb
          clear hyes hBf hcell hz hm
          go_wp2
          go_ret
          exact hpost
        have hbI : ¬ 8192 < (N : Int) := by omega
        have hNle : Hid (N ≤ 8192) := by show N ≤ 8192; omega
        have hBbH : Hid (Below w0.heap.size w0 wb) := hBb
        clear hBr hBb
        go_wp2_with fail
        clear hWz hWb z0 z1 z2 z3 y0 y1 y2 y3 c0 c1 c2 c3 p0 p1 p2 p3 hw1 hw2 hw3
        go_loopg [48] x.l.length (fun gk i wr' => ∃ (j : Nat), j ≤ x.l.length ∧ gk = x.l.length - j ∧ i = .int .i64 j ∧ Hid (Below wb.heap.size wb wr' ∧ ∀ (p : Nat) y, p < j → x.l[p]? = some y → y.l = []))
        case atStart => exact ⟨0, Nat.zero_le _, rfl, rfl, Below.refl _ _, fun p y hp => by omega⟩
        case round =>
          obtain ⟨j, hj, rfl, rfl, HI⟩ := hrel
          have hBj := HI.out.1
          have Hj : Hid (∀ (p : Nat) y, p < j → x.l[p]? = some y → y.l = []) := HI.out.2
          clear HI
          have hBr : Below w0.heap.size w0 wr := hBbH.out.trans (hBj.mono hBbH.out.size)
          by_cases hjlt : j < x.l.length
          · have hjI : (j : Int) < (x.l.length : Int) := by omega
            have hj0 : (0 : Int) ≤ (j : Int) := by omega
            obtain ⟨y, hy⟩ : ∃ y, x.l[j]? = some y := ⟨_, List.getElem?_eq_getElem hjlt⟩
            obtain ⟨gy, oy, ay, cy, hax, -, hgy, q0, q1, q2, q3, hwy⟩ := (hwb.below hBj).get hy
            subst hax
            obtain ⟨wz, wc, hWz, hWc, hbz, hbc, hxc, hzz⟩ := zvbox wr (.int .i64 y.k) (.int .i64 y.n) (.string ⟨y.t.toArray⟩) (.slice ay y.l.length cy)
            obtain ⟨z0, z1, z2, z3, y0, y1, y2, y3, hlz⟩ := cells_k4 hzz
            obtain ⟨c0, c1, c2, c3, -, -, -, -, hlc⟩ := cells_k4 hxc
            have hBc : Below w0.heap.size w0 wc := hBr.trans (hbc.mono hBr.size)
            have hBjc : Below wb.heap.size wb wc := hBj.trans (hbc.mono hBj.size)
            by_cases hyl : y.l.length = 0
            · have hyI : ¬ 0 < (y.l.length : Int) := by omega
              have hnew : Hid (Below wb.heap.size wb wc ∧ ∀ (p : Nat) y, p < j + 1 → x.l[p]? = some y → y.l = []) := ⟨hBjc, fun p z hp hz => by
                by_cases e : p = j
                · subst e
                  rw [hy] at hz
                  cases hz
                  exact List.length_eq_zero_iff.1 hyl
                · exact Hj.out p z (by omega) hz⟩
              clear hm hyes hBf hcell hz Hk Hj hy hwy hxc hzz hBr hBj hBc hBjc hBbH hwb hyl
              go_wp2_with fail
              go_roundg (x.l.length - (j + 1))
              case measure => omega
              case rel => exact ⟨j + 1, by omega, rfl, by go_num, hnew⟩
            · have hyI : 0 < (y.l.length : Int) := by omega
              have hpost := hyes wc hBc
              clear hm hyes hBf hcell hz Hk Hj hy hwy hxc hzz hBr hBj hBc hBjc hBbH hwb hyl
              go_wp2
              go_ret
              exact hpost
          · have hjI : ¬ (j : Int) < (x.l.length : Int) := by omega
            have hnew : Hid (fsz m.funcs ≤ 4096 ∧ N = fsz m.funcs + csz (m.consts.take (r + 1)) ∧ Below w0.heap.size w0 wr ∧ ∀ (p : Nat) v, p < r + 1 → m.consts[p]? = some v → ∀ x ∈ v.l, x.l = []) := ⟨Hk.out.1, hNn.out, hBr, fun p v hp hv y hy => by
              by_cases e : p = r
              · subst e
                rw [hxx.out] at hv
                cases hv
                obtain ⟨i, hi⟩ := List.mem_iff_getElem?.1 hy
                exact Hj.out i y (by have := (List.getElem?_eq_some_iff.1 hi).1; omega) hi
              · exact Hk.out.2.2 p v (by omega) hv y hy⟩
            clear hm hyes hBf hcell hz Hk Hj hBr hBj hBbH hwb hxx hNn
            go_wp2_with fail
            go_roundg (m.consts.length - (r + 1))
            case measure => omega
            case rel => exact ⟨r + 1, N, by omega, rfl, by go_num, rfl, hNle.out, hnew⟩
end Go.Proofs.Ytndahpcjkcihlaa
/- Three slices one behind the other: the library's Concat. -/
namespace Go.Proofs.Ytndahpcjkcihlaa
open Go.RowKit
set_option linter.unusedVariables false
set_option linter.unusedSimpArgs false

abbrev Any : Nat → Prop := fun _ => True
abbrev Lo (n : Nat) : Nat → Prop := fun k => k < n
abbrev Lob (B : Nat → Prop) (n : Nat) : Nat → Prop := fun k => B k ∧ k < n
/-- Those of B below n, and all from n on. -/
abbrev Up (B : Nat → Prop) (n : Nat) : Nat → Prop := fun k => (B k ∧ k < n) ∨ n ≤ k
theorem since_lo {B : Nat → Prop} {n : Nat} {w w' : World} (h : Below n w w') : Since (Lob B n) w w' := ⟨h.size, fun k h1 _ => h.block k h1.2⟩
theorem owns_vs {B : Nat → Prop} {w : World} {base n : Nat} {v : Value} {row : List Value} {l : List V} (h : w.ownsRow base 29 4 v n row) (hl : l.length = n) (ha : AllV B w l row) {B' : Nat → Prop} (hb : ∀ k, B k → k < w.heap.size → B' k) (hB' : ∀ k, base ≤ k → B' k) : IsVs B' w l v := by
  refine ⟨row, ⟨by rw [hl]; exact h.1, ?_⟩, ha.base hb⟩
  rcases h.2 with ⟨h1, h0⟩ | ⟨g, cap, cur, h1, h2, h3, h4, h5, h6, h7⟩
  · exact Or.inl ⟨Or.inl h1, by omega⟩
  · refine Or.inr ⟨g, 0, cap, by rw [hl]; exact h1, by omega, h5, hB' g h2, (Array.getElem?_eq_some_iff.1 h3).1, fun j u hj => ?_⟩
    rw [cell_block h3, Nat.zero_add]
    rw [← h7, List.getElem?_take] at hj
    split at hj
    · simpa using hj
    · cases hj
theorem AllV.ones {B : Nat → Prop} {w : World} : ∀ {l : List V} {row : List Value}, AllV B w l row → ∀ u ∈ row, u.oneCell' = true
  | [], row, h => by rw [AllV] at h; subst h; simp
  | a :: r, row, h => by
    rw [AllV] at h
    obtain ⟨c1, c2, rfl, h1, h2⟩ := h
    obtain ⟨sl, rfl, hw⟩ := isV_iff.1 h1
    obtain ⟨ao, cap, rfl, _, _⟩ := hw.vs.slice
    have ih := AllV.ones h2
    intro u hu
    rcases List.mem_append.1 hu with hu | hu
    · simp only [List.mem_cons, List.not_mem_nil, or_false] at hu
      rcases hu with rfl | rfl | rfl | rfl <;> rfl
    · exact ih u hu
/-- What append asks of a slice of values. -/
theorem IsVs.news {B : Nat → Prop} {w : World} {l : List V} {ad : Option Addr} {n c : Nat} (h : IsVs B w l (.slice ad n c)) : ∃ row, row.length = l.length * 4 ∧ AllV B w l row ∧ (ad = none → l.length = 0 ∧ c = 0) ∧ ∀ b, ad = some b → ∀ j u, row[j]? = some u → w.cell? (b.add j) = some u := by
  obtain ⟨row, ⟨h1, h2⟩, h3⟩ := h
  refine ⟨row, h1, h3, ?_, ?_⟩
  · rintro rfl
    rcases h2 with ⟨e | ⟨a, cap, e, _⟩, h0⟩ | ⟨g, o, cap, e, _⟩
    · simp only [Value.slice.injEq] at e; exact ⟨h0, e.2.2⟩
    · simp at e
    · simp at e
  · rintro b rfl j u hu
    rcases h2 with ⟨-, h0⟩ | ⟨g, o, cap, e, _, _, _, _, hc⟩
    · have := (List.getElem?_eq_some_iff.1 hu).1
      omega
    · simp only [Value.slice.injEq, Option.some.injEq] at e
      obtain ⟨rfl, _, _⟩ := e
      have := hc j u hu
      by_cases hj : j = 0
      · subst hj; simpa [Addr.add] using this
      · simpa [Addr.add, hj] using this
def catL (L : Nat → List V) : Nat → List V
  | 0 => []
  | q + 1 => catL L q ++ L q
theorem catL_len (L : Nat → List V) (q : Nat) : (catL L (q + 1)).length = (catL L q).length + (L q).length := by simp [catL]
theorem catL_le (L : Nat → List V) (q : Nat) (h : q ≤ 3) : (catL L q).length ≤ (catL L 3).length := by
  have h1 : (catL L 1).length = _ := catL_len L 0
  have h2 : (catL L 2).length = _ := catL_len L 1
  have h3 : (catL L 3).length = _ := catL_len L 2
  have : q = 0 ∨ q = 1 ∨ q = 2 ∨ q = 3 := by omega
  rcases this with rfl | rfl | rfl | rfl <;> omega
end Go.Proofs.Ytndahpcjkcihlaa
