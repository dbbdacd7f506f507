/- Texts of ours, joined: Kb, Kn. -/
import Derived.Test.YtndahpcjkcihlaaGreatG31
import Derived.Test.YtndahpcjkcihlaaGreatG19
/- A module's bytes: the document's. -/
namespace Go.Proofs.YtndahpcjkcihlaaGreat
open Go.RowKit
set_option linter.unusedVariables false
set_option linter.unusedSimpArgs false
attribute [local go_sem ↓] Go.wp_at_zero Go.wp_at_succ

theorem okV_w {B : Nat → Prop} {w : World} {v : V} {sl : Value} (h : IsW B w v sl) (hl : v.l = []) : OkV v := by
  obtain ⟨k, n, t, l⟩ := v
  have hl' : l = [] := hl
  subst hl'
  have := h.txt
  rw [OkV]
  exact ⟨h.nr, h.kr, by unfold maxLen at this; simp only [V.t] at this; omega, by simp, by rw [OkVs]; trivial⟩
theorem ints_of {w : World} {g : Nat} {f : Fu} (h : w.heap[g]? = some (.cells #[.int .i64 f.params, .int .i64 f.locals, .int .i64 f.zero, .int .i64 f.stack, .int .i64 f.code.length] 3 (0, 0))) : Ints w g (xsF f) := h
set_option maxRecDepth 100000 in
set_option maxHeartbeats 8000000 in
theorem bytes13_any {B : Nat → Prop} {m : Md} {ac af : Option Addr} {cc cf : Nat} {w : World} (hm : IsMd B w m (.slice ac m.consts.length cc) (.slice af m.funcs.length cf)) {states : Int} (hr : Run m states) (hlen : (encM m).length ≤ 800000) :
    Calls Tryz.prog 18 #[.agg #[.slice ac m.consts.length cc, .slice af m.funcs.length cf]] w fun e w' => OutN w (encM m) e w' := by
  obtain ⟨w0, hW0, hb0, hl0, hx0⟩ := box2 w (.slice ac m.consts.length cc) (.slice af m.funcs.length cf) 25
  have hld : w.heap.size < w0.heap.size := by omega
  have hBf : ∀ wr, Below w0.heap.size w0 wr → Below w.heap.size w wr := fun wr hb => hb0.trans (hb.mono hb0.size)
  have hcell : ∀ wr, Below w0.heap.size w0 wr → wr.cell? ⟨w.heap.size, 0, none⟩ = some (.slice ac m.consts.length cc) ∧ wr.cell? ⟨w.heap.size, 1, none⟩ = some (.slice af m.funcs.length cf) ∧ w.heap.size < wr.heap.size := fun wr hb => by
    obtain ⟨q0, q1, -, -, q2⟩ := cells_k2 ((hb.block _ hld).trans hx0)
    exact ⟨q0, q1, q2⟩
  obtain ⟨hfew1, hfew2⟩ := hr.few
  have hnum1 := num_len10 (n := m.consts.length) (by omega)
  have hnum2 := num_len10 (n := m.funcs.length) (by omega)
  have hLen : Hid ((num m.consts.length).length + (num m.funcs.length).length + (m.consts.flatMap eC).length + (m.funcs.flatMap eF).length ≤ 800000) := by
    show _ ≤ _
    have := hlen
    unfold encM at this
    simp only [List.length_append] at this
    omega
  have hP1 := putN (w := w0) (base := w0.heap.size) (a := none) (N := 0) (c := 0) (bs := []) ⟨rfl, World.ownsRow_nil _ _ _ _⟩ (by simp) (x := (m.consts.length : Int)) (by omega) (by unfold InR; omega)
  obtain ⟨k0, k1, k2⟩ := hcell w0 (Below.refl _ _)
  clear hl0 hx0 hlen
  go_enter Tryz.func18, Tryz.ntmps18
  go_wp2_with fail
  refine hP1.mono ?_
  rintro e w1 ⟨⟨a1, N1, c1, rfl, hO1⟩, hb1⟩
  have hP2 := putN hO1 (by simp [nInt]; omega) (x := (m.funcs.length : Int)) (by omega) (by unfold InR; omega)
  obtain ⟨j0, j1, j2⟩ := hcell w1 hb1
  clear hP1 hW0 k0 k1
  go_wp2_with fail
  refine hP2.mono ?_
  rintro e w2 ⟨⟨a2, N2, c2, rfl, hO2⟩, hb2⟩
  have hB2 : Below w0.heap.size w0 w2 := hb1.trans (hb2.mono hb1.size)
  obtain ⟨i0, i1, i2⟩ := hcell w2 hB2
  have hO2' : Hid (OwnN w2 w0.heap.size a2 N2 c2 (num m.consts.length ++ num m.funcs.length) ∧ Below w0.heap.size w0 w2) := ⟨(by simpa [nInt] using hO2 : OwnN w2 w1.heap.size a2 N2 c2 (num m.consts.length ++ num m.funcs.length)).low hb1.size, hB2⟩
  clear hP2 j0 j1 hO1 hO2 hb1 hb2 hB2
  go_wp2_with fail
  clear i0 i1
  go_loopg [3, 24] m.consts.length (fun gk s i wr => ∃ (q : Nat) (a : Option Addr) (N c : Nat), q ≤ m.consts.length ∧ gk = m.consts.length - q ∧ i = .int .i64 q ∧ s = .slice a N c ∧ Hid (OwnN wr w0.heap.size a N c (num m.consts.length ++ num m.funcs.length ++ (m.consts.take q).flatMap eC) ∧ Below w0.heap.size w0 wr))
  case atStart => exact ⟨0, a2, N2, c2, Nat.zero_le _, rfl, rfl, rfl, by simpa using hO2'.out.1, hO2'.out.2⟩
  case round =>
    obtain ⟨q, a, N, c, hq, rfl, rfl, rfl, HI⟩ := hrel
    obtain ⟨hO, hBr⟩ := HI.out
    clear HI hO2'
    by_cases hlt : q < m.consts.length
    · have hltI : (q : Int) < (m.consts.length : Int) := by omega
      have hq0 : (0 : Int) ≤ (q : Int) := by omega
      obtain ⟨x, hx⟩ : ∃ x, m.consts[q]? = some x := ⟨_, List.getElem?_eq_getElem hlt⟩
      obtain ⟨gx, ox, ax, cx, hac, -, hgx, p0, p1, p2, p3, hwx⟩ := (hm.con.below (hBf wr hBr)).get hx
      subst hac
      obtain ⟨wz, wb, hWz, hWb, hbz, hbb, hxb, hzz⟩ := zvbox wr (.int .i64 x.k) (.int .i64 x.n) (.string ⟨x.t.toArray⟩) (.slice ax x.l.length cx)
      obtain ⟨z0, z1, z2, z3, y0, y1, y2, y3, hlz⟩ := cells_k4 hzz
      obtain ⟨e0, e1, e2, e3, -, -, -, -, hlc⟩ := cells_k4 hxb
      obtain ⟨hxl, hxw, T, hS⟩ := ctype_shp (hr.con x (List.mem_of_getElem? hx))
      have hfl := flat_mem_le eC hx
      have hLo := hLen.out
      have hecl : (eC x).length = (num x.k.toNat).length + (enc x).length := by unfold eC; simp
      have hsb := hbb.size
      have hsr := hBr.size
      have hPu := putN (hO.keep hbb) (by simp only [List.length_append]; omega) (x := x.k) (shp_kpos hS) hwx.kr
      have hBy := rbytes_all _ x (Nat.lt_succ_self _) hxw (okV_w hwx hxl) (shp_tm hS)
      have hwb := hwx.below hbb
      have hxx : Hid (m.consts[q]? = some x) := hx
      have hLx : Hid ((num m.consts.length).length + (num m.funcs.length).length + ((m.consts.take q).flatMap eC).length + (num x.k.toNat).length + (enc x).length ≤ 800000) := by show _ ≤ _; omega
      clear hx hzz hS hfl hecl hLo hO hxl hxw hwx
      go_wp2_with fail
      refine hPu.mono ?_
      rintro e w3 ⟨⟨a3, N3, c3, rfl, hO3⟩, hb3⟩
      obtain ⟨f0, f1, f2, f3, -, -, -, -, hl3⟩ := cells_k4 ((hb3.block _ hlc).trans hxb)
      have hBc := hBy ax cx B w3 (hwb.below hb3)
      clear hPu hWz hWb z0 z1 z2 z3 y0 y1 y2 y3 e0 e1 e2 e3 p0 p1 p2 p3 hwb hBy
      go_wp2_with fail
      refine hBc.mono ?_
      rintro e w4 ⟨⟨a4, c4, rfl, hO4⟩, hb4⟩
      have hs3 := hb3.size
      have hs4 := hb4.size
      have hL1 := hLx.out
      obtain ⟨a6, N6, c6, w6, hr6, hO6, hb6⟩ := appN (hO3.keep hb4) (owns_b hO4) (by omega) (by simp only [List.length_append, nInt]; omega)
      have hnew : Hid (OwnN w6 w0.heap.size a6 N6 c6 (num m.consts.length ++ num m.funcs.length ++ (m.consts.take (q + 1)).flatMap eC) ∧ Below w0.heap.size w0 w6) := by
        refine ⟨?_, (hBr.trans (hbb.mono hsr)).trans ((hb3.mono (by omega)).trans ((hb4.mono (by omega)).trans (hb6.mono (by omega))))⟩
        rw [flat_take eC hxx.out]
        have h7 := hO6.low (base' := w0.heap.size) (by omega)
        simpa [eC, nInt, List.append_assoc] using h7
      generalize (enc x).length = ne at *
      clear hBc hO3 hO4 hO6 hb6 hL1 hLx hxx hbb hb3 hb4 hBr hcell hBf hm hr
      go_wp2_with (at_builtin; refine Lib.wpList_append_run _ rfl _ _ 26 26 rfl _ _ rfl rfl _ _ hr6 ?_)
      go_roundg (m.consts.length - (q + 1))
      case measure => omega
      case rel => exact ⟨q + 1, a6, N6, c6, by omega, rfl, by go_num, rfl, hnew⟩
    · have hltI : ¬ (q : Int) < (m.consts.length : Int) := by omega
      have hO0 : Hid (OwnN wr w0.heap.size a N c (num m.consts.length ++ num m.funcs.length ++ m.consts.flatMap eC) ∧ Below w0.heap.size w0 wr) := by
        rw [List.take_of_length_le (by omega)] at hO
        exact ⟨hO, hBr⟩
      obtain ⟨i0, i1, i3⟩ := hcell wr hBr
      obtain ⟨P0, hP0⟩ : ∃ P0, Hid (num m.consts.length ++ num m.funcs.length ++ m.consts.flatMap eC = P0) := ⟨_, rfl⟩
      have hPl : Hid (P0.length + (m.funcs.flatMap eF).length ≤ 800000) := by
        show _ ≤ _
        have := hLen.out
        rw [← hP0.out]
        simp only [List.length_append]
        omega
      rw [hP0.out] at hO0
      clear hO hBr
      go_wp2_with fail
      clear i0 i1
      go_loopg [3, 40] m.funcs.length (fun gk s i wr' => ∃ (n : Nat) (a : Option Addr) (N c : Nat), n ≤ m.funcs.length ∧ gk = m.funcs.length - n ∧ i = .int .i64 n ∧ s = .slice a N c ∧ Hid (OwnN wr' w0.heap.size a N c (P0 ++ (m.funcs.take n).flatMap eF) ∧ Below w0.heap.size w0 wr'))
      case atStart => exact ⟨0, a, N, c, Nat.zero_le _, rfl, rfl, rfl, by simpa using hO0.out.1, hO0.out.2⟩
      case round =>
        obtain ⟨n, a', N', c', hn, rfl, rfl, rfl, HI⟩ := hrel
        obtain ⟨hO, hBr⟩ := HI.out
        clear HI hO0
        by_cases hnlt : n < m.funcs.length
        rotate_left
        · have hnI : ¬ (n : Int) < (m.funcs.length : Int) := by omega
          have hpost : OutN w (encM m) (.returned (.slice a' N' c')) wr := by
            rw [List.take_of_length_le (by omega), ← hP0.out] at hO
            exact ⟨⟨a', N', c', rfl, hO.low (by omega)⟩, hBf wr hBr⟩
          clear hO hBr hcell hBf hm hr
          go_wp2
          go_ret
          exact hpost
        have hnI : (n : Int) < (m.funcs.length : Int) := by omega
        have hn0 : (0 : Int) ≤ (n : Int) := by omega
        obtain ⟨f, hf⟩ : ∃ f, m.funcs[n]? = some f := ⟨_, List.getElem?_eq_getElem hnlt⟩
        obtain ⟨gf, of, ak, ck, haf, -, hgf, p0, p1, p2, p3, p4, hfn⟩ := (hm.fun_.since (Since.of_below (hBf wr hBr))).get hf
        subst haf
        obtain ⟨wz, wb, hWz, hWb, hbz, hbb, -, hxb, hzz⟩ := fbox wr (.int .i64 f.params) (.int .i64 f.locals) (.int .i64 f.zero) (.int .i64 f.stack) (.slice ak f.code.length ck)
        obtain ⟨z0, z1, z2, z3, z4, y0, y1, y2, y3, y4, hlz⟩ := cells_k5 hzz
        obtain ⟨e0, e1, e2, e3, e4, -, -, -, -, -, hlc⟩ := cells_k5 hxb
        obtain ⟨wd, hWd⟩ : ∃ wd, wb.alloc (.cells #[.int .i64 f.params, .int .i64 f.locals, .int .i64 f.zero, .int .i64 f.stack, .int .i64 f.code.length] 3) = wd := ⟨_, rfl⟩
        have hbd : Below wb.heap.size wb wd := by rw [← hWd]; exact (Below.refl _ _).alloc (Nat.le_refl _) _
        have hxd : Ints wd wb.heap.size (xsF f) := by rw [← hWd]; exact ints_of (heap_new _ _)
        have hld2 : wb.heap.size < wd.heap.size := (Array.getElem?_eq_some_iff.1 hxd).1
        have hbrd : Below wr.heap.size wr wd := hbb.trans (hbd.mono hbb.size)
        have hfo := hr.fun_ n f hf
        have hfnum := hfo.num
        unfold NumOk at hfnum
        have hxs : ∀ x ∈ xsF f, 0 ≤ x ∧ InR x := fun x hx => by
          simp only [xsF, List.mem_cons, List.not_mem_nil, or_false] at hx
          unfold InR
          rcases hx with rfl | rfl | rfl | rfl | rfl <;> omega
        have hfll := flat_mem_le eF hf
        have hPll := hPl.out
        have hefl : (eF f).length = ((xsF f).flatMap nInt).length + (f.code.flatMap eI).length := by unfold eF; simp
        obtain ⟨Q0, hQ0⟩ : ∃ Q0, Hid (P0 ++ (m.funcs.take n).flatMap eF = Q0) := ⟨_, rfl⟩
        have hQl : Hid (Q0.length + ((xsF f).flatMap nInt).length + (f.code.flatMap eI).length ≤ 800000) := by
          show _ ≤ _
          rw [← hQ0.out]
          simp only [List.length_append]
          omega
        have hOd : Hid (OwnN wd w0.heap.size a' N' c' Q0 ∧ Below w0.heap.size w0 wd) := ⟨by rw [← hQ0.out]; exact hO.keep hbrd, hBr.trans (hbrd.mono hBr.size)⟩
        have hff : Hid (m.funcs[n]? = some f) := hf
        have hins : Hid (∀ i ∈ f.code, InOk m.consts.length states n f i) := hfo.ins
        have hcl4 : f.code.length ≤ 16384 := by omega
        have hfnd := hfn.below hbrd
        have hxbd := (hbd.block _ hlc).trans hxb
        clear hf hxb hzz hfn hO hBr hfo hfnum hfll hPll hefl hbb hbd hbrd
        go_wp2_with fail
        clear hWz hWb hWd z0 z1 z2 z3 z4 y0 y1 y2 y3 y4 e0 e1 e2 e3 e4 p0 p1 p2 p3 p4
        go_loopg [3, 57] 5 (fun gk s i wr' => ∃ (j : Nat) (a : Option Addr) (N c : Nat), j ≤ 5 ∧ gk = 5 - j ∧ i = .int .i64 j ∧ s = .slice a N c ∧ Hid (OwnN wr' w0.heap.size a N c (Q0 ++ ((xsF f).take j).flatMap nInt) ∧ Below wd.heap.size wd wr'))
        case atStart => exact ⟨0, a', N', c', Nat.zero_le _, rfl, rfl, rfl, by simpa using hOd.out.1, Below.refl _ _⟩
        case round =>
          obtain ⟨j, aj, Nj, cj, hj, rfl, rfl, rfl, HI⟩ := hrel
          obtain ⟨hO, hBj⟩ := HI.out
          clear HI
          by_cases hjlt : j < 5
          · have hjI : (j : Int) < 5 := by omega
            have hj0 : (0 : Int) ≤ (j : Int) := by omega
            obtain ⟨x, hx⟩ : ∃ x, (xsF f)[j]? = some x := ⟨_, List.getElem?_eq_getElem (by simp [xsF]; omega)⟩
            obtain ⟨xc, -, -⟩ := (hxd.keep (hBj.block _ hld2)).get hx
            have hjd : wb.heap.size < wr.heap.size := by have := hBj.size; omega
            obtain ⟨hx0, hxR⟩ := hxs x (List.mem_of_getElem? hx)
            have hLj := flat_take_le (xsF f) j nInt
            have hQ1 := hQl.out
            have hPu := putN hO (by simp only [List.length_append]; omega) hx0 hxR
            have hxx : Hid ((xsF f)[j]? = some x) := hx
            clear hx hLj hQ1 hxd
            go_wp2_with fail
            refine hPu.mono ?_
            rintro e w3 ⟨⟨a3, N3, c3, rfl, hO3⟩, hb3⟩
            have hnew : Hid (OwnN w3 w0.heap.size a3 N3 c3 (Q0 ++ ((xsF f).take (j + 1)).flatMap nInt) ∧ Below wd.heap.size wd w3) := by
              refine ⟨?_, hBj.trans (hb3.mono hBj.size)⟩
              rw [flat_take nInt hxx.out, ← List.append_assoc]
              exact hO3.low (by have := hBj.size; have := hOd.out.2.size; omega)
            clear hPu xc hO hO3 hb3 hBj hOd hcell hBf hm hr hfnd hxbd hxs
            go_wp2_with fail
            go_roundg (5 - (j + 1))
            case measure => omega
            case rel => exact ⟨j + 1, a3, N3, c3, by omega, rfl, by go_num, rfl, hnew⟩
          · have hjI : ¬ (j : Int) < 5 := by omega
            obtain ⟨R0, hR0⟩ : ∃ R0, Hid (Q0 ++ (xsF f).flatMap nInt = R0) := ⟨_, rfl⟩
            have hRl : Hid (R0.length + (f.code.flatMap eI).length ≤ 800000) := by
              show _ ≤ _
              rw [← hR0.out]
              have := hQl.out
              simp only [List.length_append]
              omega
            have hOr : Hid (OwnN wr w0.heap.size aj Nj cj R0 ∧ Below wd.heap.size wd wr) := by
              rw [List.take_of_length_le (by simp [xsF]; omega), hR0.out] at hO
              exact ⟨hO, hBj⟩
            obtain ⟨-, -, -, -, e4, -, -, -, -, -, hle4⟩ := cells_k5 ((hBj.block _ (by omega)).trans hxbd)
            clear hO hBj
            go_wp2_with fail
            clear e4
            go_loopg [3, 68] f.code.length (fun gk s i wr' => ∃ (j : Nat) (a : Option Addr) (N c : Nat), j ≤ f.code.length ∧ gk = f.code.length - j ∧ i = .int .i64 j ∧ s = .slice a N c ∧ Hid (OwnN wr' w0.heap.size a N c (R0 ++ (f.code.take j).flatMap eI) ∧ Below wd.heap.size wd wr'))
            case atStart => exact ⟨0, aj, Nj, cj, Nat.zero_le _, rfl, rfl, rfl, by simpa using hOr.out.1, hOr.out.2⟩
            case round =>
              obtain ⟨k, al, Nl, cl, hk, rfl, rfl, rfl, HI⟩ := hrel
              obtain ⟨hO, hBj⟩ := HI.out
              clear HI hOr
              by_cases hklt : k < f.code.length
              · have hkI : (k : Int) < (f.code.length : Int) := by omega
                have hk0 : (0 : Int) ≤ (k : Int) := by omega
                obtain ⟨i, hi⟩ : ∃ i, f.code[k]? = some i := ⟨_, List.getElem?_eq_getElem hklt⟩
                obtain ⟨gc, oc, hak, -, hgc, ci0, ci1, hio, hia⟩ := ((hfnd.below hBj).code).get hi
                subst hak
                obtain ⟨wz, wi, hWz, hWi, hbz, hbi, -, hxi, hzz⟩ := zibox wr (.int .i64 i.op) (.int .i64 i.a)
                obtain ⟨z0, z1, y0, y1, hlz⟩ := cells_k2 hzz
                obtain ⟨q0, q1, -, -, hli⟩ := cells_k2 hxi
                have hok := inOk_iff.1 (hins.out i (List.mem_of_getElem? hi))
                have hipos : 0 ≤ i.op ∧ 0 ≤ i.a := by
                  obtain ⟨h1, h2, h3, h4⟩ := hok
                  unfold inLow at h3
                  split at h3 <;> omega
                have hLk := flat_mem_le eI hi
                have heil : (eI i).length = (nInt i.op).length + (nInt i.a).length := by unfold eI nInt; simp
                have hR1 := hRl.out
                have hPu := putN (hO.keep hbi) (by simp only [List.length_append]; omega) hipos.1 hio
                have hPu2 : ∀ w3 a3 N3 c3, OwnN w3 wi.heap.size a3 N3 c3 (R0 ++ (f.code.take k).flatMap eI ++ nInt i.op) → Calls Tryz.prog 33 #[.slice a3 N3 c3, .int .i64 i.a] w3 fun r w' => OutN w3 (R0 ++ (f.code.take k).flatMap eI ++ nInt i.op ++ nInt i.a) r w' := fun w3 a3 N3 c3 h3 => putN h3 (by simp only [List.length_append]; omega) hipos.2 hia
                have hii : Hid (f.code[k]? = some i) := hi
                have hwd : w0.heap.size ≤ wr.heap.size := by have := hBj.size; have := hOd.out.2.size; omega
                clear hi hzz hok hipos hLk heil hR1 hO
                go_wp2_with fail
                refine hPu.mono ?_
                rintro e w3 ⟨⟨a3, N3, c3, rfl, hO3⟩, hb3⟩
                have hC2 := hPu2 w3 a3 N3 c3 hO3
                obtain ⟨t0, t1, -, -, hl3⟩ := cells_k2 ((hb3.block _ hli).trans hxi)
                clear hPu hPu2 hWz hWi z0 z1 y0 y1 q0 q1 ci0 ci1
                go_wp2_with fail
                refine hC2.mono ?_
                rintro e w4 ⟨⟨a4, N4, c4, rfl, hO4⟩, hb4⟩
                have hnew : Hid (OwnN w4 w0.heap.size a4 N4 c4 (R0 ++ (f.code.take (k + 1)).flatMap eI) ∧ Below wd.heap.size wd w4) := by
                  have s1 := hbi.size
                  have s2 := hb3.size
                  have s3 := hBj.size
                  refine ⟨?_, hBj.trans ((hbi.mono s3).trans ((hb3.mono (by omega)).trans (hb4.mono (by omega))))⟩
                  rw [flat_take eI hii.out]
                  have h5 := hO4.low (base' := w0.heap.size) (by omega)
                  simpa [eI, nInt, List.append_assoc] using h5
                clear hC2 t0 t1 hO3 hO4 hb3 hb4 hbi hBj hOd hcell hBf hm hr hfnd hxbd hxs hii hins
                go_wp2_with fail
                go_roundg (f.code.length - (k + 1))
                case measure => omega
                case rel => exact ⟨k + 1, a4, N4, c4, by omega, rfl, by go_num, rfl, hnew⟩
              · have hkI : ¬ (k : Int) < (f.code.length : Int) := by omega
                have hnew : Hid (OwnN wr w0.heap.size al Nl cl (P0 ++ (m.funcs.take (n + 1)).flatMap eF) ∧ Below w0.heap.size w0 wr) := by
                  refine ⟨?_, hOd.out.2.trans (hBj.mono hOd.out.2.size)⟩
                  rw [List.take_of_length_le (by omega), ← hR0.out, ← hQ0.out] at hO
                  rw [flat_take eF hff.out]
                  simpa [eF, List.append_assoc] using hO
                clear hO hBj hOd hcell hBf hm hr hfnd hxbd hxs hff hins hxd
                go_wp2_with fail
                go_roundg (m.funcs.length - (n + 1))
                case measure => omega
                case rel => exact ⟨n + 1, al, Nl, cl, by omega, rfl, by go_num, rfl, hnew⟩
end Go.Proofs.YtndahpcjkcihlaaGreat
/- How long a module's bytes are; Encode: the document's. -/
namespace Go.Proofs.YtndahpcjkcihlaaGreat
open Go.RowKit
set_option linter.unusedVariables false
set_option linter.unusedSimpArgs false
attribute [local go_sem ↓] Go.wp_at_zero Go.wp_at_succ

theorem num_le9 {n : Nat} (h : n ≤ 9223372036854775807) : (num n).length ≤ 9 := (num_len10 h).2
theorem eC_len {v : V} (ho : OkV v) (hl : v.l = []) (hk : v.k ≤ 5) : (eC v).length ≤ 27 * (1 + v.t.length + v.l.length) := by
  have h1 := enc_len v ho
  have h2 := num_le9 (n := v.k.toNat) (by omega)
  have h3 : wt v = 1 + v.t.length := by
    obtain ⟨k, n, t, l⟩ := v
    have hl' : l = [] := hl
    subst hl'
    simp [wt, wts, V.t]
  unfold eC
  simp only [List.length_append]
  omega
theorem eI_len {nc : Nat} {states : Int} {n : Nat} {f : Fu} {i : In} (h : InOk nc states n f i) (hf : NumOk nc f) (hn : n ≤ 32) (hc : nc ≤ 16384) (hs : states ≤ 32) : (eI i).length ≤ 18 := by
  obtain ⟨h1, h2, h3, h4⟩ := inOk_iff.1 h
  unfold NumOk at hf
  have h5 : inTop nc states n f i.op ≤ 1099511627777 := by
    unfold inTop
    repeat' split
    all_goals omega
  have h6 := num_le9 (n := i.op.toNat) (by omega)
  have h7 := num_le9 (n := i.a.toNat) (by omega)
  unfold eI
  simp only [List.length_append]
  omega
theorem flat_len {α : Type} {l : List α} {g : α → List UInt8} {k : Nat} (h : ∀ x ∈ l, (g x).length ≤ k) : (l.flatMap g).length ≤ l.length * k := by
  induction l with
  | nil => simp
  | cons a r ih =>
    have h1 := h a (by simp)
    have h2 := ih (fun x hx => h x (by simp [hx]))
    simp only [List.flatMap_cons, List.length_append, List.length_cons, Nat.add_mul]
    omega
theorem eF_len {nc : Nat} {states : Int} {fs : List Fu} {n : Nat} {f : Fu} (h : FuOk nc states fs n f) (hn : n ≤ 32) (hc : nc ≤ 16384) (hs : states ≤ 32) : (eF f).length ≤ 45 * (1 + f.code.length) := by
  have h1 : (f.code.flatMap eI).length ≤ f.code.length * 18 := flat_len (fun i hi => eI_len (h.ins i hi) h.num hn hc hs)
  have hf := h.num
  unfold NumOk at hf
  have h2 : ((xsF f).flatMap nInt).length ≤ (xsF f).length * 9 := flat_len (fun x hx => by
    simp only [xsF, List.mem_cons, List.not_mem_nil, or_false] at hx
    unfold nInt
    refine num_le9 ?_
    rcases hx with rfl | rfl | rfl | rfl | rfl <;> omega)
  have h3 : (xsF f).length = 5 := rfl
  unfold eF
  simp only [List.length_append]
  omega
theorem cs_len : ∀ {l : List V}, (∀ v ∈ l, (eC v).length ≤ 27 * (1 + v.t.length + v.l.length)) → (l.flatMap eC).length ≤ 27 * csz l
  | [], h => by simp [csz]
  | a :: r, h => by
    have h1 := h a (by simp)
    have h2 := cs_len (l := r) (fun x hx => h x (by simp [hx]))
    simp only [List.flatMap_cons, List.length_append, csz]
    omega
theorem fs_len : ∀ {l : List Fu}, (∀ f ∈ l, (eF f).length ≤ 45 * (1 + f.code.length)) → (l.flatMap eF).length ≤ 45 * fsz l
  | [], h => by simp [fsz]
  | a :: r, h => by
    have h1 := h a (by simp)
    have h2 := fs_len (l := r) (fun x hx => h x (by simp [hx]))
    simp only [List.flatMap_cons, List.length_append, fsz]
    omega
/-- A module's bytes are not too many. -/
theorem encM_len {m : Md} {states : Int} (hr : Run m states) (ho : ∀ v ∈ m.consts, OkV v) (hc : csz m.consts ≤ 10000) (hf : fsz m.funcs ≤ 10000) : (encM m).length ≤ 800000 := by
  have h1 := cs_len (l := m.consts) (fun v hv => by
    obtain ⟨hl, -, T, hS⟩ := ctype_shp (hr.con v hv)
    refine eC_len (ho v hv) hl ?_
    have := hS.kind
    rw [this]
    cases T <;> simp [kd])
  have hst := hr.st
  have hfw := hr.few
  have h2 := fs_len (l := m.funcs) (fun f hf => by
    obtain ⟨i, hi⟩ := List.mem_iff_getElem?.1 hf
    have hil := (List.getElem?_eq_some_iff.1 hi).1
    exact eF_len (hr.fun_ i f hi) (by omega) (by omega) (by omega))
  have h3 := num_le9 (n := m.consts.length) (by omega)
  have h4 := num_le9 (n := m.funcs.length) (by omega)
  unfold encM
  simp only [List.length_append]
  omega
theorem okVs_w {B : Nat → Prop} {w : World} {l : List V} {ao : Option Addr} {n cap : Nat} (h : IsVs B w l (.slice ao n cap)) (hl : ∀ v ∈ l, v.l = []) : ∀ v ∈ l, OkV v := fun v hv => by
  obtain ⟨i, hi⟩ := List.mem_iff_getElem?.1 hv
  obtain ⟨g, o, ax, cx, _, _, _, _, _, _, _, hw⟩ := h.get hi
  exact okV_w hw (hl v hv)
open Classical in
/-- What Encode answers. -/
noncomputable def encE (m : Md) (states : Int) : List UInt8 × Int := if Run m states then (encM m, 0) else ([], 40)
def OutE (w : World) (x : List UInt8 × Int) (r : Ending) (w' : World) : Prop := (∃ a N c, r = .returned (.tuple #[.slice a N c, .int .i64 x.2]) ∧ OwnN w' w.heap.size a N c x.1) ∧ Below w.heap.size w w'
set_option maxRecDepth 100000 in
set_option maxHeartbeats 4000000 in
theorem encode13_any {B : Nat → Prop} {m : Md} {ac af : Option Addr} {cc cf : Nat} {w : World} (hm : IsMd B w m (.slice ac m.consts.length cc) (.slice af m.funcs.length cf)) (hwt : ∀ v ∈ m.consts, wt v ≤ 4611686018427387904) (hc : csz m.consts ≤ 10000) (hf : fsz m.funcs ≤ 10000) (states : Int) :
    Calls Tryz.prog 7 #[.agg #[.slice ac m.consts.length cc, .slice af m.funcs.length cf], .int .i64 states] w fun e w' => OutE w (encE m states) e w' := by
  obtain ⟨w0, hW0, hb0, hl0, hx0⟩ := box2 w (.slice ac m.consts.length cc) (.slice af m.funcs.length cf) 25
  have hV := verify13_any (hm.below hb0) hwt states
  obtain ⟨k0, k1, -, -, k2⟩ := cells_k2 hx0
  by_cases hr : Run m states
  · have hE : encE m states = (encM m, 0) := by unfold encE; rw [if_pos hr]
    rw [hE]
    rw [vfy_ok hr] at hV
    have hlen := encM_len hr (okVs_w hm.con (fun v hv => (ctype_shp (hr.con v hv)).1)) hc hf
    have hBy : ∀ w2, Below w0.heap.size w0 w2 → Calls Tryz.prog 18 #[.agg #[.slice ac m.consts.length cc, .slice af m.funcs.length cf]] w2 fun e w' => OutN w2 (encM m) e w' := fun w2 h => bytes13_any ((hm.below hb0).below h) hr hlen
    clear hm hr hE hwt hl0
    go_enter Tryz.func7, Tryz.ntmps7
    go_wp2_with fail
    refine hV.mono ?_
    rintro e w1 ⟨rfl, hb1⟩
    obtain ⟨j0, j1, -, -, j2⟩ := cells_k2 ((hb1.block _ k2).trans hx0)
    have hC := hBy w1 hb1
    clear hV hBy hW0 k0 k1 hx0
    go_wp2_with fail
    refine hC.mono ?_
    rintro e w2 ⟨⟨a, N, c, rfl, hO⟩, hb2⟩
    have hs0 := hb0.size
    have hs1 := hb1.size
    have hpost : OutE w (encM m, 0) (.returned (.tuple #[.slice a N c, .int .i64 0])) w2 := ⟨⟨a, N, c, rfl, hO.low (by omega)⟩, hb0.trans ((hb1.mono hs0).trans (hb2.mono (by omega)))⟩
    clear hC j0 j1 hO
    go_wp2
    go_ret2
    exact hpost
  · have hE : encE m states = ([], 40) := by unfold encE; rw [if_neg hr]
    rw [hE]
    rw [vfy_no hr] at hV
    clear hm hr hE hwt hl0
    go_enter Tryz.func7, Tryz.ntmps7
    go_wp2_with fail
    refine hV.mono ?_
    rintro e w1 ⟨rfl, hb1⟩
    have hpost : OutE w ([], 40) (.returned (.tuple #[.slice none 0 0, .int .i64 40])) w1 := ⟨⟨none, 0, 0, rfl, rfl, World.ownsRow_nil _ _ _ _⟩, hb0.trans (hb1.mono hb0.size)⟩
    clear hV hW0 k0 k1 hx0
    go_wp2
    go_ret2
    exact hpost
end Go.Proofs.YtndahpcjkcihlaaGreat
