/- Texts of ours, joined: Jn. -/
import Derived.Test.YtndahpcjkcihlaaG40
/- Encode: the program's. -/
namespace Go.Proofs.Ytndahpcjkcihlaa
open Go.RowKit
set_option linter.unusedVariables false
set_option linter.unusedSimpArgs false
attribute [local go_sem ↓] Go.wp_at_zero Go.wp_at_succ

/-- Bytes behind those of one's own; no other block is turned. -/
theorem appG {w : World} {base : Nat} {a : Option Addr} {N c : Nat} {bs ys : List UInt8} {B : Nat → Prop} {a5 : Option Addr} {n5 c5 : Nat} (h : OwnN w base a N c bs) (hy : IsB B w (.slice a5 n5 c5) ys) (hb : base ≤ w.heap.size) (hl : bs.length + ys.length ≤ 90000000) : ∃ a6 N6 c6 w6, (Builtin.append_ #[34, 34] 34 #[.slice a N c, .slice a5 n5 c5]).run Try.prog w = .ok (.slice a6 N6 c6) w6 ∧ OwnN w6 base a6 N6 c6 (bs ++ ys) ∧ Below base w w6 ∧ w.grownBy w6 (Value.slice a N c).ownBlock := by
  obtain ⟨rfl, ho⟩ := h
  have hn5 := hy.len
  subst hn5
  obtain ⟨n1, n2⟩ := hy.news
  obtain ⟨a6, c6, w6, hr, ho6, hb6, hg6⟩ := app_run Try.underlying34 byteInfo rfl (by decide) 34 (news := c8 ys) ho n1 (by rw [c8_len]; omega) n2 (c8_one _) (by omega) (by decide) hb
  refine ⟨a6, bs.length + ys.length, c6, w6, hr, ⟨by simp, ?_⟩, hb6, hg6⟩
  show w6.ownsRow base _ 1 (.slice a6 (bs ++ ys).length c6) (bs ++ ys).length (c8 (bs ++ ys))
  rw [List.length_append, c8_append]
  exact ho6
theorem OwnN.own_lt {w : World} {base : Nat} {a : Option Addr} {N c : Nat} {bs : List UInt8} (h : OwnN w base a N c bs) {k : Nat} (e : (Value.slice a N c).ownBlock = some k) : k < w.heap.size := by
  obtain ⟨rfl, ho⟩ := h
  exact (World.ownsRow.lt ho k e).2
theorem encM_pre (m : Md) : encM m = (num m.consts.length ++ num m.funcs.length) ++ m.consts.flatMap eC ++ m.funcs.flatMap eF := rfl
theorem constK {v : V} (h : ctype v ≠ []) : 0 ≤ v.k ∧ v.k ≤ 5 := by
  obtain ⟨-, -, T, hS⟩ := ctype_shp h
  rw [hS.kind]
  cases T <;> simp [kd]
theorem nums1 (x : Int) : nums [x] = num x.toNat := by simp [nums]
theorem nums2 (x y : Nat) : nums [(x : Int), (y : Int)] = num x ++ num y := by simp [nums]
theorem xsN_inR {B : Nat → Prop} {w : World} {f : Fu} {sl : Value} (h : IsFn B w f sl) (hk : f.code.length ≤ 16384) : ∀ x ∈ xsN f, InR x := by
  intro x hx
  unfold xsN xsF at hx
  rcases List.mem_append.1 hx with hx | hx
  · simp only [List.mem_cons, List.not_mem_nil, or_false] at hx
    rcases hx with rfl | rfl | rfl | rfl | rfl
    · exact h.p
    · exact h.l
    · exact h.z
    · exact h.s
    · unfold InR; omega
  · obtain ⟨i, hi, hx⟩ := List.mem_flatMap.1 hx
    have := h.code.rng i hi
    simp only [inN, List.mem_cons, List.not_mem_nil, or_false] at hx
    rcases hx with rfl | rfl
    · exact this.1
    · exact this.2
set_option maxRecDepth 100000 in
set_option maxHeartbeats 8000000 in
theorem lencode_any {B : Nat → Prop} {m : Md} {ac af : Option Addr} {cc cf : Nat} {w : World} (hm : IsMd B w m (.slice ac m.consts.length cc) (.slice af m.funcs.length cf)) (hfit : Fit m) (states : Int) (hlen0 : Run m states → (encM m).length ≤ 80000000) :
    Calls Try.prog 13 #[.agg #[.slice ac m.consts.length cc, .slice af m.funcs.length cf], .int .i64 states] w fun e w' => OutE w (encE m states) e w' := by
  obtain ⟨w0, hW0, hb0, hl0, hx0⟩ := box2 w (.slice ac m.consts.length cc) (.slice af m.funcs.length cf) 25
  obtain ⟨d0, d1, -, -, hld⟩ := cells_k2 hx0
  have hV := verify_any (hm.below hb0) hfit states
  have hcell : ∀ wr, Below w0.heap.size w0 wr → wr.cell? ⟨w.heap.size, 0, none⟩ = some (.slice ac m.consts.length cc) ∧ wr.cell? ⟨w.heap.size, 1, none⟩ = some (.slice af m.funcs.length cf) ∧ w.heap.size < wr.heap.size := fun wr hb => by
    obtain ⟨q0, q1, -, -, q2⟩ := cells_k2 ((hb.block _ hld).trans hx0)
    exact ⟨q0, q1, q2⟩
  have hBf : ∀ wr, Below w0.heap.size w0 wr → Below w.heap.size w wr := fun wr hb => hb0.trans (hb.mono hb0.size)
  clear hl0 hx0
  by_cases hrun : Run m states
  rotate_left
  · rw [vfy_no hrun] at hV
    have hx : encE m states = ([], 40) := by unfold encE; rw [if_neg hrun]
    rw [hx]
    clear hm hfit hrun hx hcell hlen0
    go_enter Try.func13, Try.ntmps13
    go_wp2_with fail
    refine hV.mono ?_
    rintro e w1 ⟨rfl, hb1⟩
    clear hV
    go_wp2
    go_ret2
    exact ⟨⟨none, 0, 0, rfl, rfl, World.ownsRow_nil _ _ _ _⟩, hBf _ hb1⟩
  rw [vfy_ok hrun] at hV
  have hx : encE m states = (encM m, 0) := by unfold encE; rw [if_pos hrun]
  rw [hx]
  clear hx
  have hok : ∀ v ∈ m.consts, OkV v := okVs_w hm.con (fun v hv => (ctype_shp (hrun.con v hv)).1)
  have hlen := hlen0 hrun
  have hfew := hrun.few
  clear hlen0
  obtain ⟨bM, hbM⟩ : ∃ bM, Hid (encM m = bM) := ⟨_, rfl⟩
  rw [hbM.out]
  go_enter Try.func13, Try.ntmps13
  go_wp2_with fail
  refine hV.mono ?_
  rintro e w1 ⟨rfl, hb1⟩
  obtain ⟨k0, k1, k2⟩ := hcell w1 hb1
  obtain ⟨w2, hW2, hb2, hl2, hx2⟩ := box2 w1 (iV (m.consts.length : Int)) (iV (m.funcs.length : Int)) 3
  have hP := put_own (cx := 2) (intsAt2 hx2) (fun x hx => by simp at hx; rcases hx with rfl | rfl <;> (unfold InR; omega)) (by simp)
  rw [nums2] at hP
  have hB2 : Below w0.heap.size w0 w2 := hb1.trans (hb2.mono hb1.size)
  clear hV d0 d1 hl2 hx2
  simp only [List.length_cons, List.length_nil, Nat.zero_add, Nat.reduceAdd] at hP
  go_wp2_with fail
  refine hP.mono ?_
  rintro e w3 ⟨⟨a3, N3, c3, rfl, ho3⟩, hb3⟩
  have hB3 : Below w0.heap.size w0 w3 := hB2.trans (hb3.mono hB2.size)
  have hoH : Hid (Below w0.heap.size w0 w3 ∧ OwnN w3 w0.heap.size a3 N3 c3 (num m.consts.length ++ num m.funcs.length)) := ⟨hB3, ho3.low hB2.size⟩
  clear hP ho3 hW2 k0 k1 hb2 hb1 hB2 hb3
  obtain ⟨k0, k1, k3⟩ := hcell w3 hB3
  clear hB3
  go_wp2_with fail
  clear k0 k1 hW0
  go_loopg [7, 31] m.consts.length (fun gk b i wr => ∃ (q : Nat) (a : Option Addr) (N c : Nat), q ≤ m.consts.length ∧ gk = m.consts.length - q ∧ i = .int .i64 q ∧ b = .slice a N c ∧ Hid (Below w0.heap.size w0 wr ∧ OwnN wr w0.heap.size a N c (num m.consts.length ++ num m.funcs.length ++ (m.consts.take q).flatMap eC)))
  case atStart => exact ⟨0, a3, N3, c3, Nat.zero_le _, rfl, rfl, rfl, hoH.out.1, by simpa using hoH.out.2⟩
  case round =>
    obtain ⟨q, a, N, c, hq, rfl, rfl, rfl, HI⟩ := hrel
    obtain ⟨hBr, hown⟩ := HI.out
    clear HI hoH
    by_cases hlt : q < m.consts.length
    · have hltI : (q : Int) < (m.consts.length : Int) := by omega
      have hq0 : (0 : Int) ≤ (q : Int) := by omega
      obtain ⟨x, hx⟩ : ∃ x, m.consts[q]? = some x := ⟨_, List.getElem?_eq_getElem hlt⟩
      have hmem := List.mem_of_getElem? hx
      have hct := hrun.con x hmem
      obtain ⟨gx, ox, ax, cx, hac, -, hgx, p0, p1, p2, p3, hwx⟩ := (hm.con.below (hBf wr hBr)).get hx
      subst hac
      obtain ⟨wz, wb, hWz, hWb, hbz, hbb, hxb, hz⟩ := zvbox wr (.int .i64 x.k) (.int .i64 x.n) (.string ⟨x.t.toArray⟩) (.slice ax x.l.length cx)
      obtain ⟨z0, z1, z2, z3, y0, y1, y2, y3, hlz⟩ := cells_k4 hz
      obtain ⟨c0, c1, c2, c3, -, -, -, -, hlc⟩ := cells_k4 hxb
      have hwt := hfit.wt x hmem
      have hTy : ∀ w', Below wb.heap.size wb w' → Calls Try.prog 9 #[.agg #[.int .i64 x.k, .int .i64 x.n, .string ⟨x.t.toArray⟩, .slice ax x.l.length cx]] w' fun e w'' => e = .returned (.string ⟨(ctype x).toArray⟩) ∧ Below w'.heap.size w' w'' := fun w' hb => ctype_any ((hwx.below hbb).below hb) hwt
      have hEn : ∀ w', Below wb.heap.size wb w' → Calls Try.prog 25 #[.agg #[.int .i64 x.k, .int .i64 x.n, .string ⟨x.t.toArray⟩, .slice ax x.l.length cx], .string ⟨(ctype x).toArray⟩] w' fun e w'' => (∃ a c, e = .returned (.tuple #[.slice a (enc x).length c, .int .i64 0]) ∧ Own8 w'' w'.heap.size a c (enc x)) ∧ Below w'.heap.size w' w'' := fun w' hb => by
        have h1 := encode_any (y := ctype x) (by have := ctype_len x; omega) ((hwx.below hbb).below hb) hwt
        rw [encR_const hct] at h1
        exact h1
      have hbnd : (num m.consts.length ++ num m.funcs.length ++ (m.consts.take q).flatMap eC).length + ((num x.k.toNat).length + (enc x).length) ≤ 80000000 := by
        have h1 := flat_mem_le eC hx
        have h2 : (eC x).length = (num x.k.toNat).length + (enc x).length := by simp [eC]
        rw [encM_pre] at hlen
        simp only [List.length_append] at hlen ⊢
        omega
      have hxk := constK hct
      have hnext : Hid ((m.consts.take (q + 1)).flatMap eC = (m.consts.take q).flatMap eC ++ eC x) := flat_take eC hx
      have hlr : w0.heap.size ≤ wr.heap.size := hBr.size
      have hBb : Below w0.heap.size w0 wb := hBr.trans (hbb.mono hBr.size)
      have hownb : OwnN wb w0.heap.size a N c (num m.consts.length ++ num m.funcs.length ++ (m.consts.take q).flatMap eC) := hown.keep hbb
      have hol : ∀ k, (Value.slice a N c).ownBlock = some k → k < wb.heap.size := fun k e => hownb.own_lt e
      clear hx hwx hz hxb hok hm hcell hBf hrun hfit hct
      generalize ctype x = ct at *
      go_wp2_with fail
      clear hWz hWb z0 z1 z2 z3 y0 y1 y2 y3 p0 p1 p2 p3
      go_region_held3 (fun w' => w'.cell? ⟨wr.heap.size, 0, none⟩ = some (.int .i64 x.k) ∧ w'.cell? ⟨wr.heap.size, 1, none⟩ = some (.int .i64 x.n) ∧ w'.cell? ⟨wr.heap.size, 2, none⟩ = some (.string ⟨x.t.toArray⟩) ∧ w'.cell? ⟨wr.heap.size, 3, none⟩ = some (.slice ax x.l.length cx)) (go_keep)
        (first | (go_at_call 9; refine (hTy _ (Below.refl _ _).drew).mono ?_; rintro e w3' ⟨rfl, hb3⟩; replace hb3 := below_undrew hb3; obtain ⟨f9, -⟩ := bcell hb3; have hl3 := Nat.lt_of_lt_of_le hlc hb3.size) | (go_at_call 25; refine (hEn _ hb3).mono ?_; rintro e w4 ⟨⟨a4, c4, rfl, ho4⟩, hb4⟩; obtain ⟨f10, -⟩ := bcell hb4))
      rename_i hHeld
      obtain ⟨q0, -, -, -⟩ := hHeld
      have hl4 : wr.heap.size < w4.heap.size := Nat.lt_of_lt_of_le hl3 hb4.size
      have hb34 : Below wb.heap.size wb w4 := hb3.trans (hb4.mono hb3.size)
      have hB4 : Below w0.heap.size w0 w4 := hBb.trans (hb34.mono hBb.size)
      have hown4 := hownb.keep hb34
      have hs3 := hb3.size
      have hbody : IsB (From w3'.heap.size) w4 (.slice a4 (enc x).length c4) (enc x) := owns_b ho4
      obtain ⟨w5, hW5, hb5, -, hx5⟩ := box1 w4 (iV x.k) 3
      have hP := put_own (cx := 1) (intsAt1 hx5) (fun z hz => by simp at hz; subst hz; unfold InR; omega) (by simp)
      rw [nums1] at hP
      simp only [List.length_cons, List.length_nil, Nat.zero_add] at hP
      have hB5 : Below w0.heap.size w0 w5 := hB4.trans (hb5.mono hB4.size)
      have hown5 := hown4.keep hb5
      have hbody5 := hbody.since (Since.of_below hb5)
      clear hTy hEn f9 f10 hb3 hb4 hb34 ho4 hown hownb hown4 hbody hBb hBr hbb hbz hx5 c0 c1 c2 c3
      go_wp2_with fail
      refine hP.mono ?_
      rintro e w6 ⟨⟨a6, N6, c6, rfl, ho6⟩, hb6⟩
      have hB6 : Below w0.heap.size w0 w6 := hB5.trans (hb6.mono hB5.size)
      have hown6 := hown5.keep hb6
      have hbody6 := hbody5.since (Since.of_below hb6)
      obtain ⟨a7, N7, c7, w7, hr7, hown7, hb7, hg7⟩ := appG hown6 ho6.isB hB6.size (by omega)
      have hB7 : Below w0.heap.size w0 w7 := hB6.trans hb7
      have hbody7 : IsB (From w3'.heap.size) w7 (.slice a4 (enc x).length c4) (enc x) := hbody6.since ⟨hg7.size, fun k hk h1 => hg7.block k h1 (fun e => by
        have h2 := hol k e.symm
        have h3 : w3'.heap.size ≤ k := hk
        omega)⟩
      obtain ⟨a8, N8, c8', w8, hr8, hown8, hb8, -⟩ := appG hown7 hbody7 hB7.size (by simp only [List.length_append] at hbnd ⊢; omega)
      have hnew : Hid (Below w0.heap.size w0 w8 ∧ OwnN w8 w0.heap.size a8 N8 c8' (num m.consts.length ++ num m.funcs.length ++ (m.consts.take (q + 1)).flatMap eC)) := ⟨hB7.trans hb8, by
        have e : num m.consts.length ++ num m.funcs.length ++ (m.consts.take (q + 1)).flatMap eC = num m.consts.length ++ num m.funcs.length ++ (m.consts.take q).flatMap eC ++ num x.k.toNat ++ enc x := by
          rw [hnext.out]; simp [eC, List.append_assoc]
        rw [e]; exact hown8⟩
      clear hP hown5 hown6 hown7 hown8 hbody5 hbody6 hbody7 hg7 ho6 hb5 hb6 hb7 hb8 hB4 hB5 hB6 hB7 hol hnext hbnd q0 hW5 hlen
      go_wp2_with (first | (at_builtin; refine Lib.wpList_append_run _ rfl _ _ 34 34 rfl _ _ rfl rfl _ _ hr7 ?_; clear hr7) | (at_builtin; refine Lib.wpList_append_run _ rfl _ _ 34 34 rfl _ _ rfl rfl _ _ hr8 ?_; clear hr8))
      go_roundg (m.consts.length - (q + 1))
      case measure => omega
      case rel => exact ⟨q + 1, a8, N8, c8', by omega, rfl, by go_num, rfl, hnew⟩
    · have hltI : ¬ (q : Int) < (m.consts.length : Int) := by omega
      have hqe : q = m.consts.length := by omega
      rw [hqe, List.take_length] at hown
      obtain ⟨k0, k1, k4⟩ := hcell wr hBr
      have hoH : Hid (Below w0.heap.size w0 wr ∧ OwnN wr w0.heap.size a N c (num m.consts.length ++ num m.funcs.length ++ m.consts.flatMap eC)) := ⟨hBr, hown⟩
      clear hown hBr hqe
      go_wp2_with fail
      clear k0 k1
      go_loopg [7, 54] m.funcs.length (fun gk b i wr' => ∃ (n : Nat) (a : Option Addr) (N c : Nat), n ≤ m.funcs.length ∧ gk = m.funcs.length - n ∧ i = .int .i64 n ∧ b = .slice a N c ∧ Hid (Below w0.heap.size w0 wr' ∧ OwnN wr' w0.heap.size a N c (num m.consts.length ++ num m.funcs.length ++ m.consts.flatMap eC ++ (m.funcs.take n).flatMap eF)))
      case atStart => exact ⟨0, a, N, c, Nat.zero_le _, rfl, rfl, rfl, hoH.out.1, by simpa using hoH.out.2⟩
      case round =>
        obtain ⟨n, a, N, c, hn, rfl, rfl, rfl, HI⟩ := hrel
        obtain ⟨hBr, hown⟩ := HI.out
        clear HI hoH
        by_cases hnlt : n < m.funcs.length
        · have hnI : (n : Int) < (m.funcs.length : Int) := by omega
          have hn0 : (0 : Int) ≤ (n : Int) := by omega
          obtain ⟨f, hff⟩ : ∃ f, m.funcs[n]? = some f := ⟨_, List.getElem?_eq_getElem hnlt⟩
          obtain ⟨gf, of, ak, ck, haf, -, hgf, p0, p1, p2, p3, p4, hfn⟩ := (hm.fun_.since (Since.of_below (hBf wr hBr))).get hff
          subst haf
          obtain ⟨wz, wb, hWz, hWb, hbz, hbb, -, hxb, hz⟩ := fbox wr (.int .i64 f.params) (.int .i64 f.locals) (.int .i64 f.zero) (.int .i64 f.stack) (.slice ak f.code.length ck)
          obtain ⟨z0, z1, z2, z3, z4, y0, y1, y2, y3, y4, hlz⟩ := cells_k5 hz
          obtain ⟨c0, c1, c2, c3, c4, -, -, -, -, -, hlc⟩ := cells_k5 hxb
          have hkl : f.code.length ≤ 16384 := by have := (hrun.fun_ n f hff).num; unfold NumOk at this; omega
          have hN := lnumbers_any (hfn.below hbb) hkl
          have hxr := xsN_inR hfn hkl
          have hxl := xsN_len f
          have hbnd : (num m.consts.length ++ num m.funcs.length ++ m.consts.flatMap eC ++ (m.funcs.take n).flatMap eF).length + (eF f).length ≤ 80000000 := by
            have h1 := flat_mem_le eF hff
            rw [encM_pre] at hlen
            simp only [List.length_append] at hlen ⊢
            omega
          have hnext : Hid ((m.funcs.take (n + 1)).flatMap eF = (m.funcs.take n).flatMap eF ++ eF f) := flat_take eF hff
          have hBb : Below w0.heap.size w0 wb := hBr.trans (hbb.mono hBr.size)
          have hownb := hown.keep hbb
          have hnx := nums_xsN f
          clear hff hz hxb hfn hown hok hm hcell hBf hrun hfit
          go_wp2_with fail
          refine hN.mono ?_
          rintro e w4 ⟨⟨g4, c4', rfl, hi4⟩, hb4⟩
          have hB4 : Below w0.heap.size w0 w4 := hBb.trans (hb4.mono hBb.size)
          have hown4 := hownb.keep hb4
          have hP := put_own (cx := c4') hi4 hxr (by omega)
          rw [hnx] at hP
          clear hN hi4 hownb hBb hBr hb4 c0 c1 c2 c3 c4 z0 z1 z2 z3 z4 y0 y1 y2 y3 y4 p0 p1 p2 p3 p4 hWz hWb hxl hnx
          generalize (xsN f).length = XL at *
          go_wp2_with fail
          refine hP.mono ?_
          rintro e w6 ⟨⟨a6, N6, c6, rfl, ho6⟩, hb6⟩
          have hB6 : Below w0.heap.size w0 w6 := hB4.trans (hb6.mono hB4.size)
          have hown6 := hown4.keep hb6
          obtain ⟨a7, N7, c7, w7, hr7, hown7, hb7, -⟩ := appG hown6 ho6.isB hB6.size (by omega)
          have hnew : Hid (Below w0.heap.size w0 w7 ∧ OwnN w7 w0.heap.size a7 N7 c7 (num m.consts.length ++ num m.funcs.length ++ m.consts.flatMap eC ++ (m.funcs.take (n + 1)).flatMap eF)) := ⟨hB6.trans hb7, by
            rw [hnext.out, ← List.append_assoc]; exact hown7⟩
          clear hP hown4 hown6 hown7 ho6 hb6 hb7 hB4 hB6 hnext hbnd hlen hxr
          go_wp2_with (at_builtin; refine Lib.wpList_append_run _ rfl _ _ 34 34 rfl _ _ rfl rfl _ _ hr7 ?_; clear hr7)
          go_roundg (m.funcs.length - (n + 1))
          case measure => omega
          case rel => exact ⟨n + 1, a7, N7, c7, by omega, rfl, by go_num, rfl, hnew⟩
        · have hnI : ¬ (n : Int) < (m.funcs.length : Int) := by omega
          have hne : n = m.funcs.length := by omega
          rw [hne, List.take_length] at hown
          have hpost : OutE w (bM, 0) (.returned (.tuple #[.slice a N c, .int .i64 0])) wr := ⟨⟨a, N, c, rfl, by rw [← hbM.out]; exact hown.low hb0.size⟩, hBf wr hBr⟩
          clear hown hBr hne hok hm hcell hBf hrun hfit hlen
          go_wp2
          go_ret2
          exact hpost
theorem enc_ok : EncOk := fun B m ac af cc cf w states hm hf hc hk _ => lencode_any hm hf states (fun hr => Nat.le_trans (encM_len hr (okVs_w hm.con (fun v hv => (ctype_shp (hr.con v hv)).1)) hc hk) (by omega))
end Go.Proofs.Ytndahpcjkcihlaa
