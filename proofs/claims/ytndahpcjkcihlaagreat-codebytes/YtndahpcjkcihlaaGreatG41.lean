/- Texts of ours, joined: Jq, Jr. -/
import Derived.Test.YtndahpcjkcihlaaGreatG40
/- A constant read: the program's. -/
namespace Go.Proofs.YtndahpcjkcihlaaGreat
open Go.RowKit
set_option linter.unusedVariables false
set_option linter.unusedSimpArgs false
attribute [local go_sem ↓] Go.wp_at_zero Go.wp_at_succ

theorem rdC_one {st : RSt} (h : (rdN st).1 = 1) : rdC st = (.mk 1 (rdZ (rdN st).2).1 [] [], (rdZ (rdN st).2).2) := by
  rw [rdC_eq, if_pos h]; rfl
theorem rdC_three {st : RSt} (h : (rdN st).1 = 3) : rdC st = (.mk 3 0 (rdB (rdN (rdN st).2).1 (rdN (rdN st).2).2).1 [], (rdB (rdN (rdN st).2).1 (rdN (rdN st).2).2).2) := by
  rw [rdC_eq, if_neg (by omega), if_pos h]
theorem rdC_else {st : RSt} (h1 : (rdN st).1 ≠ 1) (h3 : (rdN st).1 ≠ 3) : rdC st = (.mk (rdN st).1 (rdN (rdN st).2).1 [] [], (rdN (rdN st).2).2) := by
  rw [rdC_eq, if_neg h1, if_neg h3]
set_option maxRecDepth 100000 in
set_option maxHeartbeats 2000000 in
theorem readConst_any {w : World} {r : Nat} {st : RSt} (h : RdS w r st) (hlf : lft st ≤ 1000000) : Calls Tryz.prog 38 #[.pointer (some ⟨r, 0, none⟩)] w fun e w' => CPost w r (rdC st) e w' := by
  obtain ⟨w0, hW0, hb0, hl0, hx0⟩ := box4z w
  have hrl := h.lt
  have hN1 := number_any (h.keep hb0)
  have hle1 := rdN_le st
  have hlf1 : lft (rdN st).2 ≤ 1000000 := Nat.le_trans (rdN_lft _) hlf
  have hlf2 : lft (rdN (rdN st).2).2 ≤ 1000000 := Nat.le_trans (rdN_lft _) hlf1
  have hle2 := rdN_le (rdN st).2
  obtain ⟨X, HX⟩ : ∃ X, Hid (rdC st = X) := ⟨_, rfl⟩
  rw [HX.out]
  have h1 : Hid ((rdN st).1 = 1 → X = (.mk 1 (rdZ (rdN st).2).1 [] [], (rdZ (rdN st).2).2)) := fun h => by rw [← HX.out]; exact rdC_one h
  have h3 : Hid ((rdN st).1 = 3 → X = (.mk 3 0 (rdB (rdN (rdN st).2).1 (rdN (rdN st).2).2).1 [], (rdB (rdN (rdN st).2).1 (rdN (rdN st).2).2).2)) := fun h => by rw [← HX.out]; exact rdC_three h
  have h5 : Hid ((rdN st).1 ≠ 1 → (rdN st).1 ≠ 3 → X = (.mk (rdN st).1 (rdN (rdN st).2).1 [] [], (rdN (rdN st).2).2)) := fun h h' => by rw [← HX.out]; exact rdC_else h h'
  clear HX hlf h hlf1
  generalize rdN st = q1 at *
  obtain ⟨k, st1⟩ := q1
  simp only at *
  have hZ : ∀ w', RdS w' r st1 → Calls Tryz.prog 61 #[.pointer (some ⟨r, 0, none⟩)] w' fun e w'' => e = .returned (.agg #[.int .i64 1, .int .i64 (rdZ st1).1, .string ⟨#[]⟩, .slice none 0 0]) ∧ RdS w'' r (rdZ st1).2 ∧ Only r w' w'' := fun w' h => (lreadInt_any h).mono fun e w'' hp => ⟨hp.1, hp.2.1, hp.2.2⟩
  go_enter Tryz.func38, Tryz.ntmps38
  go_wp2_with fail
  refine hN1.mono ?_
  rintro e w1 ⟨rfl, hr1, ho1⟩
  have ho01 : Only r w w1 := (Only.of_below hb0).trans ho1
  have hx1 := ho1.cells hl0 (by omega) hx0
  have hl1 : w.heap.size < w1.heap.size := (Array.getElem?_eq_some_iff.1 hx1).1
  clear hN1 hW0 hx0 ho1
  by_cases hk1 : k = 1
  · have hv := h1.out hk1
    subst hk1
    have hR := hZ w1 hr1
    clear h1 h3 h5 hZ hr1
    generalize rdZ st1 = Z at *
    go_wp2_with fail
    refine hR.mono ?_
    rintro e w2 ⟨rfl, hr2, ho2⟩
    have hx2 := ho2.cells hl1 (by omega) hx1
    have ho02 := ho01.trans ho2
    obtain ⟨s0, s1, s2, s3, t0, t1, t2, t3⟩ := cells_of4 hx2
    obtain ⟨wN, hWN, hxN, hoN, hrN⟩ := resV hx2 ho02 hr2 hrl (.int .i64 1) (.int .i64 Z.1) (.string ⟨#[]⟩) (.slice none 0 0)
    obtain ⟨m0, m1, m2, m3, -⟩ := cells_of4 hxN
    have hlN : w.heap.size < wN.heap.size := (Array.getElem?_eq_some_iff.1 hxN).1
    have hl2 : w.heap.size < w2.heap.size := (Array.getElem?_eq_some_iff.1 hx2).1
    have hpost : CPost w r X (.returned (.agg #[.int .i64 1, .int .i64 Z.1, .string ⟨#[]⟩, .slice none 0 0])) wN := by rw [hv]; exact ⟨rfl, hrN, hoN⟩
    clear hR hr2 ho2 ho02 hx1 hx2 hxN hoN hrN hv
    go_wp2_with fail
    exact bodyPost_ret (v := .agg #[.int .i64 1, .int .i64 Z.1, .string ⟨#[]⟩, .slice none 0 0]) (by simp [results, Tryz.results38, go_sem, hlN, m0, m1, m2, m3]) rfl hpost
  have hkb1 : ((k : Int) == 1) = false := by rw [beq_eq_false_iff_ne]; omega
  have hN2 := number_any hr1
  by_cases hk3 : k = 3
  · have hv : Hid (X = _) := h3.out hk3
    have hkb3 : ((k : Int) == 3) = true := by rw [hk3]; rfl
    clear h1 h3 h5 hZ hr1 hk1 hk3
    generalize rdN st1 = q2 at *
    obtain ⟨n, st2⟩ := q2
    simp only at *
    go_wp2_with fail
    refine hN2.mono ?_
    rintro e w2 ⟨rfl, hr2, ho2⟩
    have hx2 := ho2.cells hl1 (by omega) hx1
    have ho02 := ho01.trans ho2
    have hl2 : w.heap.size < w2.heap.size := (Array.getElem?_eq_some_iff.1 hx2).1
    have hBy := bytesR_any hr2 n hlf2
    have hbl := rdB_len n st2
    have hbll : (rdB n st2).1.length ≤ 1000000 := by
      rcases st2 with _ | bs
      · simp [rdB]
      · have h9 : (rdB n (some bs)).1.length ≤ bs.length := by
          unfold rdB
          split
          · simp
          · rename_i e
            cases e
            split
            · simp
            · simp; omega
        have : bs.length ≤ 1000000 := hlf2
        omega
    generalize rdB n st2 = q3 at *
    clear hN2 hr2 ho2 hx1 ho01
    go_wp2_with fail
    refine hBy.mono ?_
    rintro e w3 ⟨⟨sl3, rfl, hsl3⟩, hr3, ho3⟩
    have hx3 := ho3.cells hl2 (by omega) hx2
    have ho03 := ho02.trans ho3
    have hcv := str_b hsl3
    have hT := text_any q3.1 (by omega) w3
    obtain ⟨a3, c3, rfl, -, -⟩ := hsl3.slice
    clear hBy hsl3 ho3 hx2 ho02
    go_wp2_with fail
    refine hT.mono ?_
    rintro e w4 ⟨rfl, hb4⟩
    have hx4 := (hb4.block _ (Array.getElem?_eq_some_iff.1 hx3).1).trans hx3
    have ho04 := ho03.trans (Only.of_below hb4)
    obtain ⟨s0, s1, s2, s3, t0, t1, t2, t3⟩ := cells_of4 hx4
    obtain ⟨wN, hWN, hxN, hoN, hrN⟩ := resV hx4 ho04 (hr3.keep hb4) hrl (.int .i64 3) (.int .i64 0) (.string ⟨q3.1.toArray⟩) (.slice none 0 0)
    obtain ⟨m0, m1, m2, m3, -⟩ := cells_of4 hxN
    have hlN : w.heap.size < wN.heap.size := (Array.getElem?_eq_some_iff.1 hxN).1
    have hl4 : w.heap.size < w4.heap.size := (Array.getElem?_eq_some_iff.1 hx4).1
    have hpost : CPost w r X (.returned (.agg #[.int .i64 3, .int .i64 0, .string ⟨q3.1.toArray⟩, .slice none 0 0])) wN := by rw [hv.out]; exact ⟨rfl, hrN, hoN⟩
    clear hT hr3 ho03 ho04 hx3 hx4 hxN hoN hrN hv hcv hb4
    go_wp2_with fail
    exact bodyPost_ret (v := .agg #[.int .i64 3, .int .i64 0, .string ⟨q3.1.toArray⟩, .slice none 0 0]) (by simp [results, Tryz.results38, go_sem, hlN, m0, m1, m2, m3]) rfl hpost
  · have hv : Hid (X = _) := h5.out hk1 hk3
    have hkb3 : ((k : Int) == 3) = false := by rw [beq_eq_false_iff_ne]; omega
    clear h1 h3 h5 hZ hr1 hk1 hk3
    generalize rdN st1 = q2 at *
    obtain ⟨n, st2⟩ := q2
    simp only at *
    go_wp2_with fail
    refine hN2.mono ?_
    rintro e w2 ⟨rfl, hr2, ho2⟩
    have hx2 := ho2.cells hl1 (by omega) hx1
    have ho02 := ho01.trans ho2
    have hl2 : w.heap.size < w2.heap.size := (Array.getElem?_eq_some_iff.1 hx2).1
    obtain ⟨s0, s1, s2, s3, t0, t1, t2, t3⟩ := cells_of4 hx2
    obtain ⟨wN, hWN, hxN, hoN, hrN⟩ := resV hx2 ho02 hr2 hrl (.int .i64 k) (.int .i64 n) (.string ⟨#[]⟩) (.slice none 0 0)
    obtain ⟨m0, m1, m2, m3, -⟩ := cells_of4 hxN
    have hlN : w.heap.size < wN.heap.size := (Array.getElem?_eq_some_iff.1 hxN).1
    have hpost : CPost w r X (.returned (.agg #[.int .i64 k, .int .i64 n, .string ⟨#[]⟩, .slice none 0 0])) wN := by rw [hv.out]; exact ⟨rfl, hrN, hoN⟩
    clear hN2 hr2 ho2 ho02 hx1 hx2 hxN hoN hrN hv
    go_wp2_with fail
    exact bodyPost_ret (v := .agg #[.int .i64 k, .int .i64 n, .string ⟨#[]⟩, .slice none 0 0]) (by simp [results, Tryz.results38, go_sem, hlN, m0, m1, m2, m3]) rfl hpost
end Go.Proofs.YtndahpcjkcihlaaGreat
/- Many taken: constants, instructions: the program's. -/
namespace Go.Proofs.YtndahpcjkcihlaaGreat
open Go.RowKit
set_option linter.unusedVariables false
set_option linter.unusedSimpArgs false
attribute [local go_sem ↓] Go.wp_at_zero Go.wp_at_succ

theorem Only.low' {r n : Nat} {w w1 w2 : World} (h : Only r w w1) (hb : Below n w1 w2) (hn : w.heap.size ≤ n) : Only r w w2 := ⟨hb.os.trans h.os, hb.tape.trans h.tape, hb.output.trans h.output, Nat.le_trans h.size hb.size, fun k h1 h2 => (hb.block k (by omega)).trans (h.block k h1 h2)⟩
theorem RdS.low' {w w' : World} {r n : Nat} {st : RSt} (h : RdS w r st) (hb : Below n w w') (hn : r < n) : RdS w' r st := h.up (fun k hk => hb.block k (by omega)) hb.size
theorem take_less {α : Type} {l : List α} {x : α} {m : Nat} (h : l.length < m) : (l ++ [x]).take m = l.take m ++ [x] := by
  rw [List.take_of_length_le (by simp; omega), List.take_of_length_le (by omega)]
theorem take_more {α : Type} {l : List α} {x : α} {m : Nat} (h : m ≤ l.length) : (l ++ [x]).take m = l.take m := List.take_append_of_le_length h
theorem OwnI.nil (w : World) (base : Nat) : OwnI w base (.slice none 0 0) [] := ⟨rfl, Or.inl ⟨rfl, rfl⟩⟩
def TVPost (w : World) (r n : Nat) (st : RSt) (e : Ending) (w' : World) : Prop := (∃ a c, e = .returned (.slice a ((rdG rdC n st).1.take 16385).length c) ∧ Gv (From w.heap.size) w' (.slice a ((rdG rdC n st).1.take 16385).length c) ((rdG rdC n st).1.take 16385)) ∧ RdS w' r (rdG rdC n st).2 ∧ Only r w w'
set_option maxRecDepth 100000 in
set_option maxHeartbeats 4000000 in
theorem takeV_any {w : World} {r : Nat} {st0 : RSt} (h : RdS w r st0) (hlf0 : lft st0 ≤ 900000) (n : Nat) (hn : n ≤ 9223372036854775807) : Calls Tryz.prog 37 #[.pointer (some ⟨r, 0, none⟩), .int .i64 n, .int .i64 16384, .func (Fn.func 38) #[] #[]] w fun e w' => TVPost w r n st0 e w' := by
  have hrl := h.lt
  have hst : Hid (Only r w w ∧ RdS w r st0) := ⟨Only.refl _ _, h⟩
  clear h
  go_enter Tryz.func37, Tryz.ntmps37
  go_wp2_with fail
  go_loopg [9, 10] n (fun gk out i wr => ∃ (q : Nat) (a : Option Addr) (c : Nat) (acc : List V) (st : RSt), q ≤ n ∧ gk = n - q ∧ i = .int .i64 q ∧ out = .slice a (acc.take 16385).length c ∧ Hid (Only r w wr ∧ RdS wr r st ∧ Gv (From w.heap.size) wr (.slice a (acc.take 16385).length c) (acc.take 16385) ∧ Gath rdC n st0 q acc st))
  case atStart => exact ⟨0, none, 0, [], st0, Nat.zero_le _, rfl, rfl, rfl, hst.out.1, hst.out.2, by simpa using Gv.nil _ _, Gath.start _ _ _⟩
  case round =>
    obtain ⟨q, a, c, acc, st, hq, rfl, rfl, rfl, HI⟩ := hrel
    obtain ⟨ho, hr, hrow, hG⟩ := HI.out
    clear HI hst
    have hfin : Hid (st = none ∨ q = n → TVPost w r n st0 (.returned (.slice a (acc.take 16385).length c)) wr) := fun he => by
      obtain ⟨e1, e2⟩ := hG.done he
      rw [e1] at hrow ⊢
      rw [e2] at hr
      exact ⟨⟨a, c, rfl, hrow⟩, hr, ho⟩
    by_cases hlt : q < n
    rotate_left
    · have hltI : ¬ (q : Int) < (n : Int) := by omega
      have hpost := hfin.out (Or.inr (by omega))
      clear ho hr hrow hG hfin
      generalize (acc.take 16385).length = L at *
      go_wp2
      go_ret
      exact hpost
    have hltI : (q : Int) < (n : Int) := by omega
    have hBd := bad_any hr
    rcases st with _ | bs
    · have hpost := hfin.out (Or.inl rfl)
      simp only [Option.isNone_none] at hBd
      clear ho hr hrow hG hfin
      generalize (acc.take 16385).length = L at *
      go_wp2_with fail
      refine hBd.mono ?_
      rintro e w1 ⟨rfl, rfl⟩
      clear hBd
      go_wp2
      go_ret
      exact hpost
    simp only [Option.isNone_some] at hBd
    clear hfin
    have hlf : lft (some bs) ≤ 900000 := Nat.le_trans hG.2.2.2.2.1 hlf0
    have hq9 : q ≤ 900000 := by have := hG.2.2.2.2.2 bs rfl; omega
    have hlq : Hid (acc.length = q) := hG.len
    have hOne := readConst_any hr (by omega)
    have hGn := hG.next hlt (s := fun v => 1 + v.t.length + v.l.length) (fun v => by omega) (fun st b' h => rdC_cut h)
    obtain ⟨i1, i2, i3, i4⟩ := rdC_ok (some bs)
    have hGnH : Hid (Gath rdC n st0 (q + 1) (acc ++ [(rdC (some bs)).1]) (rdC (some bs)).2) := hGn
    clear hGn hG hr
    generalize rdC (some bs) = x at *
    obtain ⟨x1, x2⟩ := x
    simp only at *
    unfold CPost at hOne
    have hrowH : Hid (Gv (From w.heap.size) wr (.slice a (acc.take 16385).length c) (acc.take 16385)) := hrow
    have hLl0 : (acc.take 16385).length = if acc.length < 16385 then acc.length else 16385 := by rw [List.length_take]; split <;> omega
    clear hrow
    obtain ⟨L, hL⟩ : ∃ L, Hid ((acc.take 16385).length = L) := ⟨_, rfl⟩
    rw [hL.out] at hLl0 ⊢
    have hLl : Hid (L = if acc.length < 16385 then acc.length else 16385) := hLl0
    clear hLl0
    go_wp2_with fail
    refine hBd.mono ?_
    rintro e w1 ⟨rfl, hw1⟩
    obtain rfl := hw1.symm
    clear hBd
    go_wp2_with fail
    refine hOne.mono ?_
    rintro e wA ⟨rfl, hrA, hoA⟩
    clear hOne
    obtain ⟨wz, wB, hWz, hWB, hbz, hbB, hxB, hz⟩ := zvbox wA (.int .i64 x1.k) (.int .i64 x1.n) (.string ⟨x1.t.toArray⟩) (.slice none 0 0)
    obtain ⟨z0, z1, z2, z3, y0, y1, y2, y3, hlz⟩ := cells_k4 hz
    obtain ⟨c0, c1, c2, c3, -, -, -, -, hlB⟩ := cells_k4 hxB
    clear hz
    have hoB : Only r wr wB := hoA.trans (Only.of_below hbB)
    have hrB := hrA.keep hbB
    have hszA := hoA.size
    have hsz := ho.size
    by_cases hmost : acc.length < 16385
    · have hLe : L = acc.length := by have := hLl.out; rwa [if_pos hmost] at this
      have hlq' := hlq.out
      have hLI : (L : Int) ≤ 16384 := by omega
      have hLb : L ≤ 900000 := by omega
      obtain ⟨wb, hWb⟩ : ∃ wb, wB.alloc (.cells #[.int .i64 x1.k, .int .i64 x1.n, .string ⟨x1.t.toArray⟩, .slice none 0 0] 44) = wb := ⟨_, rfl⟩
      have hbb : Below wB.heap.size wB wb := by rw [← hWb]; exact (Below.refl _ _).alloc (Nat.le_refl _) _
      have hblkb : wb.heap[wB.heap.size]? = some (.cells #[.int .i64 x1.k, .int .i64 x1.n, .string ⟨x1.t.toArray⟩, .slice none 0 0] 44) := by rw [← hWb]; exact heap_new _ _
      have hsB := hbB.size
      have hsbb := hbb.size
      have hrowb : Gv (From w.heap.size) wb (.slice a (acc.take 16385).length c) (acc.take 16385) := (hrowH.out.since (hoB.since (by show ¬ (w.heap.size ≤ r); omega))).below hbb
      rw [hL.out] at hrowb
      obtain ⟨g7, c7, w7, hr7, hG7, hb7, -, -⟩ := hrowb.push (l2 := [x1]) (ad := ⟨wB.heap.size, 0, none⟩) (by simp) (by simp) (World.news_of_block hblkb) (AllV.one (isV_iff.2 ⟨_, rfl, i1, i2, i3, by rw [i4]; exact IsVs.nil⟩)) (by rw [hL.out]; simp; omega) (fun k hk => by show w.heap.size ≤ k; omega) 1 22
      replace hb7 : Below w.heap.size wb w7 := hb7 _ (by omega) (fun k hk => hk)
      rw [hL.out] at hr7 hG7
      simp only [List.length_cons, List.length_nil, Nat.zero_add] at hr7 hG7
      obtain ⟨a7, ha7⟩ : ∃ a7, Hid ((some ⟨g7, 0, none⟩ : Option Addr) = a7) := ⟨_, rfl⟩
      rw [ha7.out] at hr7 hG7
      clear ha7 hblkb
      have hs7 := hb7.size
      have hob : Only r w w7 := ((ho.trans hoB).trans (Only.of_below hbb)).low' hb7 (Nat.le_refl _)
      have hr7' : RdS w7 r x2 := (hrB.keep hbb).low' hb7 hrl
      have hnew : Hid (Only r w w7 ∧ RdS w7 r x2 ∧ Gv (From w.heap.size) w7 (.slice a7 ((acc ++ [x1]).take 16385).length c7) ((acc ++ [x1]).take 16385) ∧ Gath rdC n st0 (q + 1) (acc ++ [x1]) x2) := by
        refine ⟨hob, hr7', ?_, hGnH.out⟩
        rw [take_less hmost, List.length_append, hL.out]
        exact hG7
      have hnl : ((acc ++ [x1]).take 16385).length = L + 1 := by rw [take_less hmost, List.length_append, hL.out]; rfl
      clear hGnH hrowH hrowb hG7 hb7 hob hr7' hrA hrB hoA hoB ho hbB hbb hmost hLl hs7 hszA hsz hlq hLe hlq'
      go_wp2_with (at_builtin; refine Lib.wpList_append_run _ rfl _ _ 22 22 rfl _ _ rfl rfl _ _ hr7 ?_; clear hr7)
      go_roundg (n - (q + 1))
      case measure => omega
      case rel => exact ⟨q + 1, a7, c7, _, x2, by omega, rfl, by go_num, by rw [hnl], hnew⟩
    · have hLe : L = 16385 := by have := hLl.out; rwa [if_neg hmost] at this
      have hLI : ¬ (L : Int) ≤ 16384 := by omega
      have hnew : Hid (Only r w wB ∧ RdS wB r x2 ∧ Gv (From w.heap.size) wB (.slice a ((acc ++ [x1]).take 16385).length c) ((acc ++ [x1]).take 16385) ∧ Gath rdC n st0 (q + 1) (acc ++ [x1]) x2) := by
        refine ⟨ho.trans hoB, hrB, ?_, hGnH.out⟩
        rw [take_more (by omega)]
        exact hrowH.out.since (hoB.since (by show ¬ (w.heap.size ≤ r); omega))
      have hnl : ((acc ++ [x1]).take 16385).length = L := by rw [take_more (by omega), hL.out]
      clear hGnH hrowH hrA hrB hoA hoB ho hbB hmost hLl hszA hsz hlq hLe
      go_wp2_with fail
      go_roundg (n - (q + 1))
      case measure => omega
      case rel => exact ⟨q + 1, a, c, _, x2, by omega, rfl, by go_num, by rw [hnl], hnew⟩
def TIPost (w : World) (r n : Nat) (st : RSt) (e : Ending) (w' : World) : Prop := (∃ a c, e = .returned (.slice a ((rdG rdX n st).1.take 16385).length c) ∧ OwnI w' w.heap.size (.slice a ((rdG rdX n st).1.take 16385).length c) ((rdG rdX n st).1.take 16385)) ∧ RdS w' r (rdG rdX n st).2 ∧ Only r w w'
set_option maxRecDepth 100000 in
set_option maxHeartbeats 4000000 in
theorem takeI_any {w : World} {r : Nat} {st0 : RSt} (h : RdS w r st0) (hlf0 : lft st0 ≤ 900000) (n : Nat) (hn : n ≤ 9223372036854775807) : Calls Tryz.prog 64 #[.pointer (some ⟨r, 0, none⟩), .int .i64 n, .int .i64 16384, .func (Fn.func 65) #[] #[]] w fun e w' => TIPost w r n st0 e w' := by
  have hrl := h.lt
  have hst : Hid (Only r w w ∧ RdS w r st0) := ⟨Only.refl _ _, h⟩
  clear h
  go_enter Tryz.func64, Tryz.ntmps64
  go_wp2_with fail
  go_loopg [9, 10] n (fun gk out i wr => ∃ (q : Nat) (a : Option Addr) (c : Nat) (acc : List In) (st : RSt), q ≤ n ∧ gk = n - q ∧ i = .int .i64 q ∧ out = .slice a (acc.take 16385).length c ∧ Hid (Only r w wr ∧ RdS wr r st ∧ OwnI wr w.heap.size (.slice a (acc.take 16385).length c) (acc.take 16385) ∧ Gath rdX n st0 q acc st))
  case atStart => exact ⟨0, none, 0, [], st0, Nat.zero_le _, rfl, rfl, rfl, hst.out.1, hst.out.2, by simpa using OwnI.nil _ _, Gath.start _ _ _⟩
  case round =>
    obtain ⟨q, a, c, acc, st, hq, rfl, rfl, rfl, HI⟩ := hrel
    obtain ⟨ho, hr, hrow, hG⟩ := HI.out
    clear HI hst
    have hfin : Hid (st = none ∨ q = n → TIPost w r n st0 (.returned (.slice a (acc.take 16385).length c)) wr) := fun he => by
      obtain ⟨e1, e2⟩ := hG.done he
      rw [e1] at hrow ⊢
      rw [e2] at hr
      exact ⟨⟨a, c, rfl, hrow⟩, hr, ho⟩
    by_cases hlt : q < n
    rotate_left
    · have hltI : ¬ (q : Int) < (n : Int) := by omega
      have hpost := hfin.out (Or.inr (by omega))
      clear ho hr hrow hG hfin
      generalize (acc.take 16385).length = L at *
      go_wp2
      go_ret
      exact hpost
    have hltI : (q : Int) < (n : Int) := by omega
    have hBd := bad_any hr
    rcases st with _ | bs
    · have hpost := hfin.out (Or.inl rfl)
      simp only [Option.isNone_none] at hBd
      clear ho hr hrow hG hfin
      generalize (acc.take 16385).length = L at *
      go_wp2_with fail
      refine hBd.mono ?_
      rintro e w1 ⟨rfl, rfl⟩
      clear hBd
      go_wp2
      go_ret
      exact hpost
    simp only [Option.isNone_some] at hBd
    clear hfin
    have hlf : lft (some bs) ≤ 900000 := Nat.le_trans hG.2.2.2.2.1 hlf0
    have hq9 : q ≤ 900000 := by have := hG.2.2.2.2.2 bs rfl; omega
    have hlq : Hid (acc.length = q) := hG.len
    have hOne := readInstr_any hr
    have hGn := hG.next hlt (s := fun _ => 1) (fun v => by omega) (fun st b' h => rdX_cut h)

    have hGnH : Hid (Gath rdX n st0 (q + 1) (acc ++ [(rdX (some bs)).1]) (rdX (some bs)).2) := hGn
    clear hGn hG hr
    generalize rdX (some bs) = x at *
    obtain ⟨x1, x2⟩ := x
    simp only at *
    have hrowH : Hid (OwnI wr w.heap.size (.slice a (acc.take 16385).length c) (acc.take 16385)) := hrow
    have hLl0 : (acc.take 16385).length = if acc.length < 16385 then acc.length else 16385 := by rw [List.length_take]; split <;> omega
    clear hrow
    obtain ⟨L, hL⟩ : ∃ L, Hid ((acc.take 16385).length = L) := ⟨_, rfl⟩
    rw [hL.out] at hLl0 ⊢
    have hLl : Hid (L = if acc.length < 16385 then acc.length else 16385) := hLl0
    clear hLl0
    go_wp2_with fail
    refine hBd.mono ?_
    rintro e w1 ⟨rfl, hw1⟩
    obtain rfl := hw1.symm
    clear hBd
    go_wp2_with fail
    refine hOne.mono ?_
    rintro e wA ⟨rfl, hrA, hoA⟩
    clear hOne
    obtain ⟨wz, wB, hWz, hWB, hbz, hbB, -, hxB, hz⟩ := zibox wA (.int .i64 x1.op) (.int .i64 x1.a)
    obtain ⟨z0, z1, y0, y1, hlz⟩ := cells_k2 hz
    obtain ⟨c0, c1, -, -, hlB⟩ := cells_k2 hxB
    clear hz
    have hoB : Only r wr wB := hoA.trans (Only.of_below hbB)
    have hrB := hrA.keep hbB
    have hszA := hoA.size
    have hsz := ho.size
    by_cases hmost : acc.length < 16385
    · have hLe : L = acc.length := by have := hLl.out; rwa [if_pos hmost] at this
      have hlq' := hlq.out
      have hLI : (L : Int) ≤ 16384 := by omega
      have hLb : L ≤ 900000 := by omega
      obtain ⟨wb, hWb⟩ : ∃ wb, wB.alloc (.cells #[.int .i64 x1.op, .int .i64 x1.a] 38) = wb := ⟨_, rfl⟩
      have hbb : Below wB.heap.size wB wb := by rw [← hWb]; exact (Below.refl _ _).alloc (Nat.le_refl _) _
      have hblkb : wb.heap[wB.heap.size]? = some (.cells #[.int .i64 x1.op, .int .i64 x1.a] 38 (0, 0)) := by rw [← hWb]; exact heap_new _ _
      have hsB := hbB.size
      have hsbb := hbb.size
      have hrowb : OwnI wb w.heap.size (.slice a (acc.take 16385).length c) (acc.take 16385) := (hrowH.out.since (fun j hj => by have := World.ownsRow.lt hrowH.out j hj; exact hoB.block j this.2 (by omega))).since (fun j hj => by have := World.ownsRow.lt hrowH.out j hj; exact hbb.block j (by omega))
      rw [hL.out] at hrowb
      obtain ⟨a7, c7, w7, hr7, hG7, hb7⟩ := OwnI.push (w := wb) (i := x1) hrowb hL.out hblkb (by omega) (by omega)
      clear hblkb
      have hs7 := hb7.size
      have hob : Only r w w7 := ((ho.trans hoB).trans (Only.of_below hbb)).low' hb7 (Nat.le_refl _)
      have hr7' : RdS w7 r x2 := (hrB.keep hbb).low' hb7 hrl
      have hnew : Hid (Only r w w7 ∧ RdS w7 r x2 ∧ OwnI w7 w.heap.size (.slice a7 ((acc ++ [x1]).take 16385).length c7) ((acc ++ [x1]).take 16385) ∧ Gath rdX n st0 (q + 1) (acc ++ [x1]) x2) := by
        refine ⟨hob, hr7', ?_, hGnH.out⟩
        rw [take_less hmost, List.length_append, hL.out]
        exact hG7
      have hnl : ((acc ++ [x1]).take 16385).length = L + 1 := by rw [take_less hmost, List.length_append, hL.out]; rfl
      clear hGnH hrowH hrowb hG7 hb7 hob hr7' hrA hrB hoA hoB ho hbB hbb hmost hLl hs7 hszA hsz hlq hLe hlq'
      go_wp2_with (at_builtin; refine Lib.wpList_append_run _ rfl _ _ 40 40 rfl _ _ rfl rfl _ _ hr7 ?_; clear hr7)
      go_roundg (n - (q + 1))
      case measure => omega
      case rel => exact ⟨q + 1, a7, c7, _, x2, by omega, rfl, by go_num, by rw [hnl], hnew⟩
    · have hLe : L = 16385 := by have := hLl.out; rwa [if_neg hmost] at this
      have hLI : ¬ (L : Int) ≤ 16384 := by omega
      have hnew : Hid (Only r w wB ∧ RdS wB r x2 ∧ OwnI wB w.heap.size (.slice a ((acc ++ [x1]).take 16385).length c) ((acc ++ [x1]).take 16385) ∧ Gath rdX n st0 (q + 1) (acc ++ [x1]) x2) := by
        refine ⟨ho.trans hoB, hrB, ?_, hGnH.out⟩
        rw [take_more (by omega)]
        exact hrowH.out.since (fun j hj => by have := World.ownsRow.lt hrowH.out j hj; exact hoB.block j this.2 (by omega))
      have hnl : ((acc ++ [x1]).take 16385).length = L := by rw [take_more (by omega), hL.out]
      clear hGnH hrowH hrA hrB hoA hoB ho hbB hmost hLl hszA hsz hlq hLe
      go_wp2_with fail
      go_roundg (n - (q + 1))
      case measure => omega
      case rel => exact ⟨q + 1, a, c, _, x2, by omega, rfl, by go_num, by rw [hnl], hnew⟩
end Go.Proofs.YtndahpcjkcihlaaGreat
