/- Texts of ours, joined: Jr, Js. -/
import Derived.Test.YtndahpcjkcihlaaG44
/- Many taken: constants, instructions: the program's. -/
namespace Go.Proofs.Ytndahpcjkcihlaa
open Go.RowKit
set_option linter.unusedVariables false
set_option linter.unusedSimpArgs false
attribute [local go_sem ↓] Go.wp_at_zero Go.wp_at_succ

theorem Only.low' {r n : Nat} {w w1 w2 : World} (h : Only r w w1) (hb : Below n w1 w2) (hn : w.heap.size ≤ n) : Only r w w2 := ⟨hb.os.trans h.os, hb.tape.trans h.tape, hb.output.trans h.output, Nat.le_trans h.size hb.size, fun k h1 h2 => (hb.block k (by omega)).trans (h.block k h1 h2)⟩
theorem RdS.low' {w w' : World} {r n : Nat} {st : RSt} (h : RdS w r st) (hb : Below n w w') (hn : r < n) : RdS w' r st := h.up (fun k hk => hb.block k (by omega)) hb.size
theorem take_less {α : Type} {l : List α} {x : α} {m : Nat} (h : l.length < m) : (l ++ [x]).take m = l.take m ++ [x] := by
  rw [List.take_of_length_le (by simp; omega), List.take_of_length_le (by omega)]
theorem take_more {α : Type} {l : List α} {x : α} {m : Nat} (h : m ≤ l.length) : (l ++ [x]).take m = l.take m := List.take_append_of_le_length h
theorem OwnI.nil (w : World) (base : Nat) : OwnI w base (.slice none 0 0) [] := ⟨rfl, Or.inl ⟨rfl, rfl⟩⟩
def TVPost (w : World) (r n : Nat) (st : RSt) (e : Ending) (w' : World) : Prop := (∃ a c, e = .returned (.slice a ((rdG rdC n st).1.take 16385).length c) ∧ Gv (From w.heap.size) w' (.slice a ((rdG rdC n st).1.take 16385).length c) ((rdG rdC n st).1.take 16385)) ∧ RdS w' r (rdG rdC n st).2 ∧ Only r w w'
set_option maxRecDepth 100000 in
set_option maxHeartbeats 4000000 in
theorem takeV_any {w : World} {r : Nat} {st0 : RSt} (h : RdS w r st0) (hlf0 : lft st0 ≤ 900000) (n : Nat) (hn : n ≤ 9223372036854775807) : Calls Try.prog 49 #[.pointer (some ⟨r, 0, none⟩), .int .i64 n, .int .i64 16384, .func (Fn.func 50) #[] #[]] w fun e w' => TVPost w r n st0 e w' := by
  have hrl := h.lt
  have hst : Hid (Only r w w ∧ RdS w r st0) := ⟨Only.refl _ _, h⟩
  clear h
  go_enter Try.func49, Try.ntmps49
  go_wp2_with fail
  go_loopg [9, 10] n (fun gk out i wr => ∃ (q : Nat) (a : Option Addr) (c : Nat) (acc : List V) (st : RSt), q ≤ n ∧ gk = n - q ∧ i = .int .i64 q ∧ out = .slice a (acc.take 16385).length c ∧ Hid (Only r w wr ∧ RdS wr r st ∧ Gv (From w.heap.size) wr (.slice a (acc.take 16385).length c) (acc.take 16385) ∧ Gath rdC n st0 q acc st))
  case atStart => exact ⟨0, none, 0, [], st0, Nat.zero_le _, rfl, rfl, rfl, hst.out.1, hst.out.2, by simpa using Gv.nil _ _, Gath.start _ _ _⟩
  case round =>
    obtain ⟨q, a, c, acc, st, hq, rfl, rfl, rfl, HI⟩ := hrel
    obtain ⟨ho, hr, hrow, hG⟩ := HI.out
    clear HI hst
    have hfin : Hid (st = none ∨ q = n → TVPost w r n st0 (.returned (.slice a (acc.take 16385).length c)) wr) := fun he => by
      obtain ⟨e1, e2⟩ := hG.done he
      rw [e1] at hrow ⊢
      rw [e2] at hr
      exact ⟨⟨a, c, rfl, hrow⟩, hr, ho⟩
    by_cases hlt : q < n
    rotate_left
    · have hltI : ¬ (q : Int) < (n : Int) := by omega
      have hpost := hfin.out (Or.inr (by omega))
      clear ho hr hrow hG hfin
      generalize (acc.take 16385).length = L at *
      go_wp2
      go_ret
      exact hpost
    have hltI : (q : Int) < (n : Int) := by omega
    have hBd := bad_any hr
    rcases st with _ | bs
    · have hpost := hfin.out (Or.inl rfl)
      simp only [Option.isNone_none] at hBd
      clear ho hr hrow hG hfin
      generalize (acc.take 16385).length = L at *
      go_wp2_with fail
      refine hBd.mono ?_
      rintro e w1 ⟨rfl, rfl⟩
      clear hBd
      go_wp2
      go_ret
      exact hpost
    simp only [Option.isNone_some] at hBd
    clear hfin
    have hlf : lft (some bs) ≤ 900000 := Nat.le_trans hG.2.2.2.2.1 hlf0
    have hq9 : q ≤ 900000 := by have := hG.2.2.2.2.2 bs rfl; omega
    have hlq : Hid (acc.length = q) := hG.len
    have hOne := readConst_any hr (by omega)
    have hGn := hG.next hlt (s := fun v => 1 + v.t.length + v.l.length) (fun v => by omega) (fun st b' h => rdC_cut h)
    obtain ⟨i1, i2, i3, i4⟩ := rdC_ok (some bs)
    have hGnH : Hid (Gath rdC n st0 (q + 1) (acc ++ [(rdC (some bs)).1]) (rdC (some bs)).2) := hGn
    clear hGn hG hr
    generalize rdC (some bs) = x at *
    obtain ⟨x1, x2⟩ := x
    simp only at *
    unfold CPost at hOne
    have hrowH : Hid (Gv (From w.heap.size) wr (.slice a (acc.take 16385).length c) (acc.take 16385)) := hrow
    have hLl0 : (acc.take 16385).length = if acc.length < 16385 then acc.length else 16385 := by rw [List.length_take]; split <;> omega
    clear hrow
    obtain ⟨L, hL⟩ : ∃ L, Hid ((acc.take 16385).length = L) := ⟨_, rfl⟩
    rw [hL.out] at hLl0 ⊢
    have hLl : Hid (L = if acc.length < 16385 then acc.length else 16385) := hLl0
    clear hLl0
    go_wp2_with fail
    refine hBd.mono ?_
    rintro e w1 ⟨rfl, hw1⟩
    obtain rfl := hw1.symm
    clear hBd
    go_wp2_with fail
    refine hOne.mono ?_
    rintro e wA ⟨rfl, hrA, hoA⟩
    clear hOne
    obtain ⟨wz, wB, hWz, hWB, hbz, hbB, hxB, hz⟩ := zvbox wA (.int .i64 x1.k) (.int .i64 x1.n) (.string ⟨x1.t.toArray⟩) (.slice none 0 0)
    obtain ⟨z0, z1, z2, z3, y0, y1, y2, y3, hlz⟩ := cells_k4 hz
    obtain ⟨c0, c1, c2, c3, -, -, -, -, hlB⟩ := cells_k4 hxB
    clear hz
    have hoB : Only r wr wB := hoA.trans (Only.of_below hbB)
    have hrB := hrA.keep hbB
    have hszA := hoA.size
    have hsz := ho.size
    by_cases hmost : acc.length < 16385
    · have hLe : L = acc.length := by have := hLl.out; rwa [if_pos hmost] at this
      have hlq' := hlq.out
      have hLI : (L : Int) ≤ 16384 := by omega
      have hLb : L ≤ 900000 := by omega
      obtain ⟨wb, hWb⟩ : ∃ wb, wB.alloc (.cells #[.int .i64 x1.k, .int .i64 x1.n, .string ⟨x1.t.toArray⟩, .slice none 0 0] 29) = wb := ⟨_, rfl⟩
      have hbb : Below wB.heap.size wB wb := by rw [← hWb]; exact (Below.refl _ _).alloc (Nat.le_refl _) _
      have hblkb : wb.heap[wB.heap.size]? = some (.cells #[.int .i64 x1.k, .int .i64 x1.n, .string ⟨x1.t.toArray⟩, .slice none 0 0] 29) := by rw [← hWb]; exact heap_new _ _
      have hsB := hbB.size
      have hsbb := hbb.size
      have hrowb : Gv (From w.heap.size) wb (.slice a (acc.take 16385).length c) (acc.take 16385) := (hrowH.out.since (hoB.since (by show ¬ (w.heap.size ≤ r); omega))).below hbb
      rw [hL.out] at hrowb
      obtain ⟨g7, c7, w7, hr7, hG7, hb7, -, -⟩ := hrowb.push (l2 := [x1]) (ad := ⟨wB.heap.size, 0, none⟩) (by simp) (by simp) (World.news_of_block hblkb) (AllV.one (isV_iff.2 ⟨_, rfl, i1, i2, i3, by rw [i4]; exact IsVs.nil⟩)) (by rw [hL.out]; simp; omega) (fun k hk => by show w.heap.size ≤ k; omega) 1 22
      replace hb7 : Below w.heap.size wb w7 := hb7 _ (by omega) (fun k hk => hk)
      rw [hL.out] at hr7 hG7
      simp only [List.length_cons, List.length_nil, Nat.zero_add] at hr7 hG7
      obtain ⟨a7, ha7⟩ : ∃ a7, Hid ((some ⟨g7, 0, none⟩ : Option Addr) = a7) := ⟨_, rfl⟩
      rw [ha7.out] at hr7 hG7
      clear ha7 hblkb
      have hs7 := hb7.size
      have hob : Only r w w7 := ((ho.trans hoB).trans (Only.of_below hbb)).low' hb7 (Nat.le_refl _)
      have hr7' : RdS w7 r x2 := (hrB.keep hbb).low' hb7 hrl
      have hnew : Hid (Only r w w7 ∧ RdS w7 r x2 ∧ Gv (From w.heap.size) w7 (.slice a7 ((acc ++ [x1]).take 16385).length c7) ((acc ++ [x1]).take 16385) ∧ Gath rdC n st0 (q + 1) (acc ++ [x1]) x2) := by
        refine ⟨hob, hr7', ?_, hGnH.out⟩
        rw [take_less hmost, List.length_append, hL.out]
        exact hG7
      have hnl : ((acc ++ [x1]).take 16385).length = L + 1 := by rw [take_less hmost, List.length_append, hL.out]; rfl
      clear hGnH hrowH hrowb hG7 hb7 hob hr7' hrA hrB hoA hoB ho hbB hbb hmost hLl hs7 hszA hsz hlq hLe hlq'
      go_wp2_with (at_builtin; refine Lib.wpList_append_run _ rfl _ _ 22 22 rfl _ _ rfl rfl _ _ hr7 ?_; clear hr7)
      go_roundg (n - (q + 1))
      case measure => omega
      case rel => exact ⟨q + 1, a7, c7, _, x2, by omega, rfl, by go_num, by rw [hnl], hnew⟩
    · have hLe : L = 16385 := by have := hLl.out; rwa [if_neg hmost] at this
      have hLI : ¬ (L : Int) ≤ 16384 := by omega
      have hnew : Hid (Only r w wB ∧ RdS wB r x2 ∧ Gv (From w.heap.size) wB (.slice a ((acc ++ [x1]).take 16385).length c) ((acc ++ [x1]).take 16385) ∧ Gath rdC n st0 (q + 1) (acc ++ [x1]) x2) := by
        refine ⟨ho.trans hoB, hrB, ?_, hGnH.out⟩
        rw [take_more (by omega)]
        exact hrowH.out.since (hoB.since (by show ¬ (w.heap.size ≤ r); omega))
      have hnl : ((acc ++ [x1]).take 16385).length = L := by rw [take_more (by omega), hL.out]
      clear hGnH hrowH hrA hrB hoA hoB ho hbB hmost hLl hszA hsz hlq hLe
      go_wp2_with fail
      go_roundg (n - (q + 1))
      case measure => omega
      case rel => exact ⟨q + 1, a, c, _, x2, by omega, rfl, by go_num, by rw [hnl], hnew⟩
def TIPost (w : World) (r n : Nat) (st : RSt) (e : Ending) (w' : World) : Prop := (∃ a c, e = .returned (.slice a ((rdG rdX n st).1.take 16385).length c) ∧ OwnI w' w.heap.size (.slice a ((rdG rdX n st).1.take 16385).length c) ((rdG rdX n st).1.take 16385)) ∧ RdS w' r (rdG rdX n st).2 ∧ Only r w w'
set_option maxRecDepth 100000 in
set_option maxHeartbeats 4000000 in
theorem takeI_any {w : World} {r : Nat} {st0 : RSt} (h : RdS w r st0) (hlf0 : lft st0 ≤ 900000) (n : Nat) (hn : n ≤ 9223372036854775807) : Calls Try.prog 81 #[.pointer (some ⟨r, 0, none⟩), .int .i64 n, .int .i64 16384, .func (Fn.func 82) #[] #[]] w fun e w' => TIPost w r n st0 e w' := by
  have hrl := h.lt
  have hst : Hid (Only r w w ∧ RdS w r st0) := ⟨Only.refl _ _, h⟩
  clear h
  go_enter Try.func81, Try.ntmps81
  go_wp2_with fail
  go_loopg [9, 10] n (fun gk out i wr => ∃ (q : Nat) (a : Option Addr) (c : Nat) (acc : List In) (st : RSt), q ≤ n ∧ gk = n - q ∧ i = .int .i64 q ∧ out = .slice a (acc.take 16385).length c ∧ Hid (Only r w wr ∧ RdS wr r st ∧ OwnI wr w.heap.size (.slice a (acc.take 16385).length c) (acc.take 16385) ∧ Gath rdX n st0 q acc st))
  case atStart => exact ⟨0, none, 0, [], st0, Nat.zero_le _, rfl, rfl, rfl, hst.out.1, hst.out.2, by simpa using OwnI.nil _ _, Gath.start _ _ _⟩
  case round =>
    obtain ⟨q, a, c, acc, st, hq, rfl, rfl, rfl, HI⟩ := hrel
    obtain ⟨ho, hr, hrow, hG⟩ := HI.out
    clear HI hst
    have hfin : Hid (st = none ∨ q = n → TIPost w r n st0 (.returned (.slice a (acc.take 16385).length c)) wr) := fun he => by
      obtain ⟨e1, e2⟩ := hG.done he
      rw [e1] at hrow ⊢
      rw [e2] at hr
      exact ⟨⟨a, c, rfl, hrow⟩, hr, ho⟩
    by_cases hlt : q < n
    rotate_left
    · have hltI : ¬ (q : Int) < (n : Int) := by omega
      have hpost := hfin.out (Or.inr (by omega))
      clear ho hr hrow hG hfin
      generalize (acc.take 16385).length = L at *
      go_wp2
      go_ret
      exact hpost
    have hltI : (q : Int) < (n : Int) := by omega
    have hBd := bad_any hr
    rcases st with _ | bs
    · have hpost := hfin.out (Or.inl rfl)
      simp only [Option.isNone_none] at hBd
      clear ho hr hrow hG hfin
      generalize (acc.take 16385).length = L at *
      go_wp2_with fail
      refine hBd.mono ?_
      rintro e w1 ⟨rfl, rfl⟩
      clear hBd
      go_wp2
      go_ret
      exact hpost
    simp only [Option.isNone_some] at hBd
    clear hfin
    have hlf : lft (some bs) ≤ 900000 := Nat.le_trans hG.2.2.2.2.1 hlf0
    have hq9 : q ≤ 900000 := by have := hG.2.2.2.2.2 bs rfl; omega
    have hlq : Hid (acc.length = q) := hG.len
    have hOne := readInstr_any hr
    have hGn := hG.next hlt (s := fun _ => 1) (fun v => by omega) (fun st b' h => rdX_cut h)

    have hGnH : Hid (Gath rdX n st0 (q + 1) (acc ++ [(rdX (some bs)).1]) (rdX (some bs)).2) := hGn
    clear hGn hG hr
    generalize rdX (some bs) = x at *
    obtain ⟨x1, x2⟩ := x
    simp only at *
    have hrowH : Hid (OwnI wr w.heap.size (.slice a (acc.take 16385).length c) (acc.take 16385)) := hrow
    have hLl0 : (acc.take 16385).length = if acc.length < 16385 then acc.length else 16385 := by rw [List.length_take]; split <;> omega
    clear hrow
    obtain ⟨L, hL⟩ : ∃ L, Hid ((acc.take 16385).length = L) := ⟨_, rfl⟩
    rw [hL.out] at hLl0 ⊢
    have hLl : Hid (L = if acc.length < 16385 then acc.length else 16385) := hLl0
    clear hLl0
    go_wp2_with fail
    refine hBd.mono ?_
    rintro e w1 ⟨rfl, hw1⟩
    obtain rfl := hw1.symm
    clear hBd
    go_wp2_with fail
    refine hOne.mono ?_
    rintro e wA ⟨rfl, hrA, hoA⟩
    clear hOne
    obtain ⟨wz, wB, hWz, hWB, hbz, hbB, -, hxB, hz⟩ := zibox wA (.int .i64 x1.op) (.int .i64 x1.a)
    obtain ⟨z0, z1, y0, y1, hlz⟩ := cells_k2 hz
    obtain ⟨c0, c1, -, -, hlB⟩ := cells_k2 hxB
    clear hz
    have hoB : Only r wr wB := hoA.trans (Only.of_below hbB)
    have hrB := hrA.keep hbB
    have hszA := hoA.size
    have hsz := ho.size
    by_cases hmost : acc.length < 16385
    · have hLe : L = acc.length := by have := hLl.out; rwa [if_pos hmost] at this
      have hlq' := hlq.out
      have hLI : (L : Int) ≤ 16384 := by omega
      have hLb : L ≤ 900000 := by omega
      obtain ⟨wb, hWb⟩ : ∃ wb, wB.alloc (.cells #[.int .i64 x1.op, .int .i64 x1.a] 46) = wb := ⟨_, rfl⟩
      have hbb : Below wB.heap.size wB wb := by rw [← hWb]; exact (Below.refl _ _).alloc (Nat.le_refl _) _
      have hblkb : wb.heap[wB.heap.size]? = some (.cells #[.int .i64 x1.op, .int .i64 x1.a] 46 (0, 0)) := by rw [← hWb]; exact heap_new _ _
      have hsB := hbB.size
      have hsbb := hbb.size
      have hrowb : OwnI wb w.heap.size (.slice a (acc.take 16385).length c) (acc.take 16385) := (hrowH.out.since (fun j hj => by have := World.ownsRow.lt hrowH.out j hj; exact hoB.block j this.2 (by omega))).since (fun j hj => by have := World.ownsRow.lt hrowH.out j hj; exact hbb.block j (by omega))
      rw [hL.out] at hrowb
      obtain ⟨a7, c7, w7, hr7, hG7, hb7⟩ := OwnI.push (w := wb) (i := x1) hrowb hL.out hblkb (by omega) (by omega)
      clear hblkb
      have hs7 := hb7.size
      have hob : Only r w w7 := ((ho.trans hoB).trans (Only.of_below hbb)).low' hb7 (Nat.le_refl _)
      have hr7' : RdS w7 r x2 := (hrB.keep hbb).low' hb7 hrl
      have hnew : Hid (Only r w w7 ∧ RdS w7 r x2 ∧ OwnI w7 w.heap.size (.slice a7 ((acc ++ [x1]).take 16385).length c7) ((acc ++ [x1]).take 16385) ∧ Gath rdX n st0 (q + 1) (acc ++ [x1]) x2) := by
        refine ⟨hob, hr7', ?_, hGnH.out⟩
        rw [take_less hmost, List.length_append, hL.out]
        exact hG7
      have hnl : ((acc ++ [x1]).take 16385).length = L + 1 := by rw [take_less hmost, List.length_append, hL.out]; rfl
      clear hGnH hrowH hrowb hG7 hb7 hob hr7' hrA hrB hoA hoB ho hbB hbb hmost hLl hs7 hszA hsz hlq hLe hlq'
      go_wp2_with (at_builtin; refine Lib.wpList_append_run _ rfl _ _ 42 42 rfl _ _ rfl rfl _ _ hr7 ?_; clear hr7)
      go_roundg (n - (q + 1))
      case measure => omega
      case rel => exact ⟨q + 1, a7, c7, _, x2, by omega, rfl, by go_num, by rw [hnl], hnew⟩
    · have hLe : L = 16385 := by have := hLl.out; rwa [if_neg hmost] at this
      have hLI : ¬ (L : Int) ≤ 16384 := by omega
      have hnew : Hid (Only r w wB ∧ RdS wB r x2 ∧ OwnI wB w.heap.size (.slice a ((acc ++ [x1]).take 16385).length c) ((acc ++ [x1]).take 16385) ∧ Gath rdX n st0 (q + 1) (acc ++ [x1]) x2) := by
        refine ⟨ho.trans hoB, hrB, ?_, hGnH.out⟩
        rw [take_more (by omega)]
        exact hrowH.out.since (fun j hj => by have := World.ownsRow.lt hrowH.out j hj; exact hoB.block j this.2 (by omega))
      have hnl : ((acc ++ [x1]).take 16385).length = L := by rw [take_more (by omega), hL.out]
      clear hGnH hrowH hrA hrB hoA hoB ho hbB hmost hLl hszA hsz hlq hLe
      go_wp2_with fail
      go_roundg (n - (q + 1))
      case measure => omega
      case rel => exact ⟨q + 1, a, c, _, x2, by omega, rfl, by go_num, by rw [hnl], hnew⟩
end Go.Proofs.Ytndahpcjkcihlaa
/- A function read: the program's. -/
namespace Go.Proofs.Ytndahpcjkcihlaa
open Go.RowKit
set_option linter.unusedVariables false
set_option linter.unusedSimpArgs false
attribute [local go_sem ↓] Go.wp_at_zero Go.wp_at_succ

/-- As many instructions as are kept. -/
def trF (f : Fu) : Fu := ⟨f.params, f.locals, f.zero, f.stack, f.code.take 16385⟩
def rdF' (st : RSt) : Fu × RSt := (trF (rdF st).1, (rdF st).2)
def RFPost (w : World) (r : Nat) (x : Fu × RSt) (e : Ending) (w' : World) : Prop := (∃ ka kc, e = .returned (.agg #[.int .i64 x.1.params, .int .i64 x.1.locals, .int .i64 x.1.zero, .int .i64 x.1.stack, .slice ka x.1.code.length kc]) ∧ OwnI w' w.heap.size (.slice ka x.1.code.length kc) x.1.code) ∧ RdS w' r x.2 ∧ Only r w w'
set_option maxRecDepth 100000 in
set_option maxHeartbeats 2000000 in
theorem readFunc_any {w : World} {r : Nat} {st : RSt} (h : RdS w r st) (hlf : lft st ≤ 900000) : Calls Try.prog 52 #[.pointer (some ⟨r, 0, none⟩)] w fun e w' => RFPost w r (rdF' st) e w' := by
  obtain ⟨w0, hW0, hb0, hl0, hx0⟩ := box5 w (.int .i64 0) (.int .i64 0) (.int .i64 0) (.int .i64 0) (.slice none 0 0) 44
  have hrl := h.lt
  have hlt0 : w.heap.size < w0.heap.size := by omega
  have hN1 := number_any (h.keep hb0)
  obtain ⟨X, HX⟩ : ∃ X, Hid (rdF' st = X) := ⟨_, rfl⟩
  rw [HX.out]
  have hXe : Hid (X = (⟨(rdN st).1, (rdN (rdN st).2).1, (rdN (rdN (rdN st).2).2).1, (rdN (rdN (rdN (rdN st).2).2).2).1, (rdG rdX (rdN (rdN (rdN (rdN (rdN st).2).2).2).2).1 (rdN (rdN (rdN (rdN (rdN st).2).2).2).2).2).1.take 16385⟩, (rdG rdX (rdN (rdN (rdN (rdN (rdN st).2).2).2).2).1 (rdN (rdN (rdN (rdN (rdN st).2).2).2).2).2).2)) := by
    show _ = _
    rw [← HX.out]
    unfold rdF' trF
    rw [rdF_eq]
  have g1 : lft (rdN st).2 ≤ 900000 := Nat.le_trans (rdN_lft _) hlf
  have g2 : lft (rdN (rdN st).2).2 ≤ 900000 := Nat.le_trans (rdN_lft _) g1
  have g3 : lft (rdN (rdN (rdN st).2).2).2 ≤ 900000 := Nat.le_trans (rdN_lft _) g2
  have g4 : lft (rdN (rdN (rdN (rdN st).2).2).2).2 ≤ 900000 := Nat.le_trans (rdN_lft _) g3
  have g5 : lft (rdN (rdN (rdN (rdN (rdN st).2).2).2).2).2 ≤ 900000 := Nat.le_trans (rdN_lft _) g4
  have l1 := rdN_le st
  have l2 := rdN_le (rdN st).2
  have l3 := rdN_le (rdN (rdN st).2).2
  have l4 := rdN_le (rdN (rdN (rdN st).2).2).2
  have l5 := rdN_le (rdN (rdN (rdN (rdN st).2).2).2).2
  clear HX h hl0 hlf g1 g2 g3 g4
  generalize rdN st = q1 at *
  obtain ⟨n1, s1⟩ := q1
  simp only at *
  go_enter Try.func52, Try.ntmps52
  go_wp2_with fail
  refine hN1.mono ?_
  rintro e w1 ⟨rfl, hr1, ho1⟩
  clear hN1
  have hN2 := number_any hr1
  generalize rdN s1 = q2 at *
  obtain ⟨n2, s2⟩ := q2
  simp only at *
  go_wp2_with fail
  refine hN2.mono ?_
  rintro e w2 ⟨rfl, hr2, ho2⟩
  clear hN2 hr1
  have hN3 := number_any hr2
  generalize rdN s2 = q3 at *
  obtain ⟨n3, s3⟩ := q3
  simp only at *
  go_wp2_with fail
  refine hN3.mono ?_
  rintro e w3 ⟨rfl, hr3, ho3⟩
  clear hN3 hr2
  have hN4 := number_any hr3
  generalize rdN s3 = q4 at *
  obtain ⟨n4, s4⟩ := q4
  simp only at *
  go_wp2_with fail
  refine hN4.mono ?_
  rintro e w4 ⟨rfl, hr4, ho4⟩
  clear hN4 hr3
  have ho04 : Only r w0 w4 := ((ho1.trans ho2).trans ho3).trans ho4
  have hx4 := ho04.cells hlt0 (by omega) hx0
  obtain ⟨wz, w5, hWz, hW5, hbz, hb5, -, hx5, hz⟩ := fbox w4 (.int .i64 n1) (.int .i64 n2) (.int .i64 n3) (.int .i64 n4) (.slice none 0 0)
  obtain ⟨z0, z1, z2, z3, z4, y0, y1, y2, y3, y4, hlz⟩ := cells_k5 hz
  have hr5 := hr4.keep hb5
  have hs04 := ho04.size
  have ho5 : Only r w w5 := ((Only.of_below hb0).trans ho04).trans (Only.of_below hb5)
  have hx05 := (hb5.block _ (Array.getElem?_eq_some_iff.1 hx4).1).trans hx4
  have hl5 : w4.heap.size < w5.heap.size := (Array.getElem?_eq_some_iff.1 hx5).1
  have hN5 := number_any hr5
  generalize rdN s4 = q5 at *
  obtain ⟨n5, s5⟩ := q5
  simp only at *
  clear ho1 ho2 ho3 ho4 ho04 hr4 hx4 hx0 hz
  go_wp2_with fail
  refine hN5.mono ?_
  rintro e w6 ⟨rfl, hr6, ho6⟩
  have hx6 := ho6.cells hl5 (by omega) hx5
  have hx06 := ho6.cells (by omega) (by omega) hx05
  have hT := takeI_any hr6 g5 n5 l5
  have hl6 : w4.heap.size < w6.heap.size := (Array.getElem?_eq_some_iff.1 hx6).1
  have ho06 := ho5.trans ho6
  clear hN5 hr5 hx5 hx05 hWz hW5 hW0 z0 z1 z2 z3 z4 y0 y1 y2 y3 y4 hlz hb5 ho5
  unfold TIPost at hT
  generalize rdG rdX n5 s5 = q6 at *
  obtain ⟨cd, s6⟩ := q6
  simp only at *
  generalize cd.take 16385 = kl at *
  go_wp2_with fail
  refine hT.mono ?_
  rintro e w7 ⟨⟨ka, kc, rfl, hI7⟩, hr7, ho7⟩
  have hx7 := ho7.cells hl6 (by omega) hx6
  have hx07 := ho7.cells (by omega) (by omega) hx06
  have hs7 := ho7.size
  obtain ⟨m0, m1, m2, m3, m4, fm0, fm1, fm2, fm3, fm4, hlm⟩ := cells_k5 hx7
  obtain ⟨w8, hW8⟩ : ∃ w8, w7.setCell ⟨w4.heap.size, 4, none⟩ (.slice ka kl.length kc) = w8 := ⟨_, rfl⟩
  have hx8 : w8.heap[w4.heap.size]? = some (.cells #[.int .i64 n1, .int .i64 n2, .int .i64 n3, .int .i64 n4, .slice ka kl.length kc] 44 (0, 0)) := by rw [← hW8]; exact set5_4 hx7 _
  have hx08 : w8.heap[w.heap.size]? = some (.cells #[.int .i64 0, .int .i64 0, .int .i64 0, .int .i64 0, .slice none 0 0] 44 (0, 0)) := by rw [← hW8, Below.heap_setCell _ _ _ _ (by show w.heap.size ≠ w4.heap.size; omega)]; exact hx07
  have ho8 : Only r w w8 := by rw [← hW8]; exact (ho06.trans ho7).setCell (by omega) _ _
  have hr8 : RdS w8 r s6 := by rw [← hW8]; exact hr7.setCell (by omega) _ _
  have hI8 : OwnI w8 w6.heap.size (.slice ka kl.length kc) kl := hI7.since (fun j hj => by
    have := World.ownsRow.lt hI7 j hj
    rw [← hW8, Below.heap_setCell _ _ _ _ (by show j ≠ w4.heap.size; omega)])
  obtain ⟨wN, hWN, hxN, hoN, hrN, hsN, hkN⟩ := resF hx08 ho8 hr8 hrl (.int .i64 n1) (.int .i64 n2) (.int .i64 n3) (.int .i64 n4) (.slice ka kl.length kc)
  have hIN : OwnI wN w.heap.size (.slice ka kl.length kc) kl := (hI8.since (fun j hj => hkN j (by have := World.ownsRow.lt hI8 j hj; omega))).low (by omega)
  obtain ⟨p0, p1, p2, p3, p4, -, -, -, -, -, hlp⟩ := cells_k5 hx8
  obtain ⟨o0, o1, o2, o3, o4, fo0, fo1, fo2, fo3, fo4, hlo⟩ := cells_k5 hx08
  obtain ⟨t0, t1, t2, t3, t4, -, -, -, -, -, hlN⟩ := cells_k5 hxN
  have hpost : RFPost w r X (.returned (.agg #[.int .i64 n1, .int .i64 n2, .int .i64 n3, .int .i64 n4, .slice ka kl.length kc])) wN := by rw [hXe.out]; exact ⟨⟨ka, kc, rfl, hIN⟩, hrN, hoN⟩
  clear hT hr6 hr7 hr8 ho6 ho06 ho7 ho8 hx6 hx06 hx7 hx07 hx8 hx08 hxN hI7 hI8 hIN hoN hrN hkN hXe hsN hs7 hs04
  go_wp2_with fail
  exact bodyPost_ret (v := .agg #[.int .i64 n1, .int .i64 n2, .int .i64 n3, .int .i64 n4, .slice ka kl.length kc]) (by simp [results, Try.results52, go_sem, hlN, t0, t1, t2, t3, t4]) rfl hpost
end Go.Proofs.Ytndahpcjkcihlaa
