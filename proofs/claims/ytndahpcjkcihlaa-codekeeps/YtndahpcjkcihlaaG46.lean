/- Texts of ours, joined: Jt, Ju, Jv. -/
import Derived.Test.YtndahpcjkcihlaaG45
import Derived.Test.YtndahpcjkcihlaaG41
/- Functions taken: the program's. -/
namespace Go.Proofs.Ytndahpcjkcihlaa
open Go.RowKit
set_option linter.unusedVariables false
set_option linter.unusedSimpArgs false
attribute [local go_sem ↓] Go.wp_at_zero Go.wp_at_succ

theorem rdF'_cut {st : RSt} {b' : List UInt8} (h : (rdF' st).2 = some b') : ∃ b, st = some b ∧ 1 + b'.length ≤ b.length := by
  obtain ⟨b, h1, h2⟩ := rdF_cut (st := st) h
  exact ⟨b, h1, by omega⟩
theorem rdF'_ok (st : RSt) : InR (rdF' st).1.params ∧ InR (rdF' st).1.locals ∧ InR (rdF' st).1.zero ∧ InR (rdF' st).1.stack ∧ ∀ i ∈ (rdF' st).1.code, InR i.op ∧ InR i.a := by
  refine ⟨inR_nat (rdN_le _), inR_nat (rdN_le _), inR_nat (rdN_le _), inR_nat (rdN_le _), fun i hi => ?_⟩
  have hi' : i ∈ (rdF st).1.code.take 16385 := hi
  have h1 := List.mem_of_mem_take hi'
  rw [rdF_eq] at h1
  exact rdG_all (f := rdX) (P := fun i => InR i.op ∧ InR i.a) (fun st => rdX_ok st) _ _ i h1
def TFPost (w : World) (r n : Nat) (st : RSt) (e : Ending) (w' : World) : Prop := (∃ a c, e = .returned (.slice a ((rdG rdF' n st).1.take 33).length c) ∧ GF w.heap.size w' (.slice a ((rdG rdF' n st).1.take 33).length c) ((rdG rdF' n st).1.take 33)) ∧ RdS w' r (rdG rdF' n st).2 ∧ Only r w w'
set_option maxRecDepth 100000 in
set_option maxHeartbeats 4000000 in
theorem takeF_any {w : World} {r : Nat} {st0 : RSt} (h : RdS w r st0) (hlf0 : lft st0 ≤ 900000) (n : Nat) (hn : n ≤ 9223372036854775807) : Calls Try.prog 51 #[.pointer (some ⟨r, 0, none⟩), .int .i64 n, .int .i64 32, .func (Fn.func 52) #[] #[]] w fun e w' => TFPost w r n st0 e w' := by
  have hrl := h.lt
  have hst : Hid (Only r w w ∧ RdS w r st0) := ⟨Only.refl _ _, h⟩
  clear h
  go_enter Try.func51, Try.ntmps51
  go_wp2_with fail
  go_loopg [9, 10] n (fun gk out i wr => ∃ (q : Nat) (a : Option Addr) (c : Nat) (acc : List Fu) (st : RSt), q ≤ n ∧ gk = n - q ∧ i = .int .i64 q ∧ out = .slice a (acc.take 33).length c ∧ Hid (Only r w wr ∧ RdS wr r st ∧ GF w.heap.size wr (.slice a (acc.take 33).length c) (acc.take 33) ∧ Gath rdF' n st0 q acc st))
  case atStart => exact ⟨0, none, 0, [], st0, Nat.zero_le _, rfl, rfl, rfl, hst.out.1, hst.out.2, by simpa using GF.nil _ _, Gath.start _ _ _⟩
  case round =>
    obtain ⟨q, a, c, acc, st, hq, rfl, rfl, rfl, HI⟩ := hrel
    obtain ⟨ho, hr, hrow, hG⟩ := HI.out
    clear HI hst
    have hfin : Hid (st = none ∨ q = n → TFPost w r n st0 (.returned (.slice a (acc.take 33).length c)) wr) := fun he => by
      obtain ⟨e1, e2⟩ := hG.done he
      rw [e1] at hrow ⊢
      rw [e2] at hr
      exact ⟨⟨a, c, rfl, hrow⟩, hr, ho⟩
    by_cases hlt : q < n
    rotate_left
    · have hltI : ¬ (q : Int) < (n : Int) := by omega
      have hpost := hfin.out (Or.inr (by omega))
      clear ho hr hrow hG hfin
      generalize (acc.take 33).length = L at *
      go_wp2
      go_ret
      exact hpost
    have hltI : (q : Int) < (n : Int) := by omega
    have hBd := bad_any hr
    rcases st with _ | bs
    · have hpost := hfin.out (Or.inl rfl)
      simp only [Option.isNone_none] at hBd
      clear ho hr hrow hG hfin
      generalize (acc.take 33).length = L at *
      go_wp2_with fail
      refine hBd.mono ?_
      rintro e w1 ⟨rfl, rfl⟩
      clear hBd
      go_wp2
      go_ret
      exact hpost
    simp only [Option.isNone_some] at hBd
    clear hfin
    have hlf : lft (some bs) ≤ 900000 := Nat.le_trans hG.2.2.2.2.1 hlf0
    have hq9 : q ≤ 900000 := by have := hG.2.2.2.2.2 bs rfl; omega
    have hlq : Hid (acc.length = q) := hG.len
    have hOne := readFunc_any hr (by omega)
    have hGn := hG.next hlt (s := fun _ => 1) (fun v => by omega) (fun st b' h => rdF'_cut h)
    have hokF := rdF'_ok (some bs)
    have hGnH : Hid (Gath rdF' n st0 (q + 1) (acc ++ [(rdF' (some bs)).1]) (rdF' (some bs)).2) := hGn
    clear hGn hG hr
    generalize rdF' (some bs) = x at *
    obtain ⟨x1, x2⟩ := x
    simp only at *
    unfold RFPost at hOne
    have hrowH : Hid (GF w.heap.size wr (.slice a (acc.take 33).length c) (acc.take 33)) := hrow
    have hLl0 : (acc.take 33).length = if acc.length < 33 then acc.length else 33 := by rw [List.length_take]; split <;> omega
    clear hrow
    obtain ⟨L, hL⟩ : ∃ L, Hid ((acc.take 33).length = L) := ⟨_, rfl⟩
    rw [hL.out] at hLl0 ⊢
    have hLl : Hid (L = if acc.length < 33 then acc.length else 33) := hLl0
    clear hLl0
    go_wp2_with fail
    refine hBd.mono ?_
    rintro e w1 ⟨rfl, hw1⟩
    obtain rfl := hw1.symm
    clear hBd
    go_wp2_with fail
    refine hOne.mono ?_
    rintro e wA ⟨⟨ka, kc, rfl, hIA⟩, hrA, hoA⟩
    clear hOne
    obtain ⟨wz, wB, hWz, hWB, hbz, hbB, -, hxB, hz⟩ := fbox wA (.int .i64 x1.params) (.int .i64 x1.locals) (.int .i64 x1.zero) (.int .i64 x1.stack) (.slice ka x1.code.length kc)
    obtain ⟨z0, z1, z2, z3, z4, y0, y1, y2, y3, y4, hlz⟩ := cells_k5 hz
    obtain ⟨c0, c1, c2, c3, c4, -, -, -, -, -, hlB⟩ := cells_k5 hxB
    clear hz
    have hoB : Only r wr wB := hoA.trans (Only.of_below hbB)
    have hrB := hrA.keep hbB
    have hszA := hoA.size
    have hsz := ho.size
    by_cases hmost : acc.length < 33
    · have hLe : L = acc.length := by have := hLl.out; rwa [if_pos hmost] at this
      have hlq' := hlq.out
      have hLI : (L : Int) ≤ 32 := by omega
      have hLb : L ≤ 900000 := by omega
      obtain ⟨wb, hWb⟩ : ∃ wb, wB.alloc (.cells #[.int .i64 x1.params, .int .i64 x1.locals, .int .i64 x1.zero, .int .i64 x1.stack, .slice ka x1.code.length kc] 44) = wb := ⟨_, rfl⟩
      have hbb : Below wB.heap.size wB wb := by rw [← hWb]; exact (Below.refl _ _).alloc (Nat.le_refl _) _
      have hblkb : wb.heap[wB.heap.size]? = some (.cells #[.int .i64 x1.params, .int .i64 x1.locals, .int .i64 x1.zero, .int .i64 x1.stack, .slice ka x1.code.length kc] 44 (0, 0)) := by rw [← hWb]; exact heap_new _ _
      have hsB := hbB.size
      have hsbb := hbb.size
      have hbAb : Below wA.heap.size wA wb := hbB.trans (hbb.mono hsB)
      have hIb : OwnI wb wr.heap.size (.slice ka x1.code.length kc) x1.code := hIA.since (fun j hj => hbAb.block j (World.ownsRow.lt hIA j hj).2)
      obtain ⟨wT, hsT, hbT, hkT⟩ := World.cutTo wA wr.heap.size hszA
      have hrowb : GF w.heap.size wb (.slice a (acc.take 33).length c) (acc.take 33) := (hrowH.out.since (w' := wb) (by omega) (fun j hj hl => (hbAb.block j (by omega)).trans (hoA.block j hl (by omega))))
      rw [hL.out] at hrowb
      have hGT : GF w.heap.size wT (.slice a L c) (acc.take 33) := by
        have h9 := hrowH.out
        rw [hL.out] at h9
        exact h9.since (by omega) (fun j hj hl => (hkT j hl).trans (hoA.block j hl (by omega)))
      have hbTb : Below wT.heap.size wT wb := by rw [hsT]; exact hbT.trans (hbAb.mono hszA)
      have hfn : IsFn (From wT.heap.size) wb x1 (.slice ka x1.code.length kc) := ⟨hokF.1, hokF.2.1, hokF.2.2.1, hokF.2.2.2.1, hIb.is hokF.2.2.2.2 (fun k hk => by have := World.ownsRow.lt hIb k hk; show wT.heap.size ≤ k; omega)⟩
      obtain ⟨a7, c7, w7, hr7, hG7, hb7, -⟩ := GF.push (n1 := 0) hGT hbTb (f := x1) (hIb.low (by omega)) hfn hblkb (by omega) (by rw [hL.out]; omega) 1
      rw [hL.out] at hr7 hG7
      clear hblkb hGT hbTb hfn hIb hbAb hbT hkT hsT
      have hs7 := hb7.size
      have hob : Only r w w7 := ((ho.trans hoB).trans (Only.of_below hbb)).low' hb7 (Nat.le_refl _)
      have hr7' : RdS w7 r x2 := (hrB.keep hbb).low' hb7 hrl
      have hnew : Hid (Only r w w7 ∧ RdS w7 r x2 ∧ GF w.heap.size w7 (.slice a7 ((acc ++ [x1]).take 33).length c7) ((acc ++ [x1]).take 33) ∧ Gath rdF' n st0 (q + 1) (acc ++ [x1]) x2) := by
        refine ⟨hob, hr7', ?_, hGnH.out⟩
        rw [take_less hmost, List.length_append, hL.out]
        exact hG7
      have hnl : ((acc ++ [x1]).take 33).length = L + 1 := by rw [take_less hmost, List.length_append, hL.out]; rfl
      clear hGnH hrowH hrowb hG7 hb7 hob hr7' hrA hrB hoA hoB ho hbB hbb hmost hLl hs7 hszA hsz hlq hLe hlq'
      go_wp2_with (at_builtin; refine Lib.wpList_append_run _ rfl _ _ 23 23 rfl _ _ rfl rfl _ _ hr7 ?_; clear hr7)
      go_roundg (n - (q + 1))
      case measure => omega
      case rel => exact ⟨q + 1, a7, c7, _, x2, by omega, rfl, by go_num, by rw [hnl], hnew⟩
    · have hLe : L = 33 := by have := hLl.out; rwa [if_neg hmost] at this
      have hLI : ¬ (L : Int) ≤ 32 := by omega
      have hnew : Hid (Only r w wB ∧ RdS wB r x2 ∧ GF w.heap.size wB (.slice a ((acc ++ [x1]).take 33).length c) ((acc ++ [x1]).take 33) ∧ Gath rdF' n st0 (q + 1) (acc ++ [x1]) x2) := by
        refine ⟨ho.trans hoB, hrB, ?_, hGnH.out⟩
        rw [take_more (by omega)]
        exact hrowH.out.since (w' := wB) (by have := hbB.size; omega) (fun j hj hl => (hbB.block j (by omega)).trans (hoA.block j hl (by omega)))
      have hnl : ((acc ++ [x1]).take 33).length = L := by rw [take_more (by omega), hL.out]
      clear hGnH hrowH hrA hrB hoA hoB ho hbB hmost hLl hszA hsz hlq hLe
      go_wp2_with fail
      go_roundg (n - (q + 1))
      case measure => omega
      case rel => exact ⟨q + 1, a, c, _, x2, by omega, rfl, by go_num, by rw [hnl], hnew⟩
end Go.Proofs.Ytndahpcjkcihlaa
/- A module read: the program's. -/
namespace Go.Proofs.Ytndahpcjkcihlaa
open Go.RowKit
set_option linter.unusedVariables false
set_option linter.unusedSimpArgs false
attribute [local go_sem ↓] Go.wp_at_zero Go.wp_at_succ

theorem rdG_tr : ∀ (n : Nat) (st : RSt), rdG rdF' n st = ((rdG rdF n st).1.map trF, (rdG rdF n st).2)
  | 0, st => rfl
  | n + 1, none => rfl
  | n + 1, some b => by
    have ih := rdG_tr n (rdF (some b)).2
    have e1 : (rdF' (some b)).2 = (rdF (some b)).2 := rfl
    have e2 : (rdF' (some b)).1 = trF (rdF (some b)).1 := rfl
    rw [rdG, rdG, e1, e2, ih]
    rfl
/-- What is kept of a module that is read. -/
def trM (m : Md) : Md := ⟨m.consts.take 16385, (m.funcs.map trF).take 33⟩
def MPost (w : World) (m : Md) (ok : Bool) (e : Ending) (w' : World) : Prop := (∃ a c fa fc n1, e = .returned (.tuple #[.agg #[.slice a m.consts.length c, .slice fa m.funcs.length fc], .bool ok]) ∧ Gv (fun k => w.heap.size ≤ k ∧ k < n1) w' (.slice a m.consts.length c) m.consts ∧ GF n1 w' (.slice fa m.funcs.length fc) m.funcs ∧ w.heap.size ≤ n1 ∧ n1 ≤ w'.heap.size) ∧ Below w.heap.size w w'
set_option maxRecDepth 100000 in
set_option maxHeartbeats 4000000 in
theorem read_any' {B : Nat → Prop} {w : World} {ab : Option Addr} {cb : Nat} {b : List UInt8} (hb : IsB B w (.slice ab b.length cb) b) (hl : b.length ≤ 900000) : Calls Try.prog 27 #[.slice ab b.length cb] w fun e w' => MPost w (trM (rdM b).1) ((rdM b).2 == some []) e w' := by
  obtain ⟨w0, hW0, hb0, hl0, hx0⟩ := box2 w (.slice none 0 0) (.slice none 0 0) 25
  have hlt0 : w.heap.size < w0.heap.size := by omega
  have hNew := new_any (hb.since (Since.of_below hb0)) (by omega)
  have hlf0 : lft (some b) ≤ 900000 := hl
  have g1 : lft (rdN (some b)).2 ≤ 900000 := Nat.le_trans (rdN_lft _) hlf0
  have g2 : lft (rdN (rdN (some b)).2).2 ≤ 900000 := Nat.le_trans (rdN_lft _) g1
  have l1 := rdN_le (some b)
  have l2 := rdN_le (rdN (some b)).2
  have hM : Hid (rdM b = _) := rdM_eq b
  obtain ⟨R, HR⟩ : ∃ R, Hid (trM (rdM b).1 = R) := ⟨_, rfl⟩
  obtain ⟨S, HS⟩ : ∃ S, Hid ((rdM b).2 = S) := ⟨_, rfl⟩
  rw [HR.out, HS.out]
  have hRS : Hid (R = ⟨(rdG rdC (rdN (some b)).1 (rdN (rdN (some b)).2).2).1.take 16385, (rdG rdF' (rdN (rdN (some b)).2).1 (rdG rdC (rdN (some b)).1 (rdN (rdN (some b)).2).2).2).1.take 33⟩ ∧ S = (rdG rdF' (rdN (rdN (some b)).2).1 (rdG rdC (rdN (some b)).1 (rdN (rdN (some b)).2).2).2).2) := by
    refine ⟨?_, ?_⟩
    · rw [← HR.out, hM.out, rdG_tr]; rfl
    · rw [← HS.out, hM.out, rdG_tr]
  have hgl : ∀ st, lft st ≤ 900000 → ∀ n, lft (rdG rdC n st).2 ≤ 900000 := fun st h n => by
    rcases e : (rdG rdC n st).2 with _ | b'
    · simp [lft]
    · obtain ⟨b1, e1, l1⟩ := rdG_cut (s := fun v => 1 + v.t.length + v.l.length) (fun st b' h => rdC_cut h) n st b' e
      subst e1
      have : lft (some b1) = b1.length := rfl
      have : lft (some b') = b'.length := rfl
      omega
  clear hM HR HS hb hl0 g1
  obtain ⟨q1, HQ1⟩ : ∃ q, Hid (rdN (some b) = q) := ⟨_, rfl⟩
  rw [HQ1.out] at hRS l1 l2 g2
  obtain ⟨nc, s1⟩ := q1
  simp only at hRS l1 l2 g2
  obtain ⟨q2, HQ2⟩ : ∃ q, Hid (rdN s1 = q) := ⟨_, rfl⟩
  rw [HQ2.out] at hRS l2 g2
  obtain ⟨nf, s2⟩ := q2
  simp only at hRS l2 g2
  have g3 := hgl s2 g2 nc
  clear hgl
  go_enter Try.func27, Try.ntmps27
  go_wp2_with fail
  refine hNew.mono ?_
  rintro e w1 ⟨⟨r, rfl, hrw, hr1⟩, hb1⟩
  have hx1 := (hb1.block _ hlt0).trans hx0
  have hB1 : Below w.heap.size w w1 := hb0.trans (hb1.mono hb0.size)
  have hl1 : w.heap.size < w1.heap.size := (Array.getElem?_eq_some_iff.1 hx1).1
  have hrl1 := hr1.lt
  have hrwn : r ≠ w.heap.size := by omega
  have hwr : w.heap.size ≤ r := by omega
  have hN1 := number_any hr1
  rw [HQ1.out] at hN1
  simp only at hN1
  clear hNew hx0 hW0 hb1 hr1
  go_wp2_with fail
  refine hN1.mono ?_
  rintro e w2 ⟨rfl, hr2, ho2⟩
  have hN2 := number_any hr2
  rw [HQ2.out] at hN2
  simp only at hN2
  clear hN1 hr2
  go_wp2_with fail
  refine hN2.mono ?_
  rintro e w3 ⟨rfl, hr3, ho3⟩
  have ho13 := ho2.trans ho3
  have hx3 := ho13.cells hl1 (Ne.symm hrwn) hx1
  have hB3 : Below w.heap.size w w3 := hB1.trans (ho13.below hB1.size hwr)
  have hl3 : w.heap.size < w3.heap.size := (Array.getElem?_eq_some_iff.1 hx3).1
  have hrl3 := hr3.lt
  have hT := takeV_any hr3 g2 nc l1
  unfold TVPost at hT
  clear hN2 ho2 ho3 ho13 hB1 hx1 HQ1 HQ2
  generalize rdG rdC nc s2 = q3 at *
  obtain ⟨cs0, s3⟩ := q3
  simp only at *
  generalize cs0.take 16385 = cs at *
  go_wp2_with fail
  refine hT.mono ?_
  rintro e w4 ⟨⟨sa, sc, rfl, hG4⟩, hr4, ho4⟩
  have hx4 := ho4.cells hl3 (Ne.symm hrwn) hx3
  have hB4 : Below w.heap.size w w4 := hB3.trans (ho4.below hB3.size hwr)
  have hl4 : w.heap.size < w4.heap.size := (Array.getElem?_eq_some_iff.1 hx4).1
  have hs4 := ho4.size
  have hG4' : Gv (fun k => w3.heap.size ≤ k ∧ k < w4.heap.size) w4 (.slice sa cs.length sc) cs := hG4.base (fun k hk hl => ⟨hk, hl⟩)
  have hT2 := takeF_any hr4 g3 nf l2
  unfold TFPost at hT2
  clear hT hr3 hG4 ho4 hx3 hB3
  generalize rdG rdF' nf s3 = q4 at *
  obtain ⟨fs0, s4⟩ := q4
  simp only at *
  generalize fs0.take 33 = fs at *
  go_wp2_with fail
  refine hT2.mono ?_
  rintro e w5 ⟨⟨fa, fc, rfl, hF5⟩, hr5, ho5⟩
  have hx5 := ho5.cells hl4 (Ne.symm hrwn) hx4
  have hB5 : Below w.heap.size w w5 := hB4.trans (ho5.below hB4.size hwr)
  have hs5 := ho5.size
  have hG5 := hG4'.since (ho5.since (by rintro ⟨h1, h2⟩; omega))
  obtain ⟨wz, w6, hWz, hW6, hbz, hb6, -, hx6, hz⟩ := zmbox w5 (.slice sa cs.length sc) (.slice fa fs.length fc)
  obtain ⟨z0, z1, y0, y1, hlz⟩ := cells_k2 hz
  obtain ⟨c0, c1, -, -, hl6⟩ := cells_k2 hx6
  have hr6 := hr5.keep hb6
  have hx06 := (hb6.block _ (Array.getElem?_eq_some_iff.1 hx5).1).trans hx5
  have hB6 : Below w.heap.size w w6 := hB5.trans (hb6.mono hB5.size)
  have hG6 := hG5.below hb6
  have hF6 := hF5.below hb6
  have hs6 := hb6.size
  obtain ⟨o0, o1, fo0, fo1, hlo⟩ := cells_k2 hx06
  have hE : ∀ w', Below w6.heap.size w6 w' → Calls Try.prog 53 #[.pointer (some ⟨r, 0, none⟩)] w' fun e w'' => e = .returned (.bool (s4 == some [])) ∧ w'' = w' := fun w' hb => end_any (hr6.keep hb)
  obtain ⟨ok, Hok⟩ : ∃ ok, Hid ((s4 == some []) = ok) := ⟨_, rfl⟩
  rw [Hok.out] at hE
  have hdr : ∀ x : World, x.drew.heap = x.heap := fun _ => rfl
  have hpost : ∀ wN, ((w6.setCell ⟨w.heap.size, 0, none⟩ (.slice sa cs.length sc)).setCell ⟨w.heap.size, 1, none⟩ (.slice fa fs.length fc)).drew = wN → MPost w R (S == some []) (.returned (.tuple #[.agg #[.slice sa cs.length sc, .slice fa fs.length fc], .bool ok])) wN ∧ wN.heap[w.heap.size]? = some (.cells #[.slice sa cs.length sc, .slice fa fs.length fc] 25 (0, 0)) := fun wN hWN => by
    have hkN : ∀ k, k ≠ w.heap.size → wN.heap[k]? = w6.heap[k]? := fun k hk => by rw [← hWN, hdr, Below.heap_setCell _ _ _ _ hk, Below.heap_setCell _ _ _ _ hk]
    have hsN : wN.heap.size = w6.heap.size := by rw [← hWN, hdr]; simp [World.setCell]
    refine ⟨?_, by rw [← hWN, hdr]; simp [World.setCell, Array.getElem?_modify, hx06]⟩
    rw [hRS.out.1, hRS.out.2]
    refine ⟨⟨sa, sc, fa, fc, w4.heap.size, by rw [Hok.out], ?_, ?_, by omega, by omega⟩, ?_⟩
    · exact (hG6.since ⟨by omega, fun k hk _ => hkN k (by omega)⟩).base (fun k hk _ => ⟨by omega, hk.2⟩)
    · exact hF6.since (by omega) (fun k hk _ => hkN k (by omega))
    · rw [← hWN]
      exact ((hB6.setCell (p := ⟨w.heap.size, 0, none⟩) (Nat.le_refl _) _).setCell (p := ⟨w.heap.size, 1, none⟩) (Nat.le_refl _) _).drew
  have hne1 : w5.heap.size ≠ w.heap.size := by omega
  have hne2 : w.heap.size ≠ w5.heap.size := by omega
  clear hT2 hr4 hr5 hr6 ho5 hx4 hx5 hG4' hG5 hG6 hF5 hF6 hB4 hB5 hB6 hx06 hRS Hok hz hs6 hs5 hs4
  go_wp2_with fail
  clear hWz hW6 z0 z1 y0 y1 hlz
  go_region_held3 (fun w' => w'.cell? ⟨w5.heap.size, 0, none⟩ = some (.slice sa cs.length sc) ∧ w'.cell? ⟨w5.heap.size, 1, none⟩ = some (.slice fa fs.length fc)) (go_keep)
    ((go_at_call 53; refine (hE _ (Below.refl _ _).drew).mono ?_; rintro e w9 ⟨rfl, hw9⟩; obtain rfl := hw9.symm))
  rename_i hHeld
  obtain ⟨wN, hWN⟩ : ∃ wN, ((w6.setCell ⟨w.heap.size, 0, none⟩ (.slice sa cs.length sc)).setCell ⟨w.heap.size, 1, none⟩ (.slice fa fs.length fc)).drew = wN := ⟨_, rfl⟩
  obtain ⟨hp, hxN⟩ := hpost wN hWN
  rw [hWN]
  obtain ⟨t0, t1, -, -, hlN⟩ := cells_k2 hxN
  clear hHeld hpost hE hxN hWN c0 c1 o0 o1 fo0 fo1
  go_wp2_with fail
  exact bodyPost_ret (v := .tuple #[.agg #[.slice sa cs.length sc, .slice fa fs.length fc], .bool ok]) (by simp [results, Try.results27, go_sem, hlN, t0, t1]) rfl hp
end Go.Proofs.Ytndahpcjkcihlaa
/- What is read and kept: mathematics; two rows of bytes compared: the program's. -/
namespace Go.Proofs.Ytndahpcjkcihlaa
open Go.RowKit
set_option linter.unusedVariables false
set_option linter.unusedSimpArgs false
attribute [local go_sem ↓] Go.wp_at_zero Go.wp_at_succ

theorem trM_id {m : Md} (h1 : m.consts.length ≤ 16384) (h2 : m.funcs.length ≤ 32) (h3 : ∀ f ∈ m.funcs, f.code.length ≤ 16384) : trM m = m := by
  have e : m.funcs.map trF = m.funcs := by
    have h4 : ∀ f ∈ m.funcs, trF f = f := fun f hf => by
      have := h3 f hf
      unfold trF
      rw [List.take_of_length_le (by omega)]
    have := List.map_congr_left h4
    simpa using this
  unfold trM
  rw [e, List.take_of_length_le (by omega), List.take_of_length_le (by omega)]
theorem run_small {m : Md} {states : Int} (h : Run m states) : m.consts.length ≤ 16384 ∧ m.funcs.length ≤ 32 ∧ ∀ f ∈ m.funcs, f.code.length ≤ 16384 :=
  ⟨h.few.2, h.few.1, fun f hf => by
    obtain ⟨i, hi⟩ := List.mem_iff_getElem?.1 hf
    have := (h.fun_ i f hi).num
    unfold NumOk at this
    omega⟩
theorem run_trM {m : Md} {states : Int} (h : Run (trM m) states) : trM m = m := by
  obtain ⟨h1, h2, h3⟩ := run_small h
  have l1 : (m.consts.take 16385).length ≤ 16384 := h1
  have l2 : ((m.funcs.map trF).take 33).length ≤ 32 := h2
  have l3 : m.funcs.length ≤ 32 := by
    rw [List.length_take, List.length_map] at l2
    omega
  rw [List.length_take] at l1
  refine trM_id (by omega) l3 (fun f hf => ?_)
  have hmem : trF f ∈ (trM m).funcs := by
    show trF f ∈ (m.funcs.map trF).take 33
    rw [List.take_of_length_le (by rw [List.length_map]; omega)]
    exact List.mem_map_of_mem hf
  have h4 : (f.code.take 16385).length ≤ 16384 := h3 _ hmem
  rw [List.length_take] at h4
  omega
theorem trM_run {m : Md} {states : Int} (h : Run m states) : trM m = m := by
  obtain ⟨h1, h2, h3⟩ := run_small h
  exact trM_id h1 h2 h3
/-- How long a module's bytes are, of any that can be run. -/
theorem encM_len' {m : Md} {states : Int} (hr : Run m states) (ho : ∀ v ∈ m.consts, OkV v) : (encM m).length ≤ 18 + 27 * csz m.consts + 45 * fsz m.funcs := by
  have h1 := cs_len (l := m.consts) (fun v hv => by
    obtain ⟨hl, -, T, hS⟩ := ctype_shp (hr.con v hv)
    refine eC_len (ho v hv) hl ?_
    have := hS.kind
    rw [this]
    cases T <;> simp [kd])
  have hst := hr.st
  have hfw := hr.few
  have h2 := fs_len (l := m.funcs) (fun f hf => by
    obtain ⟨i, hi⟩ := List.mem_iff_getElem?.1 hf
    have hil := (List.getElem?_eq_some_iff.1 hi).1
    exact eF_len (hr.fun_ i f hi) (by omega) (by omega) (by omega))
  have h3 := num_le9 (n := m.consts.length) (by omega)
  have h4 := num_le9 (n := m.funcs.length) (by omega)
  unfold encM
  simp only [List.length_append]
  omega
theorem fit_trM {b : List UInt8} (h : (rdM b).2 = some []) (hl : b.length ≤ 900000) : Fit (trM (rdM b).1) := by
  have hsz := rdM_sz h
  refine ⟨fun v hv => ?_, ?_, ?_, fun f hf => ?_⟩
  · have hv' : v ∈ (rdM b).1.consts := List.mem_of_mem_take hv
    have h1 := mem_csz hv'
    have h2 : v.l = [] := by
      rw [rdM_eq] at hv'
      exact rdG_all (f := rdC) (P := fun v => v.l = []) (fun st => (rdC_ok st).2.2.2) _ _ v hv'
    rw [wt_nil h2]
    omega
  · show (List.take 16385 _).length ≤ _
    rw [List.length_take]; omega
  · show (List.take 33 _).length ≤ _
    rw [List.length_take]; omega
  · have hf' : f ∈ (rdM b).1.funcs.map trF := List.mem_of_mem_take hf
    obtain ⟨g, hg, rfl⟩ := List.mem_map.1 hf'
    show (List.take 16385 _).length ≤ _
    rw [List.length_take]; omega
set_option maxRecDepth 100000 in
set_option maxHeartbeats 1000000 in
theorem equal_any {B B' : Nat → Prop} {w : World} {a a' : Option Addr} {n c n' c' : Nat} {xs ys : List UInt8} (hx : IsB B w (.slice a n c) xs) (hy : IsB B' w (.slice a' n' c') ys) : Calls Try.prog 28 #[.slice a n c, .slice a' n' c'] w fun e w' => e = .returned (.bool (decide (xs = ys))) ∧ w' = w := by
  have c1 := str_b hx
  have c2 := str_b hy
  clear hx hy
  by_cases h : xs = ys
  · subst h
    go_enter Try.func28, Try.ntmps28
    go_wp2
    go_ret
    exact ⟨ret_bool (by simp), rfl⟩
  · go_enter Try.func28, Try.ntmps28
    go_wp2
    go_ret
    exact ⟨ret_bool (by simp [h]), rfl⟩
theorem MPost.md {w : World} {m : Md} {ok : Bool} {e : Ending} {w' : World} (h : MPost w m ok e w') : ∃ a c fa fc n1, e = .returned (.tuple #[.agg #[.slice a m.consts.length c, .slice fa m.funcs.length fc], .bool ok]) ∧ Gv (fun k => w.heap.size ≤ k ∧ k < n1) w' (.slice a m.consts.length c) m.consts ∧ GF n1 w' (.slice fa m.funcs.length fc) m.funcs ∧ w.heap.size ≤ n1 ∧ n1 ≤ w'.heap.size ∧ IsMd (From w.heap.size) w' m (.slice a m.consts.length c) (.slice fa m.funcs.length fc) ∧ Below w.heap.size w w' := by
  obtain ⟨⟨a, c, fa, fc, n1, he, h1, h2, h3, h4⟩, hb⟩ := h
  exact ⟨a, c, fa, fc, n1, he, h1, h2, h3, h4, ⟨h1.vs.base (fun k hk _ => hk.1), h2.fus.base (fun k hk _ => by show w.heap.size ≤ k; have : n1 ≤ k := hk; omega)⟩, hb⟩
end Go.Proofs.Ytndahpcjkcihlaa
