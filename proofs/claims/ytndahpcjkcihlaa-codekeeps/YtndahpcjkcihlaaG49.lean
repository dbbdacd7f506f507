/- Texts of ours, joined: Jx0, Jx, Jy, Jz, Jaa. -/
import Derived.Test.YtndahpcjkcihlaaG46
import Derived.Test.YtndahpcjkcihlaaG42
import Derived.Test.YtndahpcjkcihlaaG47
/- Functions gathered, each with its code in a row of its own. -/
namespace Go.Proofs.Ytndahpcjkcihlaa
open Go.RowKit
set_option linter.unusedVariables false
set_option linter.unusedSimpArgs false

def IsFo (base : Nat) (ob : Option Nat) (w : World) (f : Fu) (cs : List Value) : Prop := ∃ a c, cs = fuCells f (.slice a f.code.length c) ∧ OwnI w base (.slice a f.code.length c) f.code ∧ ∀ k, (Value.slice a f.code.length c).ownBlock = some k → ob ≠ some k
def AllFo (base : Nat) (ob : Option Nat) (w : World) : List Fu → List Value → Prop
  | [], cs => cs = []
  | e :: r, cs => ∃ c1 c2, cs = c1 ++ c2 ∧ IsFo base ob w e c1 ∧ AllFo base ob w r c2
theorem AllFo.map {b b' : Nat} {ob ob' : Option Nat} {w w' : World} (h : ∀ f cs, IsFo b ob w f cs → IsFo b' ob' w' f cs) : ∀ {l : List Fu} {cs : List Value}, AllFo b ob w l cs → AllFo b' ob' w' l cs
  | [], cs, h1 => by rw [AllFo] at h1 ⊢; exact h1
  | e :: r, cs, h1 => by
    rw [AllFo] at h1 ⊢
    obtain ⟨c1, c2, hc, h2, h3⟩ := h1
    exact ⟨c1, c2, hc, h e c1 h2, AllFo.map h h3⟩
theorem AllFo.snoc {b : Nat} {ob : Option Nat} {w : World} : ∀ {l : List Fu} {row : List Value} {e : Fu} {cs : List Value}, AllFo b ob w l row → IsFo b ob w e cs → AllFo b ob w (l ++ [e]) (row ++ cs)
  | [], row, e, cs, h1, h2 => by
    rw [AllFo] at h1
    subst h1
    rw [List.nil_append, List.nil_append, AllFo]
    exact ⟨cs, [], by simp, h2, by rw [AllFo]⟩
  | x :: r, row, e, cs, h1, h2 => by
    rw [AllFo] at h1
    obtain ⟨c1, c2, rfl, h3, h4⟩ := h1
    rw [List.cons_append, AllFo]
    exact ⟨c1, c2 ++ cs, by simp, h3, AllFo.snoc h4 h2⟩
theorem IsFo.len {b : Nat} {ob : Option Nat} {w : World} {f : Fu} {cs : List Value} (h : IsFo b ob w f cs) : cs.length = 5 := by
  obtain ⟨a, c, rfl, _⟩ := h; rfl
theorem AllFo.get {b : Nat} {ob : Option Nat} {w : World} : ∀ {l : List Fu} {row : List Value} {i : Nat} {e : Fu}, AllFo b ob w l row → l[i]? = some e → ∃ cs, IsFo b ob w e cs ∧ ∀ j, j < 5 → row[i * 5 + j]? = cs[j]?
  | [], row, i, e, h, hi => by simp at hi
  | a :: r, row, 0, e, h, hi => by
    rw [AllFo] at h
    obtain ⟨c1, c2, hc, h1, h2⟩ := h
    simp at hi; subst hi
    exact ⟨c1, h1, fun j hj => by rw [hc, List.getElem?_append_left (by have := h1.len; omega)]; simp⟩
  | a :: r, row, i + 1, e, h, hi => by
    rw [AllFo] at h
    obtain ⟨c1, c2, hc, h1, h2⟩ := h
    obtain ⟨cs, k1, k2⟩ := AllFo.get h2 (by simpa using hi)
    refine ⟨cs, k1, fun j hj => ?_⟩
    have := h1.len
    rw [hc, List.getElem?_append_right (by omega), ← k2 j hj]
    congr 1
    omega
def GO (base : Nat) (w : World) (sl : Value) (acc : List Fu) : Prop := ∃ row, w.ownsRow base 44 5 sl acc.length row ∧ AllFo base sl.ownBlock w acc row
theorem GO.nil (base : Nat) (w : World) : GO base w (.slice none 0 0) [] := ⟨[], ⟨rfl, Or.inl ⟨rfl, rfl⟩⟩, by rw [AllFo]⟩
theorem GO.since {base : Nat} {w w' : World} {sl : Value} {acc : List Fu} (h : GO base w sl acc) (e : ∀ j, base ≤ j → j < w.heap.size → w'.heap[j]? = w.heap[j]?) : GO base w' sl acc := by
  obtain ⟨row, h1, h2⟩ := h
  refine ⟨row, ⟨h1.1, ?_⟩, h2.map (fun f cs hf => ?_)⟩
  · rcases h1.2 with h4 | ⟨g, cap, cur, h4, h5, h6, h7⟩
    · exact Or.inl h4
    · exact Or.inr ⟨g, cap, cur, h4, h5, by rw [e g h5 (Array.getElem?_eq_some_iff.1 h6).1]; exact h6, h7⟩
  · obtain ⟨a, c, k1, k2, k3⟩ := hf
    exact ⟨a, c, k1, k2.since (fun j hj => by have := World.ownsRow.lt k2 j hj; exact e j this.1 this.2), k3⟩
theorem GO.push {base : Nat} {w1 w : World} {sl : Value} {acc : List Fu} (h1 : GO base w1 sl acc) (hb : Below w1.heap.size w1 w) {f : Fu} {a : Option Addr} {c : Nat} (hI : OwnI w w1.heap.size (.slice a f.code.length c) f.code) {g0 : Nat} (hg : w.heap[g0]? = some (.cells #[.int .i64 f.params, .int .i64 f.locals, .int .i64 f.zero, .int .i64 f.stack, .slice a f.code.length c] 44 (0, 0))) (hbase : base ≤ w1.heap.size) (hn : acc.length + 1 ≤ 1000000) (cc : Nat) {a3 : Option Addr} {c3 : Nat} {w3 : World}
    (hrun : (Builtin.append_ #[23, 23] 23 #[sl, .slice (some ⟨g0, 0, none⟩) 1 cc]).run Try.prog w = .ok (.slice a3 (acc.length + 1) c3) w3) : GO base w3 (.slice a3 (acc.length + 1) c3) (acc ++ [f]) := by
  obtain ⟨row, hown, hall⟩ := h1.since (w' := w) (fun j _ hl => hb.block j hl)
  have hnews : ∀ b, (some ⟨g0, 0, none⟩ : Option Addr) = some b → ∀ (j : Nat) (u : Value), (fuCells f (.slice a f.code.length c))[j]? = some u → w.cell? (b.add j) = some u := by
    intro b hb' j u hj
    cases hb'
    have hc : w.cell? ⟨g0, j, none⟩ = (fuCells f (.slice a f.code.length c))[j]? := by simp [World.cell?, hg]
    by_cases hj0 : j = 0
    · subst hj0; simpa [Addr.add] using hc.trans hj
    · simpa [Addr.add, hj0] using hc.trans hj
  obtain ⟨a2, c2, w', hr, ho, hb2, hgr, hat⟩ := app_run_at Try.underlying23 funcInfo rfl (by decide) 23 (news := fuCells f (.slice a f.code.length c)) (m := 1) (c := cc) hown (fun e => by cases e) rfl hnews fu_ones (by omega) (by decide) (by have := hb.size; omega)
  rw [hrun] at hr
  simp only [Result.ok.injEq, Value.slice.injEq] at hr
  obtain ⟨⟨rfl, -, rfl⟩, rfl⟩ := hr
  have hslt : ∀ k, sl.ownBlock = some k → k < w1.heap.size := fun k hk => by obtain ⟨r1, q1, _⟩ := h1; exact (World.ownsRow.lt q1 k hk).2
  have hne : ∀ k, k < w.heap.size → sl.ownBlock ≠ some k → (Value.slice a3 (acc.length + 1) c3).ownBlock ≠ some k := fun k hk hs e => by
    rcases hat with h | h
    · rw [h] at e; exact hs e
    · rw [h] at e; cases e; omega
  have hkeep : ∀ k, k < w.heap.size → sl.ownBlock ≠ some k → w3.heap[k]? = w.heap[k]? := fun k hk hs => hgr.block k hk (fun e => hs e.symm)
  have hfr : ∀ k, w1.heap.size ≤ k → sl.ownBlock ≠ some k := fun k hk e => by have := hslt k e; omega
  refine ⟨row ++ fuCells f (.slice a f.code.length c), by rw [List.length_append]; exact ho, ?_⟩
  refine AllFo.snoc (hall.map (fun f' cs hf => ?_)) ⟨a, c, rfl, ?_, fun k hk => ?_⟩
  · obtain ⟨a', c', k1, k2, k3⟩ := hf
    exact ⟨a', c', k1, k2.since (fun j hj => by have := World.ownsRow.lt k2 j hj; exact hkeep j this.2 (k3 j hj)), fun k hk => hne k (World.ownsRow.lt k2 k hk).2 (k3 k hk)⟩
  · exact (hI.since (fun j hj => by have := World.ownsRow.lt hI j hj; exact hkeep j this.2 (hfr j this.1))).low hbase
  · have := World.ownsRow.lt hI k hk
    exact hne k this.2 (hfr k this.1)
/-- Both. -/
def GH (base : Nat) (w : World) (sl : Value) (acc : List Fu) : Prop := GF base w sl acc ∧ GO base w sl acc
theorem GH.nil (base : Nat) (w : World) : GH base w (.slice none 0 0) [] := ⟨GF.nil _ _, GO.nil _ _⟩
theorem GH.since {base : Nat} {w w' : World} {sl : Value} {acc : List Fu} (h : GH base w sl acc) (hs : w.heap.size ≤ w'.heap.size) (e : ∀ j, base ≤ j → j < w.heap.size → w'.heap[j]? = w.heap[j]?) : GH base w' sl acc := ⟨h.1.since hs e, h.2.since e⟩
theorem GH.below {base : Nat} {w w' : World} {sl : Value} {acc : List Fu} (h : GH base w sl acc) (hb : Below w.heap.size w w') : GH base w' sl acc := h.since hb.size (fun j _ hl => hb.block j hl)
theorem GH.push {base n1 : Nat} {w1 w : World} {sl : Value} {acc : List Fu} (h1 : GH base w1 sl acc) (hb : Below w1.heap.size w1 w) {f : Fu} {a : Option Addr} {c : Nat} (hI : OwnI w w1.heap.size (.slice a f.code.length c) f.code) (hf : IsFn (From w1.heap.size) w f (.slice a f.code.length c)) {g0 : Nat} (hg : w.heap[g0]? = some (.cells #[.int .i64 f.params, .int .i64 f.locals, .int .i64 f.zero, .int .i64 f.stack, .slice a f.code.length c] 44 (0, 0))) (hbase : base ≤ w1.heap.size) (hn : acc.length + 1 ≤ 1000000) (cc : Nat) :
    ∃ a2 c2 w', (Builtin.append_ #[23, 23] 23 #[sl, .slice (some ⟨g0, 0, none⟩) 1 cc]).run Try.prog w = .ok (.slice a2 (acc.length + 1) c2) w' ∧ GH base w' (.slice a2 (acc.length + 1) c2) (acc ++ [f]) ∧ Below base w w' ∧ w.grownBy w' sl.ownBlock := by
  obtain ⟨a2, c2, w', hr, hG, hb', hgr⟩ := GF.push (n1 := n1) h1.1 hb hI hf hg hbase hn cc
  exact ⟨a2, c2, w', hr, ⟨hG, h1.2.push hb hI hg hbase hn cc hr⟩, hb', hgr⟩
end Go.Proofs.Ytndahpcjkcihlaa
/- Functions taken, each with its code in a row of its own: the program's. -/
namespace Go.Proofs.Ytndahpcjkcihlaa
open Go.RowKit
set_option linter.unusedVariables false
set_option linter.unusedSimpArgs false
attribute [local go_sem ↓] Go.wp_at_zero Go.wp_at_succ

def THPost (w : World) (r n : Nat) (st : RSt) (e : Ending) (w' : World) : Prop := (∃ a c, e = .returned (.slice a ((rdG rdF' n st).1.take 33).length c) ∧ GH w.heap.size w' (.slice a ((rdG rdF' n st).1.take 33).length c) ((rdG rdF' n st).1.take 33)) ∧ RdS w' r (rdG rdF' n st).2 ∧ Only r w w'
set_option maxRecDepth 100000 in
set_option maxHeartbeats 4000000 in
theorem takeH_any {w : World} {r : Nat} {st0 : RSt} (h : RdS w r st0) (hlf0 : lft st0 ≤ 900000) (n : Nat) (hn : n ≤ 9223372036854775807) : Calls Try.prog 51 #[.pointer (some ⟨r, 0, none⟩), .int .i64 n, .int .i64 32, .func (Fn.func 52) #[] #[]] w fun e w' => THPost w r n st0 e w' := by
  have hrl := h.lt
  have hst : Hid (Only r w w ∧ RdS w r st0) := ⟨Only.refl _ _, h⟩
  clear h
  go_enter Try.func51, Try.ntmps51
  go_wp2_with fail
  go_loopg [9, 10] n (fun gk out i wr => ∃ (q : Nat) (a : Option Addr) (c : Nat) (acc : List Fu) (st : RSt), q ≤ n ∧ gk = n - q ∧ i = .int .i64 q ∧ out = .slice a (acc.take 33).length c ∧ Hid (Only r w wr ∧ RdS wr r st ∧ GH w.heap.size wr (.slice a (acc.take 33).length c) (acc.take 33) ∧ Gath rdF' n st0 q acc st))
  case atStart => exact ⟨0, none, 0, [], st0, Nat.zero_le _, rfl, rfl, rfl, hst.out.1, hst.out.2, by simpa using GH.nil _ _, Gath.start _ _ _⟩
  case round =>
    obtain ⟨q, a, c, acc, st, hq, rfl, rfl, rfl, HI⟩ := hrel
    obtain ⟨ho, hr, hrow, hG⟩ := HI.out
    clear HI hst
    have hfin : Hid (st = none ∨ q = n → THPost w r n st0 (.returned (.slice a (acc.take 33).length c)) wr) := fun he => by
      obtain ⟨e1, e2⟩ := hG.done he
      rw [e1] at hrow ⊢
      rw [e2] at hr
      exact ⟨⟨a, c, rfl, hrow⟩, hr, ho⟩
    by_cases hlt : q < n
    rotate_left
    · have hltI : ¬ (q : Int) < (n : Int) := by omega
      have hpost := hfin.out (Or.inr (by omega))
      clear ho hr hrow hG hfin
      generalize (acc.take 33).length = L at *
      go_wp2
      go_ret
      exact hpost
    have hltI : (q : Int) < (n : Int) := by omega
    have hBd := bad_any hr
    rcases st with _ | bs
    · have hpost := hfin.out (Or.inl rfl)
      simp only [Option.isNone_none] at hBd
      clear ho hr hrow hG hfin
      generalize (acc.take 33).length = L at *
      go_wp2_with fail
      refine hBd.mono ?_
      rintro e w1 ⟨rfl, rfl⟩
      clear hBd
      go_wp2
      go_ret
      exact hpost
    simp only [Option.isNone_some] at hBd
    clear hfin
    have hlf : lft (some bs) ≤ 900000 := Nat.le_trans hG.2.2.2.2.1 hlf0
    have hq9 : q ≤ 900000 := by have := hG.2.2.2.2.2 bs rfl; omega
    have hlq : Hid (acc.length = q) := hG.len
    have hOne := readFunc_any hr (by omega)
    have hGn := hG.next hlt (s := fun _ => 1) (fun v => by omega) (fun st b' h => rdF'_cut h)
    have hokF := rdF'_ok (some bs)
    have hGnH : Hid (Gath rdF' n st0 (q + 1) (acc ++ [(rdF' (some bs)).1]) (rdF' (some bs)).2) := hGn
    clear hGn hG hr
    generalize rdF' (some bs) = x at *
    obtain ⟨x1, x2⟩ := x
    simp only at *
    unfold RFPost at hOne
    have hrowH : Hid (GH w.heap.size wr (.slice a (acc.take 33).length c) (acc.take 33)) := hrow
    have hLl0 : (acc.take 33).length = if acc.length < 33 then acc.length else 33 := by rw [List.length_take]; split <;> omega
    clear hrow
    obtain ⟨L, hL⟩ : ∃ L, Hid ((acc.take 33).length = L) := ⟨_, rfl⟩
    rw [hL.out] at hLl0 ⊢
    have hLl : Hid (L = if acc.length < 33 then acc.length else 33) := hLl0
    clear hLl0
    go_wp2_with fail
    refine hBd.mono ?_
    rintro e w1 ⟨rfl, hw1⟩
    obtain rfl := hw1.symm
    clear hBd
    go_wp2_with fail
    refine hOne.mono ?_
    rintro e wA ⟨⟨ka, kc, rfl, hIA⟩, hrA, hoA⟩
    clear hOne
    obtain ⟨wz, wB, hWz, hWB, hbz, hbB, -, hxB, hz⟩ := fbox wA (.int .i64 x1.params) (.int .i64 x1.locals) (.int .i64 x1.zero) (.int .i64 x1.stack) (.slice ka x1.code.length kc)
    obtain ⟨z0, z1, z2, z3, z4, y0, y1, y2, y3, y4, hlz⟩ := cells_k5 hz
    obtain ⟨c0, c1, c2, c3, c4, -, -, -, -, -, hlB⟩ := cells_k5 hxB
    clear hz
    have hoB : Only r wr wB := hoA.trans (Only.of_below hbB)
    have hrB := hrA.keep hbB
    have hszA := hoA.size
    have hsz := ho.size
    by_cases hmost : acc.length < 33
    · have hLe : L = acc.length := by have := hLl.out; rwa [if_pos hmost] at this
      have hlq' := hlq.out
      have hLI : (L : Int) ≤ 32 := by omega
      have hLb : L ≤ 900000 := by omega
      obtain ⟨wb, hWb⟩ : ∃ wb, wB.alloc (.cells #[.int .i64 x1.params, .int .i64 x1.locals, .int .i64 x1.zero, .int .i64 x1.stack, .slice ka x1.code.length kc] 44) = wb := ⟨_, rfl⟩
      have hbb : Below wB.heap.size wB wb := by rw [← hWb]; exact (Below.refl _ _).alloc (Nat.le_refl _) _
      have hblkb : wb.heap[wB.heap.size]? = some (.cells #[.int .i64 x1.params, .int .i64 x1.locals, .int .i64 x1.zero, .int .i64 x1.stack, .slice ka x1.code.length kc] 44 (0, 0)) := by rw [← hWb]; exact heap_new _ _
      have hsB := hbB.size
      have hsbb := hbb.size
      have hbAb : Below wA.heap.size wA wb := hbB.trans (hbb.mono hsB)
      have hIb : OwnI wb wr.heap.size (.slice ka x1.code.length kc) x1.code := hIA.since (fun j hj => hbAb.block j (World.ownsRow.lt hIA j hj).2)
      obtain ⟨wT, hsT, hbT, hkT⟩ := World.cutTo wA wr.heap.size hszA
      have hrowb : GH w.heap.size wb (.slice a (acc.take 33).length c) (acc.take 33) := (hrowH.out.since (w' := wb) (by omega) (fun j hj hl => (hbAb.block j (by omega)).trans (hoA.block j hl (by omega))))
      rw [hL.out] at hrowb
      have hGT : GH w.heap.size wT (.slice a L c) (acc.take 33) := by
        have h9 := hrowH.out
        rw [hL.out] at h9
        exact h9.since (by omega) (fun j hj hl => (hkT j hl).trans (hoA.block j hl (by omega)))
      have hbTb : Below wT.heap.size wT wb := by rw [hsT]; exact hbT.trans (hbAb.mono hszA)
      have hfn : IsFn (From wT.heap.size) wb x1 (.slice ka x1.code.length kc) := ⟨hokF.1, hokF.2.1, hokF.2.2.1, hokF.2.2.2.1, hIb.is hokF.2.2.2.2 (fun k hk => by have := World.ownsRow.lt hIb k hk; show wT.heap.size ≤ k; omega)⟩
      obtain ⟨a7, c7, w7, hr7, hG7, hb7, -⟩ := GH.push (n1 := 0) hGT hbTb (f := x1) (hIb.low (by omega)) hfn hblkb (by omega) (by rw [hL.out]; omega) 1
      rw [hL.out] at hr7 hG7
      clear hblkb hGT hbTb hfn hIb hbAb hbT hkT hsT
      have hs7 := hb7.size
      have hob : Only r w w7 := ((ho.trans hoB).trans (Only.of_below hbb)).low' hb7 (Nat.le_refl _)
      have hr7' : RdS w7 r x2 := (hrB.keep hbb).low' hb7 hrl
      have hnew : Hid (Only r w w7 ∧ RdS w7 r x2 ∧ GH w.heap.size w7 (.slice a7 ((acc ++ [x1]).take 33).length c7) ((acc ++ [x1]).take 33) ∧ Gath rdF' n st0 (q + 1) (acc ++ [x1]) x2) := by
        refine ⟨hob, hr7', ?_, hGnH.out⟩
        rw [take_less hmost, List.length_append, hL.out]
        exact hG7
      have hnl : ((acc ++ [x1]).take 33).length = L + 1 := by rw [take_less hmost, List.length_append, hL.out]; rfl
      clear hGnH hrowH hrowb hG7 hb7 hob hr7' hrA hrB hoA hoB ho hbB hbb hmost hLl hs7 hszA hsz hlq hLe hlq'
      go_wp2_with (at_builtin; refine Lib.wpList_append_run _ rfl _ _ 23 23 rfl _ _ rfl rfl _ _ hr7 ?_; clear hr7)
      go_roundg (n - (q + 1))
      case measure => omega
      case rel => exact ⟨q + 1, a7, c7, _, x2, by omega, rfl, by go_num, by rw [hnl], hnew⟩
    · have hLe : L = 33 := by have := hLl.out; rwa [if_neg hmost] at this
      have hLI : ¬ (L : Int) ≤ 32 := by omega
      have hnew : Hid (Only r w wB ∧ RdS wB r x2 ∧ GH w.heap.size wB (.slice a ((acc ++ [x1]).take 33).length c) ((acc ++ [x1]).take 33) ∧ Gath rdF' n st0 (q + 1) (acc ++ [x1]) x2) := by
        refine ⟨ho.trans hoB, hrB, ?_, hGnH.out⟩
        rw [take_more (by omega)]
        exact hrowH.out.since (w' := wB) (by have := hbB.size; omega) (fun j hj hl => (hbB.block j (by omega)).trans (hoA.block j hl (by omega)))
      have hnl : ((acc ++ [x1]).take 33).length = L := by rw [take_more (by omega), hL.out]
      clear hGnH hrowH hrA hrB hoA hoB ho hbB hmost hLl hszA hsz hlq hLe
      go_wp2_with fail
      go_roundg (n - (q + 1))
      case measure => omega
      case rel => exact ⟨q + 1, a, c, _, x2, by omega, rfl, by go_num, by rw [hnl], hnew⟩
end Go.Proofs.Ytndahpcjkcihlaa
/- A module read, with its rows: the program's. -/
namespace Go.Proofs.Ytndahpcjkcihlaa
open Go.RowKit
set_option linter.unusedVariables false
set_option linter.unusedSimpArgs false
attribute [local go_sem ↓] Go.wp_at_zero Go.wp_at_succ

def MPostH (w : World) (m : Md) (ok : Bool) (e : Ending) (w' : World) : Prop := (∃ a c fa fc n1, e = .returned (.tuple #[.agg #[.slice a m.consts.length c, .slice fa m.funcs.length fc], .bool ok]) ∧ Gv (fun k => w.heap.size ≤ k ∧ k < n1) w' (.slice a m.consts.length c) m.consts ∧ GH n1 w' (.slice fa m.funcs.length fc) m.funcs ∧ w.heap.size ≤ n1 ∧ n1 ≤ w'.heap.size) ∧ Below w.heap.size w w'
set_option maxRecDepth 100000 in
set_option maxHeartbeats 4000000 in
theorem readH_any {B : Nat → Prop} {w : World} {ab : Option Addr} {cb : Nat} {b : List UInt8} (hb : IsB B w (.slice ab b.length cb) b) (hl : b.length ≤ 900000) : Calls Try.prog 27 #[.slice ab b.length cb] w fun e w' => MPostH w (trM (rdM b).1) ((rdM b).2 == some []) e w' := by
  obtain ⟨w0, hW0, hb0, hl0, hx0⟩ := box2 w (.slice none 0 0) (.slice none 0 0) 25
  have hlt0 : w.heap.size < w0.heap.size := by omega
  have hNew := new_any (hb.since (Since.of_below hb0)) (by omega)
  have hlf0 : lft (some b) ≤ 900000 := hl
  have g1 : lft (rdN (some b)).2 ≤ 900000 := Nat.le_trans (rdN_lft _) hlf0
  have g2 : lft (rdN (rdN (some b)).2).2 ≤ 900000 := Nat.le_trans (rdN_lft _) g1
  have l1 := rdN_le (some b)
  have l2 := rdN_le (rdN (some b)).2
  have hM : Hid (rdM b = _) := rdM_eq b
  obtain ⟨R, HR⟩ : ∃ R, Hid (trM (rdM b).1 = R) := ⟨_, rfl⟩
  obtain ⟨S, HS⟩ : ∃ S, Hid ((rdM b).2 = S) := ⟨_, rfl⟩
  rw [HR.out, HS.out]
  have hRS : Hid (R = ⟨(rdG rdC (rdN (some b)).1 (rdN (rdN (some b)).2).2).1.take 16385, (rdG rdF' (rdN (rdN (some b)).2).1 (rdG rdC (rdN (some b)).1 (rdN (rdN (some b)).2).2).2).1.take 33⟩ ∧ S = (rdG rdF' (rdN (rdN (some b)).2).1 (rdG rdC (rdN (some b)).1 (rdN (rdN (some b)).2).2).2).2) := by
    refine ⟨?_, ?_⟩
    · rw [← HR.out, hM.out, rdG_tr]; rfl
    · rw [← HS.out, hM.out, rdG_tr]
  have hgl : ∀ st, lft st ≤ 900000 → ∀ n, lft (rdG rdC n st).2 ≤ 900000 := fun st h n => by
    rcases e : (rdG rdC n st).2 with _ | b'
    · simp [lft]
    · obtain ⟨b1, e1, l1⟩ := rdG_cut (s := fun v => 1 + v.t.length + v.l.length) (fun st b' h => rdC_cut h) n st b' e
      subst e1
      have : lft (some b1) = b1.length := rfl
      have : lft (some b') = b'.length := rfl
      omega
  clear hM HR HS hb hl0 g1
  obtain ⟨q1, HQ1⟩ : ∃ q, Hid (rdN (some b) = q) := ⟨_, rfl⟩
  rw [HQ1.out] at hRS l1 l2 g2
  obtain ⟨nc, s1⟩ := q1
  simp only at hRS l1 l2 g2
  obtain ⟨q2, HQ2⟩ : ∃ q, Hid (rdN s1 = q) := ⟨_, rfl⟩
  rw [HQ2.out] at hRS l2 g2
  obtain ⟨nf, s2⟩ := q2
  simp only at hRS l2 g2
  have g3 := hgl s2 g2 nc
  clear hgl
  go_enter Try.func27, Try.ntmps27
  go_wp2_with fail
  refine hNew.mono ?_
  rintro e w1 ⟨⟨r, rfl, hrw, hr1⟩, hb1⟩
  have hx1 := (hb1.block _ hlt0).trans hx0
  have hB1 : Below w.heap.size w w1 := hb0.trans (hb1.mono hb0.size)
  have hl1 : w.heap.size < w1.heap.size := (Array.getElem?_eq_some_iff.1 hx1).1
  have hrl1 := hr1.lt
  have hrwn : r ≠ w.heap.size := by omega
  have hwr : w.heap.size ≤ r := by omega
  have hN1 := number_any hr1
  rw [HQ1.out] at hN1
  simp only at hN1
  clear hNew hx0 hW0 hb1 hr1
  go_wp2_with fail
  refine hN1.mono ?_
  rintro e w2 ⟨rfl, hr2, ho2⟩
  have hN2 := number_any hr2
  rw [HQ2.out] at hN2
  simp only at hN2
  clear hN1 hr2
  go_wp2_with fail
  refine hN2.mono ?_
  rintro e w3 ⟨rfl, hr3, ho3⟩
  have ho13 := ho2.trans ho3
  have hx3 := ho13.cells hl1 (Ne.symm hrwn) hx1
  have hB3 : Below w.heap.size w w3 := hB1.trans (ho13.below hB1.size hwr)
  have hl3 : w.heap.size < w3.heap.size := (Array.getElem?_eq_some_iff.1 hx3).1
  have hrl3 := hr3.lt
  have hT := takeV_any hr3 g2 nc l1
  unfold TVPost at hT
  clear hN2 ho2 ho3 ho13 hB1 hx1 HQ1 HQ2
  generalize rdG rdC nc s2 = q3 at *
  obtain ⟨cs0, s3⟩ := q3
  simp only at *
  generalize cs0.take 16385 = cs at *
  go_wp2_with fail
  refine hT.mono ?_
  rintro e w4 ⟨⟨sa, sc, rfl, hG4⟩, hr4, ho4⟩
  have hx4 := ho4.cells hl3 (Ne.symm hrwn) hx3
  have hB4 : Below w.heap.size w w4 := hB3.trans (ho4.below hB3.size hwr)
  have hl4 : w.heap.size < w4.heap.size := (Array.getElem?_eq_some_iff.1 hx4).1
  have hs4 := ho4.size
  have hG4' : Gv (fun k => w3.heap.size ≤ k ∧ k < w4.heap.size) w4 (.slice sa cs.length sc) cs := hG4.base (fun k hk hl => ⟨hk, hl⟩)
  have hT2 := takeH_any hr4 g3 nf l2
  unfold THPost at hT2
  clear hT hr3 hG4 ho4 hx3 hB3
  generalize rdG rdF' nf s3 = q4 at *
  obtain ⟨fs0, s4⟩ := q4
  simp only at *
  generalize fs0.take 33 = fs at *
  go_wp2_with fail
  refine hT2.mono ?_
  rintro e w5 ⟨⟨fa, fc, rfl, hF5⟩, hr5, ho5⟩
  have hx5 := ho5.cells hl4 (Ne.symm hrwn) hx4
  have hB5 : Below w.heap.size w w5 := hB4.trans (ho5.below hB4.size hwr)
  have hs5 := ho5.size
  have hG5 := hG4'.since (ho5.since (by rintro ⟨h1, h2⟩; omega))
  obtain ⟨wz, w6, hWz, hW6, hbz, hb6, -, hx6, hz⟩ := zmbox w5 (.slice sa cs.length sc) (.slice fa fs.length fc)
  obtain ⟨z0, z1, y0, y1, hlz⟩ := cells_k2 hz
  obtain ⟨c0, c1, -, -, hl6⟩ := cells_k2 hx6
  have hr6 := hr5.keep hb6
  have hx06 := (hb6.block _ (Array.getElem?_eq_some_iff.1 hx5).1).trans hx5
  have hB6 : Below w.heap.size w w6 := hB5.trans (hb6.mono hB5.size)
  have hG6 := hG5.below hb6
  have hF6 := hF5.below hb6
  have hs6 := hb6.size
  obtain ⟨o0, o1, fo0, fo1, hlo⟩ := cells_k2 hx06
  have hE : ∀ w', Below w6.heap.size w6 w' → Calls Try.prog 53 #[.pointer (some ⟨r, 0, none⟩)] w' fun e w'' => e = .returned (.bool (s4 == some [])) ∧ w'' = w' := fun w' hb => end_any (hr6.keep hb)
  obtain ⟨ok, Hok⟩ : ∃ ok, Hid ((s4 == some []) = ok) := ⟨_, rfl⟩
  rw [Hok.out] at hE
  have hdr : ∀ x : World, x.drew.heap = x.heap := fun _ => rfl
  have hpost : ∀ wN, ((w6.setCell ⟨w.heap.size, 0, none⟩ (.slice sa cs.length sc)).setCell ⟨w.heap.size, 1, none⟩ (.slice fa fs.length fc)).drew = wN → MPostH w R (S == some []) (.returned (.tuple #[.agg #[.slice sa cs.length sc, .slice fa fs.length fc], .bool ok])) wN ∧ wN.heap[w.heap.size]? = some (.cells #[.slice sa cs.length sc, .slice fa fs.length fc] 25 (0, 0)) := fun wN hWN => by
    have hkN : ∀ k, k ≠ w.heap.size → wN.heap[k]? = w6.heap[k]? := fun k hk => by rw [← hWN, hdr, Below.heap_setCell _ _ _ _ hk, Below.heap_setCell _ _ _ _ hk]
    have hsN : wN.heap.size = w6.heap.size := by rw [← hWN, hdr]; simp [World.setCell]
    refine ⟨?_, by rw [← hWN, hdr]; simp [World.setCell, Array.getElem?_modify, hx06]⟩
    rw [hRS.out.1, hRS.out.2]
    refine ⟨⟨sa, sc, fa, fc, w4.heap.size, by rw [Hok.out], ?_, ?_, by omega, by omega⟩, ?_⟩
    · exact (hG6.since ⟨by omega, fun k hk _ => hkN k (by omega)⟩).base (fun k hk _ => ⟨by omega, hk.2⟩)
    · exact hF6.since (by omega) (fun k hk _ => hkN k (by omega))
    · rw [← hWN]
      exact ((hB6.setCell (p := ⟨w.heap.size, 0, none⟩) (Nat.le_refl _) _).setCell (p := ⟨w.heap.size, 1, none⟩) (Nat.le_refl _) _).drew
  have hne1 : w5.heap.size ≠ w.heap.size := by omega
  have hne2 : w.heap.size ≠ w5.heap.size := by omega
  clear hT2 hr4 hr5 hr6 ho5 hx4 hx5 hG4' hG5 hG6 hF5 hF6 hB4 hB5 hB6 hx06 hRS Hok hz hs6 hs5 hs4
  go_wp2_with fail
  clear hWz hW6 z0 z1 y0 y1 hlz
  go_region_held3 (fun w' => w'.cell? ⟨w5.heap.size, 0, none⟩ = some (.slice sa cs.length sc) ∧ w'.cell? ⟨w5.heap.size, 1, none⟩ = some (.slice fa fs.length fc)) (go_keep)
    ((go_at_call 53; refine (hE _ (Below.refl _ _).drew).mono ?_; rintro e w9 ⟨rfl, hw9⟩; obtain rfl := hw9.symm))
  rename_i hHeld
  obtain ⟨wN, hWN⟩ : ∃ wN, ((w6.setCell ⟨w.heap.size, 0, none⟩ (.slice sa cs.length sc)).setCell ⟨w.heap.size, 1, none⟩ (.slice fa fs.length fc)).drew = wN := ⟨_, rfl⟩
  obtain ⟨hp, hxN⟩ := hpost wN hWN
  rw [hWN]
  obtain ⟨t0, t1, -, -, hlN⟩ := cells_k2 hxN
  clear hHeld hpost hE hxN hWN c0 c1 o0 o1 fo0 fo1
  go_wp2_with fail
  exact bodyPost_ret (v := .tuple #[.agg #[.slice sa cs.length sc, .slice fa fs.length fc], .bool ok]) (by simp [results, Try.results27, go_sem, hlN, t0, t1]) rfl hp
end Go.Proofs.Ytndahpcjkcihlaa
/- Decode, with the rows of what it answers: the program's. -/
namespace Go.Proofs.Ytndahpcjkcihlaa
open Go.RowKit
set_option linter.unusedVariables false
set_option linter.unusedSimpArgs false
attribute [local go_sem ↓] Go.wp_at_zero Go.wp_at_succ

theorem MPostH.md {w : World} {m : Md} {ok : Bool} {e : Ending} {w' : World} (h : MPostH w m ok e w') : ∃ a c fa fc n1, e = .returned (.tuple #[.agg #[.slice a m.consts.length c, .slice fa m.funcs.length fc], .bool ok]) ∧ Gv (fun k => w.heap.size ≤ k ∧ k < n1) w' (.slice a m.consts.length c) m.consts ∧ GH n1 w' (.slice fa m.funcs.length fc) m.funcs ∧ w.heap.size ≤ n1 ∧ n1 ≤ w'.heap.size ∧ IsMd (From w.heap.size) w' m (.slice a m.consts.length c) (.slice fa m.funcs.length fc) ∧ Below w.heap.size w w' := by
  obtain ⟨⟨a, c, fa, fc, n1, he, h1, h2, h3, h4⟩, hb⟩ := h
  exact ⟨a, c, fa, fc, n1, he, h1, h2, h3, h4, ⟨h1.vs.base (fun k hk _ => hk.1), h2.1.fus.base (fun k hk _ => by show w.heap.size ≤ k; have : n1 ≤ k := hk; omega)⟩, hb⟩
def OutH (w : World) (x : Md × Int) (e : Ending) (w' : World) : Prop := (∃ a c fa fc n1, e = .returned (.tuple #[.agg #[.slice a x.1.consts.length c, .slice fa x.1.funcs.length fc], .int .i64 x.2]) ∧ Gv (fun k => w.heap.size ≤ k ∧ k < n1) w' (.slice a x.1.consts.length c) x.1.consts ∧ GH n1 w' (.slice fa x.1.funcs.length fc) x.1.funcs ∧ w.heap.size ≤ n1 ∧ n1 ≤ w'.heap.size) ∧ Below w.heap.size w w'
theorem outH_no {w w' : World} {e : Int} (hb : Below w.heap.size w w') : OutH w (Md.no, e) (.returned (.tuple #[.agg #[.slice none 0 0, .slice none 0 0], .int .i64 e])) w' := ⟨⟨none, 0, none, 0, w.heap.size, rfl, Gv.nil _ _, GH.nil _ _, Nat.le_refl _, hb.size⟩, hb⟩
set_option maxRecDepth 100000 in
set_option maxHeartbeats 4000000 in
theorem hdecode_any {B : Nat → Prop} {w : World} {ab : Option Addr} {cb : Nat} {b : List UInt8} (hb : IsB B w (.slice ab b.length cb) b) (hl : b.length ≤ 900000) (states : Int) :
    Calls Try.prog 14 #[.slice ab b.length cb, .int .i64 states] w fun e w' => OutH w (decR b states) e w' := by
  obtain ⟨w0, hW0, hb0, hl0, hx0⟩ := box2 w (.slice none 0 0) (.slice none 0 0) 25
  have hlt0 : w.heap.size < w0.heap.size := by omega
  have hb00 := hb.since (Since.of_below hb0)
  have hR := readH_any hb00 hl
  obtain ⟨D, HD⟩ : ∃ D, Hid (decR b states = D) := ⟨_, rfl⟩
  rw [HD.out]
  have hD1 : Hid ((rdM b).2 ≠ some [] → D = (Md.no, 11)) := fun h => by rw [← HD.out]; unfold decR; rw [if_pos h]
  have hD2 : Hid ((rdM b).2 = some [] → ¬ Run (rdM b).1 states → D = (Md.no, 40)) := fun h h' => by rw [← HD.out]; unfold decR; rw [if_neg (by simpa using h), if_pos h']
  have hD3 : Hid ((rdM b).2 = some [] → Run (rdM b).1 states → encM (rdM b).1 ≠ b → D = (Md.no, 11)) := fun h h' h'' => by rw [← HD.out]; unfold decR; rw [if_neg (by simpa using h), if_neg (by simpa using h'), if_pos h'']
  have hD4 : Hid ((rdM b).2 = some [] → Run (rdM b).1 states → encM (rdM b).1 = b → D = ((rdM b).1, 0)) := fun h h' h'' => by rw [← HD.out]; unfold decR; rw [if_neg (by simpa using h), if_neg (by simpa using h'), if_neg (by simpa using h'')]
  have hfit : Hid ((rdM b).2 = some [] → Fit (trM (rdM b).1)) := fun h => fit_trM h hl
  have hsz : Hid ((rdM b).2 = some [] → csz (rdM b).1.consts + fsz (rdM b).1.funcs ≤ b.length) := fun h => rdM_sz h
  clear HD hl0
  go_enter Try.func14, Try.ntmps14
  go_wp2_with fail
  refine hR.mono ?_
  rintro e w1 hp
  obtain ⟨sa, sc, fa, fc, n1, rfl, hG1, hF1, hn1, hn2, hmd1, hb1⟩ := hp.md
  clear hR hp
  have hx1 := (hb1.block _ hlt0).trans hx0
  obtain ⟨wz, w2, hWz, hW2, hbz, hb2, -, hx2, hz⟩ := zmbox w1 (.slice sa (trM (rdM b).1).consts.length sc) (.slice fa (trM (rdM b).1).funcs.length fc)
  obtain ⟨z0, z1, y0, y1, hlz⟩ := cells_k2 hz
  obtain ⟨c0, c1, -, -, hl2⟩ := cells_k2 hx2
  have hs1 := hb1.size
  have hs2 := hb2.size
  have hB12 : Below w0.heap.size w0 w2 := hb1.trans (hb2.mono hb1.size)
  have hB2 : Below w.heap.size w w2 := hb0.trans (hB12.mono hb0.size)
  have hx02 := (hB12.block _ hlt0).trans hx0
  obtain ⟨o0, o1, fo0, fo1, hlo⟩ := cells_k2 hx02
  have hmd2 := hmd1.below hb2
  have hG2 := hG1.below hb2
  have hF2 := hF1.below hb2
  clear hz hG1 hF1 hmd1 hx1 hx0 hW0
  by_cases hok : (rdM b).2 = some []
  rotate_left
  · have hokb : ((rdM b).2 == some []) = false := by rw [beq_eq_false_iff_ne]; exact hok
    have hDv := hD1.out hok
    obtain ⟨wN, hWN, hxN, hbN, -, -⟩ := resW hx02 hB2 (.slice none 0 0) (.slice none 0 0)
    obtain ⟨t0, t1, -, -, hlN⟩ := cells_k2 hxN
    have hpost : OutH w D (.returned (.tuple #[.agg #[.slice none 0 0, .slice none 0 0], .int .i64 11])) wN := by rw [hDv]; exact outH_no hbN
    rw [hokb]
    clear hD1 hD2 hD3 hD4 hfit hsz hok hDv hmd2 hG2 hF2 hxN hbN hx2 hx02 hb hb00
    generalize (trM (rdM b).1).consts.length = L1 at *
    generalize (trM (rdM b).1).funcs.length = L2 at *
    go_wp2_with fail
    exact bodyPost_ret (v := .tuple #[.agg #[.slice none 0 0, .slice none 0 0], .int .i64 11]) (by simp [results, Try.results14, go_sem, hlN, t0, t1]) rfl hpost
  have hokb : ((rdM b).2 == some []) = true := by rw [hok]; rfl
  rw [hokb]
  have hft := hfit.out hok
  have hsz1 := hsz.out hok
  have hEn := lencode_any hmd2 hft states (fun hr => by
    have he := run_trM hr
    rw [he] at hr ⊢
    have h1 := encM_len' hr (okVs_w (by have := hmd2.con; rw [he] at this; exact this) (fun v hv => (ctype_shp (hr.con v hv)).1))
    omega)
  by_cases hrun : Run (rdM b).1 states
  rotate_left
  · have hnr : ¬ Run (trM (rdM b).1) states := fun h => hrun (by have := run_trM h; rwa [this] at h)
    have hDv := hD2.out hok hrun
    have hee : encE (trM (rdM b).1) states = ([], 40) := by unfold encE; rw [if_neg hnr]
    rw [hee] at hEn
    clear hD1 hD2 hD3 hD4 hfit hsz hok hnr hrun hmd2 hG2 hF2 hft hsz1 hee hb hb00
    generalize (trM (rdM b).1).consts.length = L1 at *
    generalize (trM (rdM b).1).funcs.length = L2 at *
    go_wp2_with fail
    refine hEn.mono ?_
    rintro e w3 ⟨⟨a3, N3, c3, rfl, -⟩, hb3⟩
    have hx03 := (hb3.block _ hlo).trans hx02
    have hB3 : Below w.heap.size w w3 := hB2.trans (hb3.mono hB2.size)
    obtain ⟨p0, p1, fp0, fp1, hlp⟩ := cells_k2 hx03
    obtain ⟨wN, hWN, hxN, hbN, -, -⟩ := resW hx03 hB3 (.slice none 0 0) (.slice none 0 0)
    obtain ⟨t0, t1, -, -, hlN⟩ := cells_k2 hxN
    have hpost : OutH w D (.returned (.tuple #[.agg #[.slice none 0 0, .slice none 0 0], .int .i64 40])) wN := by rw [hDv]; exact outH_no hbN
    clear hEn hxN hbN hx2 hx02 hx03 hb3 hB3 hDv c0 c1 o0 o1 fo0 fo1 hWz hW2 z0 z1 y0 y1
    go_wp2_with fail
    exact bodyPost_ret (v := .tuple #[.agg #[.slice none 0 0, .slice none 0 0], .int .i64 40]) (by simp [results, Try.results14, go_sem, hlN, t0, t1]) rfl hpost
  have het := trM_run hrun
  have hee : encE (trM (rdM b).1) states = (encM (rdM b).1, 0) := by unfold encE; rw [het, if_pos hrun]
  rw [hee] at hEn
  rw [het] at hEn hG2 hF2 hx2 hW2 hmd2 c0 c1 ⊢
  have hD3' : Hid (encM (rdM b).1 ≠ b → D = (Md.no, 11)) := hD3.out hok hrun
  have hD4' : Hid (encM (rdM b).1 = b → D = ((rdM b).1, 0)) := hD4.out hok hrun
  clear hD1 hD2 hD3 hD4 hfit hsz hok hrun hmd2 hft hsz1 hee het hokb
  generalize (rdM b).1 = m at *
  obtain ⟨X, HX⟩ : ∃ X, Hid (encM m = X) := ⟨_, rfl⟩
  rw [HX.out] at hEn hD3' hD4'
  have hGH : Hid (Gv (fun k => w0.heap.size ≤ k ∧ k < n1) w2 (.slice sa m.consts.length sc) m.consts ∧ GH n1 w2 (.slice fa m.funcs.length fc) m.funcs) := ⟨hG2, hF2⟩
  clear hG2 hF2
  go_wp2_with fail
  refine hEn.mono ?_
  rintro e w3 ⟨⟨a3, N3, c3, rfl, ho3⟩, hb3⟩
  have hx03 := (hb3.block _ hlo).trans hx02
  have hx23 := (hb3.block _ hl2).trans hx2
  have hB3 : Below w.heap.size w w3 := hB2.trans (hb3.mono hB2.size)
  have hEq := equal_any ho3.isB ((hb.since (Since.of_below hB3)))
  have hs3 := hb3.size
  obtain ⟨p0, p1, fp0, fp1, hlp⟩ := cells_k2 hx03
  obtain ⟨v0, v1, -, -, hlv⟩ := cells_k2 hx23
  clear hEn ho3 hx2 hx02 c0 c1 o0 o1 fo0 fo1 hWz hW2 z0 z1 y0 y1 hb hb00
  by_cases hX : X = b
  rotate_left
  · have hDv := hD3'.out hX
    have hXd : decide (X = b) = false := by simpa using hX
    rw [hXd] at hEq
    obtain ⟨wN, hWN, hxN, hbN, -, -⟩ := resW hx03 hB3 (.slice none 0 0) (.slice none 0 0)
    obtain ⟨t0, t1, -, -, hlN⟩ := cells_k2 hxN
    have hpost : OutH w D (.returned (.tuple #[.agg #[.slice none 0 0, .slice none 0 0], .int .i64 11])) wN := by rw [hDv]; exact outH_no hbN
    clear hxN hbN hx03 hb3 hB3 hDv hGH hD3' hD4' HX hX hXd hx23
    go_wp2_with fail
    refine hEq.mono ?_
    rintro e w4 ⟨rfl, hw4⟩
    obtain rfl := hw4.symm
    clear hEq
    go_wp2_with fail
    exact bodyPost_ret (v := .tuple #[.agg #[.slice none 0 0, .slice none 0 0], .int .i64 11]) (by simp [results, Try.results14, go_sem, hlN, t0, t1]) rfl hpost
  · have hDv := hD4'.out hX
    have hXd : decide (X = b) = true := by simpa using hX
    rw [hXd] at hEq
    obtain ⟨wN, hWN, hxN, hbN, hsN, hkN⟩ := resW hx03 hB3 (.slice sa m.consts.length sc) (.slice fa m.funcs.length fc)
    obtain ⟨t0, t1, -, -, hlN⟩ := cells_k2 hxN
    have hpost : OutH w D (.returned (.tuple #[.agg #[.slice sa m.consts.length sc, .slice fa m.funcs.length fc], .int .i64 0])) wN := by
      rw [hDv]
      have hG3 := hGH.out.1.below hb3
      have hF3 := hGH.out.2.below hb3
      refine ⟨⟨sa, sc, fa, fc, n1, rfl, ?_, ?_, by omega, by omega⟩, hbN⟩
      · exact (hG3.since ⟨by omega, fun k hk _ => hkN k (by omega)⟩).base (fun k hk _ => ⟨by omega, hk.2⟩)
      · exact hF3.since (by omega) (fun k hk _ => hkN k (by omega))
    clear hxN hbN hx03 hb3 hB3 hDv hGH hD3' hD4' HX hX hXd hkN hsN hx23
    go_wp2_with fail
    refine hEq.mono ?_
    rintro e w4 ⟨rfl, hw4⟩
    obtain rfl := hw4.symm
    clear hEq
    go_wp2_with fail
    exact bodyPost_ret (v := .tuple #[.agg #[.slice sa m.consts.length sc, .slice fa m.funcs.length fc], .int .i64 0]) (by simp [results, Try.results14, go_sem, hlN, t0, t1]) rfl hpost
end Go.Proofs.Ytndahpcjkcihlaa
/- Rows that may be written over, whatever stands there. -/
namespace Go.Proofs.Ytndahpcjkcihlaa
open Go.RowKit
set_option linter.unusedVariables false
set_option linter.unusedSimpArgs false

theorem lst_small {m : Md} (h : Small m) : ∀ v ∈ m.consts, Lst v := fun v hv => by
  have h1 := csz_mem hv
  have h2 := h.l v hv
  have h3 := h.c
  obtain ⟨k, n, t, l⟩ := v
  rw [Lst]
  refine ⟨by have h1' : 1 + t.length + l.length ≤ csz m.consts := h1; omega, ?_⟩
  have h4 : ∀ x ∈ l, x.l = [] := h2
  clear h1 h2 hv
  induction l with
  | nil => rw [Lsts]; trivial
  | cons a r ih =>
    rw [Lsts]
    exact ⟨lst_of (h4 a (by simp)), ih (fun x hx => h4 x (by simp [hx]))⟩
/-- A block with at least so many cells, that may be written. -/
def Big (w : World) (g n : Nat) : Prop := ∃ arr T, w.heap[g]? = some (.cells arr T (0, 0)) ∧ n ≤ arr.size
theorem Big.cell {w : World} {g n : Nat} (h : Big w g n) {j : Nat} (hj : j < n) : ∃ u, w.cell? ⟨g, j, none⟩ = some u ∧ w.frozen? ⟨g, j, none⟩ = false ∧ g < w.heap.size := by
  obtain ⟨arr, T, h1, h2⟩ := h
  refine ⟨arr[j]'(by omega), ?_, by simp [World.frozen?, h1], (Array.getElem?_eq_some_iff.1 h1).1⟩
  simp only [World.cell?, h1]
  simp
theorem Big.set {w : World} {g n : Nat} (h : Big w g n) (g' o : Nat) (x : Value) : Big (w.setCell ⟨g', o, none⟩ x) g n := by
  obtain ⟨arr, T, h1, h2⟩ := h
  by_cases e : g = g'
  · subst e
    exact ⟨arr.setIfInBounds o x, T, by simp [World.setCell, Array.getElem?_modify, h1], by simpa using h2⟩
  · exact ⟨arr, T, (Below.heap_setCell _ _ _ _ e).trans h1, h2⟩
theorem Big.keep {w w' : World} {g n : Nat} (h : Big w g n) (e : w'.heap[g]? = w.heap[g]?) : Big w' g n := by
  obtain ⟨arr, T, h1, h2⟩ := h
  exact ⟨arr, T, e.trans h1, h2⟩
theorem cell_far {w : World} {g g' o o' : Nat} {x : Value} (h : g ≠ g') : (w.setCell ⟨g', o', none⟩ x).cell? ⟨g, o, none⟩ = w.cell? ⟨g, o, none⟩ := World.cell?_of_block (w := w) (Below.heap_setCell _ _ _ _ h)
theorem cell_off {w : World} {g o o' : Nat} {x : Value} (h : o ≠ o') : (w.setCell ⟨g, o', none⟩ x).cell? ⟨g, o, none⟩ = w.cell? ⟨g, o, none⟩ := by
  simp only [World.cell?, World.setCell, Array.getElem?_modify]
  rcases hg : w.heap[g]? with _ | ob
  · simp [hg]
  · cases ob <;> simp [hg, Array.getElem?_setIfInBounds, Ne.symm h]
/-- A function of the row at g, whose code may be written over. -/
def Shp5 (K : Nat → Prop) (w : World) (g i : Nat) : Prop := ∃ ka L kc, w.cell? ⟨g, i * 5 + 4, none⟩ = some (.slice ka L kc) ∧ L ≤ 9223372036854775807 ∧ (L = 0 ∨ ∃ gk, ka = some ⟨gk, 0, none⟩ ∧ ¬ K gk ∧ gk ≠ g ∧ Big w gk (L * 2))
theorem Shp5.set {K : Nat → Prop} {w : World} {g i : Nat} (h : Shp5 K w g i) {g' o : Nat} {x : Value} (hg : g' ≠ g ∨ o ≠ i * 5 + 4) : Shp5 K (w.setCell ⟨g', o, none⟩ x) g i := by
  obtain ⟨ka, L, kc, h1, h2, h3⟩ := h
  refine ⟨ka, L, kc, ?_, h2, ?_⟩
  · rw [← h1]
    by_cases e : g' = g
    · subst e
      rcases hg with hg | hg
      · exact absurd rfl hg
      · exact cell_off (Ne.symm hg)
    · exact cell_far (Ne.symm e)
  · rcases h3 with h3 | ⟨gk, e1, e2, e3, e4⟩
    · exact Or.inl h3
    · exact Or.inr ⟨gk, e1, e2, e3, e4.set _ _ _⟩
/-- The functions' row from the q-th on. -/
structure XRow (K : Nat → Prop) (n1 : Nat) (fa : Option Addr) (Lf q : Nat) (w : World) : Prop where
  it : Lf = 0 ∨ ∃ gf, fa = some ⟨gf, 0, none⟩ ∧ n1 ≤ gf ∧ ¬ K gf ∧ Big w gf (Lf * 5) ∧ ∀ i, q ≤ i → i < Lf → Shp5 K w gf i
theorem XRow.set {K : Nat → Prop} {n1 : Nat} {fa : Option Addr} {Lf q : Nat} {w : World} (h : XRow K n1 fa Lf q w) {g' : Nat} (hg : g' < n1) (o : Nat) (x : Value) : XRow K n1 fa Lf q (w.setCell ⟨g', o, none⟩ x) := by
  refine ⟨?_⟩
  rcases h.it with h0 | ⟨gf, e1, e2, e3, e4, e5⟩
  · exact Or.inl h0
  · exact Or.inr ⟨gf, e1, e2, e3, e4.set _ _ _, fun i h1 h2 => (e5 i h1 h2).set (Or.inl (by omega))⟩
theorem GO.row {base n : Nat} {w : World} {fa : Option Addr} {fc : Nat} {acc : List Fu} {K : Nat → Prop} (h : GO base w (.slice fa n fc) acc) (hn : n = acc.length) (hK : ∀ k, base ≤ k → k < w.heap.size → ¬ K k) : XRow K base fa n 0 w := by
  subst hn
  obtain ⟨row, h1, h2⟩ := h
  refine ⟨?_⟩
  rcases h1.2 with ⟨e, h0⟩ | ⟨g, cap, cur, e, h4, h5, h6, h7, h8, h9⟩
  · exact Or.inl h0
  · simp only [Value.slice.injEq] at e
    obtain ⟨rfl, -, rfl⟩ := e
    have hgl := (Array.getElem?_eq_some_iff.1 h5).1
    have hcs : acc.length * 5 ≤ cur.size := by
      have h10 := congrArg List.length h9
      rw [List.length_take, h1.1] at h10
      simp at h10
      omega
    refine Or.inr ⟨g, rfl, h4, hK g h4 hgl, ⟨cur, _, h5, hcs⟩, fun i _ hi => ?_⟩
    obtain ⟨f, hf⟩ : ∃ f, acc[i]? = some f := ⟨_, List.getElem?_eq_getElem hi⟩
    obtain ⟨cs, ⟨a, c, rfl, k2, k3⟩, hr⟩ := h2.get hf
    have hr4 := hr 4 (by omega)
    have hcell : w.cell? ⟨g, i * 5 + 4, none⟩ = some (.slice a f.code.length c) := by
      have e1 : w.cell? ⟨g, i * 5 + 4, none⟩ = cur[i * 5 + 4]? := by simp [World.cell?, h5]
      rw [e1]
      have e2 : row[i * 5 + 4]? = some (.slice a f.code.length c) := hr4
      rw [← h9, List.getElem?_take] at e2
      split at e2
      · simpa using e2
      · cases e2
    rcases k2.2 with ⟨e, h0⟩ | ⟨gk, ck, curk, e, q4, q5, q6, q7, q8, q9⟩
    · exact ⟨a, f.code.length, c, hcell, by omega, Or.inl h0⟩
    · have hown : (Value.slice a f.code.length c).ownBlock = some gk := by rw [e]; rfl
      have hne := k3 gk hown
      simp only [Value.slice.injEq] at e
      obtain ⟨rfl, -, rfl⟩ := e
      refine ⟨_, f.code.length, c, hcell, by unfold maxLen at q7; omega, Or.inr ⟨gk, rfl, hK gk q4 (Array.getElem?_eq_some_iff.1 q5).1, fun he => hne (by rw [he]; rfl), ⟨curk, _, q5, ?_⟩⟩⟩
      have h10 := congrArg List.length q9
      rw [List.length_take, k2.1] at h10
      simp at h10
      omega
/-- A row of bytes, of values, of one's own. -/
theorem OwnN.big {w : World} {base : Nat} {a : Option Addr} {N c : Nat} {bs : List UInt8} (h : OwnN w base a N c bs) : N = 0 ∨ ∃ g, a = some ⟨g, 0, none⟩ ∧ base ≤ g ∧ g < w.heap.size ∧ Big w g N := by
  obtain ⟨rfl, ho⟩ := h
  rcases ho.2 with ⟨e, h0⟩ | ⟨g, cap, cur, e, h4, h5, h6, h7, h8, h9⟩
  · exact Or.inl h0
  · simp only [Value.slice.injEq] at e
    refine Or.inr ⟨g, e.1, h4, (Array.getElem?_eq_some_iff.1 h5).1, ⟨cur, _, h5, ?_⟩⟩
    have h10 := congrArg List.length h9
    rw [List.length_take, ho.1] at h10
    simp at h10
    omega
theorem Gv.big {P : Nat → Prop} {w : World} {ao : Option Addr} {n cap : Nat} {acc : List V} (h : Gv P w (.slice ao n cap) acc) (hn : n = acc.length) : n = 0 ∨ ∃ g, ao = some ⟨g, 0, none⟩ ∧ P g ∧ g < w.heap.size ∧ Big w g (n * 4) := by
  subst hn
  obtain ⟨row, h1, h2, h3⟩ := h
  rcases h1.2 with ⟨e, h0⟩ | ⟨g, c, cur, e, h4, h5, h6, h7, h8, h9⟩
  · exact Or.inl h0
  · have hP := h2 g (by rw [e]; rfl)
    simp only [Value.slice.injEq] at e
    refine Or.inr ⟨g, e.1, hP, (Array.getElem?_eq_some_iff.1 h5).1, ⟨cur, _, h5, ?_⟩⟩
    have h10 := congrArg List.length h9
    rw [List.length_take, h1.1] at h10
    simp at h10
    omega
theorem Big.lt {w : World} {g n : Nat} (h : Big w g n) : g < w.heap.size := by
  obtain ⟨arr, T, h1, h2⟩ := h
  exact (Array.getElem?_eq_some_iff.1 h1).1
theorem Shp5.keep {K : Nat → Prop} {w w' : World} {g i : Nat} (h : Shp5 K w g i) (hg : g < w.heap.size) (hb : Below w.heap.size w w') : Shp5 K w' g i := by
  obtain ⟨ka, L, kc, h1, h2, h3⟩ := h
  refine ⟨ka, L, kc, ((bcell hb).1 _ _ hg).trans h1, h2, ?_⟩
  rcases h3 with h3 | ⟨gk, e1, e2, e3, e4⟩
  · exact Or.inl h3
  · exact Or.inr ⟨gk, e1, e2, e3, e4.keep (hb.block _ e4.lt)⟩
theorem XRow.keep {K : Nat → Prop} {n1 : Nat} {fa : Option Addr} {Lf q : Nat} {w w' : World} (h : XRow K n1 fa Lf q w) (hb : Below w.heap.size w w') : XRow K n1 fa Lf q w' := by
  refine ⟨?_⟩
  rcases h.it with h0 | ⟨gf, e1, e2, e3, e4, e5⟩
  · exact Or.inl h0
  · exact Or.inr ⟨gf, e1, e2, e3, e4.keep (hb.block _ e4.lt), fun i h1 h2 => (e5 i h1 h2).keep e4.lt hb⟩
end Go.Proofs.Ytndahpcjkcihlaa
