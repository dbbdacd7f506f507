/- Texts of ours, joined: Nh, Oj, Oxa, Oa, Ob, Od. -/
import Derived.Test.YtnijcolomoobnaaGreatDoorK15
import Derived.Test.YtnijcolomoobnaaGreatDoorK08
import Derived.Test.YtnijcolomoobnaaGreatDoorK03
import Derived.Test.YtnijcolomoobnaaGreatDoorK11
import Derived.Test.YtnijcolomoobnaaGreatDoorK13
import Derived.Test.YtnijcolomoobnaaGreatDoorK06
namespace Go.Proofs.YtnijcolomoobnaaGreatDoor
set_option linter.unusedVariables false
set_option linter.unusedSimpArgs false

structure Vst (m : Md) (states : Int) (n : Nat) (f : Fu) (H : Nat → Option Int) (p : Nat) (loc stk sts : List V) (fl : Int) : Prop where
  hf : m.funcs[n]? = some f
  lab : Lab m.funcs f H
  hp : H p = some (stk.length : Int)
  f0 : 0 ≤ fl
  sloc : Snds loc
  ll : (loc.length : Int) = f.locals
  sstk : Snds stk
  ssts : Snds sts
  sl : (sts.length : Int) = states
  top : stk.length ≤ 256
abbrev vBelow (m : Md) (i : In) (stk : List V) : List V := stk.take (stk.length - (popN m.funcs i).toNat)
abbrev vPop (m : Md) (i : In) (stk : List V) : List V := stk.drop (stk.length - (popN m.funcs i).toNat)
theorem run_inW {m : Md} {states : Int} (hr : Run m states) : ∀ f ∈ m.funcs, ∀ i ∈ f.code, InW i := fun f hf i hi => by
  obtain ⟨k, hk⟩ := List.mem_iff_getElem?.1 hf
  exact ((hr.fun_ k f hk).ins i hi).w
theorem popN_pos {m : Md} {states : Int} (hr : Run m states) (i : In) : 0 ≤ popN m.funcs i := by
  unfold popN
  split
  · omega
  split
  · omega
  split
  · omega
  split
  · rename_i h9
    rcases hg : m.funcs[i.a.toNat]? with _ | f'
    · simp
    · have := (hr.fun_ _ f' hg).num
      unfold NumOk at this
      simpa using this.1
  · omega
theorem Vst.ins {it : Int → List UInt8} {m : Md} {states : Int} (hr : Run m states) {n : Nat} {f : Fu} {H : Nat → Option Int} {p : Nat} {loc stk sts : List V} {fl : Int} (h : Vst m states n f H p loc stk sts fl) : ∃ i, f.code[p]? = some i ∧ InOk m.consts.length states n f i ∧ ((vBelow m i stk).length : Int) = stk.length - popN m.funcs i ∧ ((vPop m i stk).length : Int) = popN m.funcs i ∧ 0 ≤ popN m.funcs i ∧ popN m.funcs i ≤ stk.length ∧ hgt m.funcs i stk.length ≤ 256 ∧ (∀ q ∈ nxt p i, H q = some (hgt m.funcs i stk.length)) ∧ vmN it m n p loc stk sts fl = vmI it m i p loc (vBelow m i stk) (vPop m i stk) sts fl := by
  obtain ⟨i, hc, a1, a2, a3⟩ := h.lab.step p _ h.hp
  have him := List.mem_of_getElem? hc
  have hpop := popN_pos hr i
  have hb : (m.funcs[n]?).bind (fun f => f.code[p]?) = some i := by rw [h.hf]; exact hc
  have hnum := (hr.fun_ n f h.hf).num
  unfold NumOk at hnum
  exact ⟨i, hc, (hr.fun_ n f h.hf).ins i him, by rw [List.length_take]; omega, by rw [List.length_drop]; omega, hpop, by omega, by omega, a3, by unfold vmN; rw [hb]⟩
theorem Vst.step {it : Int → List UInt8} (hit : ∀ n, (it n).length ≤ 256) {m : Md} {states : Int} (hr : Run m states) (hcon : Snds m.consts) {n : Nat} {f : Fu} {H : Nat → Option Int} {p : Nat} {loc stk sts : List V} {fl : Int} (h : Vst m states n f H p loc stk sts fl) {i : In} (hc : f.code[p]? = some i) : NxOk m states f (vmI it m i p loc (vBelow m i stk) (vPop m i stk) sts fl) := by
  obtain ⟨i', hc', a1, a2, a3, a4, -⟩ := h.ins (it := it) hr
  rw [hc] at hc'
  have e : i = i' := Option.some.inj hc'
  subst e
  exact vmI_snd (p := p) (fl := fl) hit hr hcon h.hf (List.mem_of_getElem? hc) h.sloc h.ll (h.sstk.take _) (h.sstk.drop _) a3 h.ssts h.sl
theorem Vst.go {it : Int → List UInt8} (hit : ∀ n, (it n).length ≤ 256) {m : Md} {states : Int} (hr : Run m states) (hcon : Snds m.consts) {n : Nat} {f : Fu} {H : Nat → Option Int} {p : Nat} {loc stk sts : List V} {fl : Int} (h : Vst m states n f H p loc stk sts fl) {i : In} (hc : f.code[p]? = some i) {p' : Nat} {loc' stk' sts' : List V} {fl' : Int} (hx : vmI it m i p loc (vBelow m i stk) (vPop m i stk) sts fl = .go p' loc' stk' sts' fl') : Vst m states n f H p' loc' stk' sts' fl' := by
  have hok := h.step hit hr hcon hc
  rw [hx] at hok
  obtain ⟨d1, d2, d3, d4, d5⟩ := hok
  obtain ⟨i', hc', a0, a1, a2, a3, a4, a5, a6, -⟩ := h.ins (it := it) hr
  rw [hc] at hc'
  have e : i = i' := Option.some.inj hc'
  subst e
  obtain ⟨b1, b2, b3, b4, b5⟩ := vmI_go (run_inW hr f (List.mem_of_getElem? h.hf) i (List.mem_of_getElem? hc)) h.f0 hx
  have hl : (stk'.length : Int) = hgt m.funcs i stk.length := by rw [b2, a1]; rfl
  exact ⟨h.hf, h.lab, by rw [a6 p' b1, hl], b4, d1, d2, d3, d4, d5, by omega⟩
theorem Vst.call {it : Int → List UInt8} (hit : ∀ n, (it n).length ≤ 256) {m : Md} {states : Int} (hr : Run m states) (hcon : Snds m.consts) {n : Nat} {f : Fu} {H : Nat → Option Int} {p : Nat} {loc stk sts : List V} {fl : Int} (h : Vst m states n f H p loc stk sts fl) {i : In} (hc : f.code[p]? = some i) {k : Nat} {lk s : List V} {fl' : Int} (hx : vmI it m i p loc (vBelow m i stk) (vPop m i stk) sts fl = .call k lk s fl') : ∃ f' H', Vst m states k f' H' 0 lk [] sts fl' := by
  have hok := h.step hit hr hcon hc
  rw [hx] at hok
  obtain ⟨b1, b2, b3, b4, b5, f', b6, b7⟩ := vmI_call hx
  obtain ⟨f2, d1, d2, d3, d4⟩ := hok
  obtain ⟨H', hH'⟩ := (hr.fun_ k f2 d1).walk
  exact ⟨f2, H', d1, hH', hH'.zero, b5, d2, d3, (fun x hx => by simp at hx), h.ssts, h.sl, by simp⟩
theorem Vst.back {it : Int → List UInt8} (hit : ∀ n, (it n).length ≤ 256) {m : Md} {states : Int} (hr : Run m states) (hcon : Snds m.consts) {n : Nat} {f : Fu} {H : Nat → Option Int} {p : Nat} {loc stk sts : List V} {fl : Int} (h : Vst m states n f H p loc stk sts fl) {i : In} (hc : f.code[p]? = some i) {k : Nat} {lk s : List V} {fl' : Int} (hx : vmI it m i p loc (vBelow m i stk) (vPop m i stk) sts fl = .call k lk s fl') {g : Nat} {o : VOut} (ho : vmRun it m g k 0 lk [] sts fl' = some o) (ht : o.trap = 0) : Vst m states n f H (p + 1) loc (s ++ [o.val]) o.sts o.fuel := by
  obtain ⟨f', H', hv⟩ := h.call hit hr hcon hc hx
  have hok := h.step hit hr hcon hc
  rw [hx] at hok
  obtain ⟨f2, d1, d2, d3, d4⟩ := hok
  obtain ⟨s1, s2, s3⟩ := vm_snd hit hr hcon g hv.hf hv.lab hv.hp hv.f0 hv.sloc hv.ll hv.sstk hv.ssts hv.sl ho ht
  obtain ⟨c1, c2, -⟩ := vm_fuel (run_inW hr) g hv.f0 ho
  obtain ⟨i', hc', a0, a1, a2, a3, a4, a5, a6, -⟩ := h.ins (it := it) hr
  rw [hc] at hc'
  have e : i = i' := Option.some.inj hc'
  subst e
  obtain ⟨b1, b2, b3, b4, b5, -⟩ := vmI_call hx
  have hnx : p + 1 ∈ nxt p i := by
    unfold nxt
    rw [if_neg (show ¬ (i.op = 7 ∨ i.op = 10) by omega)]
    simp
  have hps : psh i.op = 1 := by rw [b1]; simp [psh, pshB]
  have hl : ((s ++ [o.val]).length : Int) = hgt m.funcs i stk.length := by
    unfold hgt
    rw [hps, List.length_append]
    simp only [List.length_singleton]
    rw [b3]
    push_cast
    omega
  exact ⟨h.hf, h.lab, by rw [a6 _ hnx, hl], c1, h.sloc, h.ll, d4.app (Snds.one s1), s2, s3, by omega⟩
end Go.Proofs.YtnijcolomoobnaaGreatDoor
namespace Go.Proofs.YtnijcolomoobnaaGreatDoor
open Go.RowKit
set_option linter.unusedVariables false
set_option linter.unusedSimpArgs false
attribute [local go_sem ↓] Go.wp_at_zero Go.wp_at_succ

def Mc (p : Nat) (w : World) (cs fs ss : Value) (fl tr : Int) : Prop := w.heap[p]? = some (.cells #[cs, fs, ss, .int .i64 fl, .int .i64 tr] 68 (0, 0))
theorem Mc.keep {p : Nat} {w w' : World} {cs fs ss : Value} {fl tr : Int} (h : Mc p w cs fs ss fl tr) (hb : w'.heap[p]? = w.heap[p]?) : Mc p w' cs fs ss fl tr := hb.trans h
theorem Mc.lt {p : Nat} {w : World} {cs fs ss : Value} {fl tr : Int} (h : Mc p w cs fs ss fl tr) : p < w.heap.size := (Array.getElem?_eq_some_iff.1 h).1
theorem Mc.below {p : Nat} {w w' : World} {cs fs ss : Value} {fl tr : Int} (h : Mc p w cs fs ss fl tr) (hb : Below w.heap.size w w') : Mc p w' cs fs ss fl tr := h.keep (hb.block _ h.lt)
end Go.Proofs.YtnijcolomoobnaaGreatDoor
namespace Go.Proofs.YtnijcolomoobnaaGreatDoor
open Go.RowKit
set_option linter.unusedVariables false
set_option linter.unusedSimpArgs false

theorem owns_low {w : World} {b e size n : Nat} {v : Value} {xs : List Value} (h : w.ownsRow b e size v n xs) : w.ownsRow 0 e size v n xs ∧ ∀ k, v.ownBlock = some k → b ≤ k ∧ k < w.heap.size := by
  refine ⟨⟨h.1, ?_⟩, fun k hk => h.lt k hk⟩
  rcases h.2 with h1 | ⟨g, cap, cur, e1, h2, h3⟩
  · exact Or.inl h1
  · exact Or.inr ⟨g, cap, cur, e1, Nat.zero_le _, h3⟩
theorem vcopy_run {B : Nat → Prop} {w : World} {l : List V} {a : Option Addr} {n c : Nat} (h : IsVs B w l (.slice a n c)) (hl : l.length ≤ 900000) (hB : ∀ k, w.heap.size ≤ k → B k) :
    ∃ wa a1 c1 w1, w.alloc (.cells #[] 31) = wa ∧ (Builtin.append_ #[22, 22] 22 #[.slice (some ⟨w.heap.size, 0, none⟩) 0 0, .slice a n c]).run Tryz.prog wa = .ok (.slice a1 l.length c1) w1 ∧ Gv B w1 (.slice a1 l.length c1) l ∧ Below w.heap.size w w1 ∧ (∀ k, (Value.slice a1 l.length c1).ownBlock = some k → w.heap.size ≤ k) := by
  obtain ⟨ao, cap, e, -, -⟩ := h.slice
  simp only [Value.slice.injEq] at e
  obtain ⟨rfl, rfl, rfl⟩ := e
  obtain ⟨wa, hWa⟩ : ∃ wa, w.alloc (.cells #[] 31) = wa := ⟨_, rfl⟩
  have hba : Below w.heap.size w wa := by rw [← hWa]; exact (Below.refl _ _).alloc (Nat.le_refl _) _
  have hown : wa.ownsRow w.heap.size 31 4 (.slice (some ⟨w.heap.size, 0, none⟩) 0 0) 0 [] := by
    rw [← hWa]
    exact ⟨rfl, Or.inr ⟨w.heap.size, 0, #[], rfl, Nat.le_refl _, heap_new _ _, Nat.le_refl _, by unfold maxLen; omega, rfl, rfl⟩⟩
  obtain ⟨row, n1, n2, n3, n4⟩ := (h.base (B' := fun k => B k ∧ k < w.heap.size) (fun k h1 h2 => ⟨h1, h2⟩)).below hba |>.news
  obtain ⟨a1, c1, w1, hr, ho, hb, -⟩ := app_run Tryz.underlying22 valInfo rfl (by decide) 22 (m := l.length) hown n3 n1 n4 n2.ones (by omega) (by decide) hba.size
  rw [Nat.zero_add, List.nil_append] at *
  obtain ⟨ho1, ho2⟩ := owns_low ho
  have hB1 : Below w.heap.size w w1 := hba.trans hb
  refine ⟨wa, a1, c1, w1, hWa, hr, ⟨row, ho1, fun k hk => hB k (ho2 k hk).1, ?_⟩, hB1, fun k hk => (ho2 k hk).1⟩
  refine (n2.since ⟨hb.size, fun k hk hl => hb.block k hk.2⟩).base (fun k hk hl => ⟨hk.1, fun e => ?_⟩)
  have := (ho2 k e).1
  have := hk.2
  omega
end Go.Proofs.YtnijcolomoobnaaGreatDoor
namespace Go.Proofs.YtnijcolomoobnaaGreatDoor
open Go.RowKit
set_option linter.unusedVariables false
set_option linter.unusedSimpArgs false
attribute [local go_sem ↓] Go.wp_at_zero Go.wp_at_succ

theorem wrap_wr (x : Int) : IntKind.i64.wrap x = wr64 x := by rw [IntKind.wrap_i64]; unfold wr64; omega
set_option maxRecDepth 100000 in
set_option maxHeartbeats 1000000 in
theorem exact_any (n : Int) (b : Bool) (w : World) : Calls Tryz.prog 127 #[.int .i64 n, .bool b] w fun e w' => e = .returned (.tuple #[.int .i64 (if b then n else 0), .int .i64 (if b then 0 else 50)]) ∧ w' = w := by
  cases b with
  | true =>
    go_enter Tryz.func127, Tryz.ntmps127
    go_wp2
    go_ret2
    exact ⟨rfl, rfl⟩
  | false =>
    go_enter Tryz.func127, Tryz.ntmps127
    go_wp2
    go_ret2
    exact ⟨rfl, rfl⟩
def TwoZ (x : Int × Int) (w : World) (e : Ending) (w' : World) : Prop := e = .returned (.tuple #[.int .i64 x.1, .int .i64 x.2]) ∧ w' = w
theorem exact_two {n x : Int} {b : Bool} (hb : b = true ↔ InR x) (hn : InR x → n = x) (w : World) : Calls Tryz.prog 127 #[.int .i64 n, .bool b] w fun e w' => TwoZ (exR x) w e w' := by
  refine (exact_any n b w).mono fun e w' h => ?_
  cases b with
  | true =>
    have hx := hb.1 rfl
    rw [exR_in hx]
    exact ⟨by rw [h.1, hn hx]; rfl, h.2⟩
  | false =>
    have hx : ¬ InR x := fun h => by have := hb.2 h; cases this
    rw [exR_out hx]
    exact ⟨by rw [h.1]; rfl, h.2⟩
set_option maxRecDepth 100000 in
set_option maxHeartbeats 1000000 in
theorem negated_any {n : Int} (hn : InR n) (w : World) : Calls Tryz.prog 86 #[.int .i64 n] w fun e w' => TwoZ (exR (-n)) w e w' := by
  have hw := wrap_wr (-n)
  have hE : ∀ b, (b = true ↔ InR (-n)) → Calls Tryz.prog 127 #[.int .i64 (wr64 (-n)), .bool b] w fun e w' => TwoZ (exR (-n)) w e w' := fun b hb => exact_two hb (fun h => wr64_in h) w
  by_cases hm : n = -9223372036854775808
  · have h1 := hE false ⟨fun h => (by cases h), fun h => (by unfold InR at h; omega)⟩
    have hb : (n != -9223372036854775808) = false := by simp [hm]
    clear hE hm
    generalize wr64 (-n) = z at *
    generalize exR (-n) = X at *
    go_enter Tryz.func86, Tryz.ntmps86
    go_wp2_with fail
    refine h1.mono ?_
    rintro e w1 ⟨rfl, rfl⟩
    clear h1
    go_wp2
    go_ret2
    exact ⟨rfl, rfl⟩
  · have h1 := hE true ⟨fun _ => (by unfold InR at *; omega), fun _ => rfl⟩
    have hb : (n != -9223372036854775808) = true := by simpa using hm
    clear hE hm
    generalize wr64 (-n) = z at *
    generalize exR (-n) = X at *
    go_enter Tryz.func86, Tryz.ntmps86
    go_wp2_with fail
    refine h1.mono ?_
    rintro e w1 ⟨rfl, rfl⟩
    clear h1
    go_wp2
    go_ret2
    exact ⟨rfl, rfl⟩
set_option maxRecDepth 100000 in
set_option maxHeartbeats 1000000 in
theorem product_any {a b : Int} (ha : InR a) (hb : InR b) (w : World) : Calls Tryz.prog 151 #[.int .i64 a, .int .i64 b] w fun e w' => TwoZ (exR (a * b)) w e w' := by
  by_cases h1 : a = -1
  · have hN := negated_any hb w
    have e : a * b = -b := by rw [h1]; omega
    rw [e]
    have hab : (a == -1) = true := by simp [h1]
    clear h1 e
    generalize exR (-b) = X at *
    go_enter Tryz.func151, Tryz.ntmps151
    go_wp2_with fail
    refine hN.mono ?_
    rintro e w1 ⟨rfl, rfl⟩
    clear hN
    go_wp2
    go_ret2
    exact ⟨rfl, rfl⟩
  have hab : (a == -1) = false := by simpa using h1
  have hw := wrap_wr (a * b)
  by_cases h0 : a = 0
  · have hE := exact_two (n := wr64 (a * b)) (x := a * b) (b := true) ⟨fun _ => (by rw [h0]; unfold InR; omega), fun _ => rfl⟩ (fun h => wr64_in h) w
    have hz : (a == 0) = true := by simp [h0]
    clear h0 h1
    generalize wr64 (a * b) = z at *
    generalize exR (a * b) = X at *
    go_enter Tryz.func151, Tryz.ntmps151
    go_wp2_with fail
    refine hE.mono ?_
    rintro e w1 ⟨rfl, rfl⟩
    clear hE
    go_wp2
    go_ret2
    exact ⟨rfl, rfl⟩
  have hz : (a == 0) = false := by simpa using h0
  have hE := exact_two (n := wr64 (a * b)) (x := a * b) (b := (wr64 (a * b)).tdiv a == b) (by rw [beq_iff_eq]; exact mul_tell ha hb h0 h1) (fun h => wr64_in h) w
  have hzr := wr64_r (a * b)
  have hq : InR ((wr64 (a * b)).tdiv a) := by
    have h5 : ((wr64 (a * b)).tdiv a).natAbs ≤ (wr64 (a * b)).natAbs := Int.natAbs_tdiv_le_natAbs _ _
    generalize wr64 (a * b) = z at *
    by_cases hz9 : z = -9223372036854775808
    · by_cases hq9 : z.tdiv a = 9223372036854775808
      · exfalso
        have h6 := Int.mul_tdiv_add_tmod z a
        rw [hq9] at h6
        have h7 : (z.tmod a).natAbs < a.natAbs := by rw [Int.natAbs_tmod]; exact Nat.mod_lt _ (Int.natAbs_pos.2 h0)
        generalize z.tmod a = r at *
        omega
      · unfold InR; omega
    · unfold InR at *; omega
  have hwq : IntKind.i64.wrap ((wr64 (a * b)).tdiv a) = (wr64 (a * b)).tdiv a := by rw [wrap_wr]; exact wr64_in hq
  clear hq
  generalize wr64 (a * b) = z at *
  generalize exR (a * b) = X at *
  go_enter Tryz.func151, Tryz.ntmps151
  go_wp2_with fail
  refine hE.mono ?_
  rintro e w1 ⟨rfl, rfl⟩
  clear hE
  go_wp2
  go_ret2
  exact ⟨rfl, rfl⟩
set_option maxRecDepth 100000 in
set_option maxHeartbeats 1000000 in
theorem quotient_any {a b : Int} (ha : InR a) (hb : InR b) (w : World) : Calls Tryz.prog 152 #[.int .i64 a, .int .i64 b] w fun e w' => TwoZ (if b = 0 then (0, 51) else exR (a.tdiv b)) w e w' := by
  by_cases h0 : b = 0
  · rw [if_pos h0]
    have hz : (b == 0) = true := by simp [h0]
    clear h0
    go_enter Tryz.func152, Tryz.ntmps152
    go_wp2
    go_ret2
    exact ⟨rfl, rfl⟩
  rw [if_neg h0]
  have hz : (b == 0) = false := by simpa using h0
  by_cases h1 : b = -1
  · have hN := negated_any ha w
    have e : a.tdiv b = -a := by rw [h1, Int.tdiv_neg, Int.tdiv_one]
    rw [e]
    have hm : (b == -1) = true := by simp [h1]
    clear h0 h1 e
    generalize exR (-a) = X at *
    go_enter Tryz.func152, Tryz.ntmps152
    go_wp2_with fail
    refine hN.mono ?_
    rintro e w1 ⟨rfl, rfl⟩
    clear hN
    go_wp2
    go_ret2
    exact ⟨rfl, rfl⟩
  have hm : (b == -1) = false := by simpa using h1
  have hq : InR (a.tdiv b) := by
    have h5 : (a.tdiv b).natAbs ≤ a.natAbs := Int.natAbs_tdiv_le_natAbs _ _
    by_cases hz9 : a = -9223372036854775808
    · by_cases hq9 : a.tdiv b = 9223372036854775808
      · exfalso
        have h6 := Int.mul_tdiv_add_tmod a b
        rw [hq9] at h6
        have h7 : (a.tmod b).natAbs < b.natAbs := by rw [Int.natAbs_tmod]; exact Nat.mod_lt _ (Int.natAbs_pos.2 h0)
        generalize a.tmod b = r at *
        omega
      · unfold InR; omega
    · unfold InR at *; omega
  rw [exR_in hq]
  have hwq : IntKind.i64.wrap (a.tdiv b) = a.tdiv b := by rw [wrap_wr]; exact wr64_in hq
  clear hq
  go_enter Tryz.func152, Tryz.ntmps152
  go_wp2
  go_ret2
  exact ⟨rfl, rfl⟩
set_option maxRecDepth 100000 in
set_option maxHeartbeats 1000000 in
theorem reckoned_any {op a b : Int} (ha : InR a) (hb : InR b) (w : World) : Calls Tryz.prog 125 #[.int .i64 op, .int .i64 a, .int .i64 b] w fun e w' => TwoZ (arZ op a b) w e w' := by
  unfold arZ
  by_cases c9 : op = 9
  · rw [if_pos c9]
    have hE := exact_two (n := wr64 (a + b)) (x := a + b) (b := decide (wr64 (a + b) < a) == decide (b < 0)) (sum_tell ha hb) (fun h => wr64_in h) w
    have hw := wrap_wr (a + b)
    generalize wr64 (a + b) = z at *
    generalize exR (a + b) = X at *
    subst c9
    go_enter Tryz.func125, Tryz.ntmps125
    go_wp2_with fail
    refine hE.mono ?_
    rintro e w1 ⟨rfl, rfl⟩
    clear hE
    go_wp2
    go_ret2
    exact ⟨rfl, rfl⟩
  rw [if_neg c9]
  have n9 : (op == 9) = false := by simpa using c9
  by_cases c10 : op = 10
  · rw [if_pos c10]
    have hE := exact_two (n := wr64 (a - b)) (x := a - b) (b := decide (wr64 (a - b) > a) == decide (b < 0)) (sub_tell ha hb) (fun h => wr64_in h) w
    have hw := wrap_wr (a - b)
    generalize wr64 (a - b) = z at *
    generalize exR (a - b) = X at *
    subst c10
    go_enter Tryz.func125, Tryz.ntmps125
    go_wp2_with fail
    refine hE.mono ?_
    rintro e w1 ⟨rfl, rfl⟩
    clear hE
    go_wp2
    go_ret2
    exact ⟨rfl, rfl⟩
  rw [if_neg c10]
  have n10 : (op == 10) = false := by simpa using c10
  by_cases c11 : op = 11
  · rw [if_pos c11]
    have hE := product_any ha hb w
    generalize exR (a * b) = X at *
    subst c11
    go_enter Tryz.func125, Tryz.ntmps125
    go_wp2_with fail
    refine hE.mono ?_
    rintro e w1 ⟨rfl, rfl⟩
    clear hE
    go_wp2
    go_ret2
    exact ⟨rfl, rfl⟩
  rw [if_neg c11]
  have n11 : (op == 11) = false := by simpa using c11
  by_cases c12 : op = 12
  · rw [if_pos c12]
    have hE := quotient_any ha hb w
    generalize (if b = 0 then ((0, 51) : Int × Int) else exR (a.tdiv b)) = X at *
    subst c12
    go_enter Tryz.func125, Tryz.ntmps125
    go_wp2_with fail
    refine hE.mono ?_
    rintro e w1 ⟨rfl, rfl⟩
    clear hE
    go_wp2
    go_ret2
    exact ⟨rfl, rfl⟩
  rw [if_neg c12]
  have n12 : (op == 12) = false := by simpa using c12
  by_cases c13 : op = 13
  · rw [if_pos c13]
    subst c13
    by_cases h0 : b = 0
    · rw [if_pos h0]
      have hz : (b == 0) = true := by simp [h0]
      clear h0
      go_enter Tryz.func125, Tryz.ntmps125
      go_wp2
      go_ret2
      exact ⟨rfl, rfl⟩
    · rw [if_neg h0]
      have hz : (b == 0) = false := by simpa using h0
      have hq : InR (a.tmod b) := by
        have h7 : (a.tmod b).natAbs < b.natAbs := by rw [Int.natAbs_tmod]; exact Nat.mod_lt _ (Int.natAbs_pos.2 h0)
        unfold InR at *; omega
      have hwq : IntKind.i64.wrap (a.tmod b) = a.tmod b := by rw [wrap_wr]; exact wr64_in hq
      clear hq
      go_enter Tryz.func125, Tryz.ntmps125
      go_wp2
      go_ret2
      exact ⟨rfl, rfl⟩
  rw [if_neg c13]
  have n13 : (op == 13) = false := by simpa using c13
  clear c9 c10 c11 c12 c13
  go_enter Tryz.func125, Tryz.ntmps125
  go_wp2
  go_ret2
  exact ⟨rfl, rfl⟩
end Go.Proofs.YtnijcolomoobnaaGreatDoor
namespace Go.Proofs.YtnijcolomoobnaaGreatDoor
open Go.RowKit
set_option linter.unusedVariables false
set_option linter.unusedSimpArgs false
attribute [local go_sem ↓] Go.wp_at_zero Go.wp_at_succ

def VTwo (x : V × Int) (w : World) (e : Ending) (w' : World) : Prop := e = .returned (.tuple #[.agg #[.int .i64 x.1.k, .int .i64 x.1.n, .string ⟨x.1.t.toArray⟩, .slice none 0 0], .int .i64 x.2]) ∧ Below w.heap.size w w'
theorem resB {w wq : World} {y0 y1 y2 y3 : Value} {T : TypeId} {g : Nat} (hx : wq.heap[g]? = some (.cells #[y0, y1, y2, y3] T (0, 0))) (hg : w.heap.size ≤ g) (hb : Below w.heap.size w wq) (x0 x1 x2 x3 : Value) : ∃ wN, (((wq.setCell ⟨g, 0, none⟩ x0).setCell ⟨g, 1, none⟩ x1).setCell ⟨g, 2, none⟩ x2).setCell ⟨g, 3, none⟩ x3 = wN ∧ wN.heap[g]? = some (.cells #[x0, x1, x2, x3] T (0, 0)) ∧ Below w.heap.size w wN :=
  ⟨_, rfl, by simp [World.setCell, Array.getElem?_modify, hx], (((hb.setCell (p := ⟨g, 0, none⟩) hg x0).setCell (p := ⟨g, 1, none⟩) hg x1).setCell (p := ⟨g, 2, none⟩) hg x2).setCell (p := ⟨g, 3, none⟩) hg x3⟩
theorem zbox4 (w : World) : ∃ w0, w.alloc (.cells #[.int .i64 0, .int .i64 0, .string ⟨#[]⟩, .slice none 0 0] 31) = w0 ∧ Below w.heap.size w w0 ∧ w.heap.size < w0.heap.size ∧ w0.heap[w.heap.size]? = some (.cells #[.int .i64 0, .int .i64 0, .string ⟨#[]⟩, .slice none 0 0] 31 (0, 0)) :=
  ⟨_, rfl, (Below.refl _ _).alloc (Nat.le_refl _) _, by simp, heap_new _ _⟩
def numV (x : Int × Int) : V × Int := if x.2 = 0 then (nV x.1, 0) else (zV, x.2)
set_option maxRecDepth 100000 in
set_option maxHeartbeats 1000000 in
theorem numb_any (n e : Int) (w : World) : Calls Tryz.prog 85 #[.int .i64 n, .int .i64 e] w fun r w' => VTwo (numV (n, e)) w r w' := by
  obtain ⟨w0, hW0, hb0, hl0, hx0⟩ := zbox4 w
  obtain ⟨s0, s1, s2, s3, t0, t1, t2, t3⟩ := cells_of4 hx0
  by_cases he : e = 0
  · have hv : numV (n, e) = (nV n, 0) := by unfold numV; rw [if_pos he]
    rw [hv]
    have heb : (e != 0) = false := by simp [he]
    have hI := int_any n w0
    clear he hv
    go_enter Tryz.func85, Tryz.ntmps85
    go_wp2_with fail
    refine hI.mono ?_
    rintro r w1 ⟨rfl, hb1⟩
    have hx1 := (hb1.block _ hl0).trans hx0
    obtain ⟨s0, s1, s2, s3, t0, t1, t2, t3⟩ := cells_of4 hx1
    obtain ⟨wN, hWN, hxN, hbN⟩ := resB hx1 (Nat.le_refl _) (hb0.trans (hb1.mono hb0.size)) (.int .i64 1) (.int .i64 n) (.string ⟨#[]⟩) (.slice none 0 0)
    obtain ⟨m0, m1, m2, m3, -⟩ := cells_of4 hxN
    have hlN : w.heap.size < wN.heap.size := (Array.getElem?_eq_some_iff.1 hxN).1
    have hl1 : w.heap.size < w1.heap.size := (Array.getElem?_eq_some_iff.1 hx1).1
    clear hI hx0 hx1 hxN hW0 hb1
    go_wp2_with fail
    exact bodyPost_ret (v := .tuple #[.agg #[.int .i64 1, .int .i64 n, .string ⟨#[]⟩, .slice none 0 0], .int .i64 0]) (by simp [results, Tryz.results85, go_sem, hlN, m0, m1, m2, m3]) rfl ⟨rfl, hbN⟩
  · have hv : numV (n, e) = (zV, e) := by unfold numV; rw [if_neg he]
    rw [hv]
    have heb : (e != 0) = true := by simpa using he
    obtain ⟨wN, hWN, hxN, hbN⟩ := resB hx0 (Nat.le_refl _) hb0 (.int .i64 0) (.int .i64 0) (.string ⟨#[]⟩) (.slice none 0 0)
    obtain ⟨m0, m1, m2, m3, -⟩ := cells_of4 hxN
    have hlN : w.heap.size < wN.heap.size := (Array.getElem?_eq_some_iff.1 hxN).1
    clear he hv hx0 hxN
    go_enter Tryz.func85, Tryz.ntmps85
    go_wp2_with fail
    exact bodyPost_ret (v := .tuple #[.agg #[.int .i64 0, .int .i64 0, .string ⟨#[]⟩, .slice none 0 0], .int .i64 e]) (by simp [results, Tryz.results85, go_sem, hlN, m0, m1, m2, m3]) rfl ⟨rfl, hbN⟩
set_option maxRecDepth 100000 in
set_option maxHeartbeats 1000000 in
theorem ordered_any (op c : Int) (w : World) : Calls Tryz.prog 124 #[.int .i64 op, .int .i64 c] w fun r w' => r = .returned (.bool (ordB op c)) ∧ w' = w := by
  obtain ⟨r, hr⟩ : ∃ r, Hid (ordB op c = r) := ⟨_, rfl⟩
  rw [hr.out]
  go_enter Tryz.func124, Tryz.ntmps124
  go_wp2
  all_goals (try go_ret)
  all_goals (refine ⟨?_, rfl⟩; rw [← hr.out]; unfold ordB; simp_all)
set_option maxRecDepth 100000 in
set_option maxHeartbeats 1000000 in
theorem neg_any {v : V} {sl : Value} (hn : InR v.n) (w : World) : Calls Tryz.prog 54 #[.agg #[.int .i64 v.k, .int .i64 v.n, .string ⟨v.t.toArray⟩, sl]] w fun r w' => VTwo (negV v) w r w' := by
  obtain ⟨wa, hWa, hba, hsa, d0, d1, d2, d3⟩ := boxed w v sl
  obtain ⟨w0, hW0, hb0, hl0, hx0⟩ := zbox4 wa
  have hgb : w.heap.size < wa.heap.size := by omega
  have hB0 : Below w.heap.size w w0 := hba.trans (hb0.mono hba.size)
  have e0 := ((bcell hb0).1 _ 0 hgb).trans d0
  have e1 := ((bcell hb0).1 _ 1 hgb).trans d1
  have hgb0 : w.heap.size < w0.heap.size := by omega
  by_cases hk : v.k = 1
  · have hN := negated_any hn w0
    have hv : negV v = numV (exR (-v.n)) := by unfold negV numV; rw [if_pos hk]
    rw [hv]
    have hkb : (v.k != 1) = false := by simp [hk]
    have hx : ∀ w', Calls Tryz.prog 85 #[.int .i64 (exR (-v.n)).1, .int .i64 (exR (-v.n)).2] w' fun r w'' => VTwo (numV (exR (-v.n))) w' r w'' := fun w' => numb_any _ _ w'
    clear hk hv hsa
    generalize exR (-v.n) = X at *
    obtain ⟨Y, hY⟩ : ∃ Y, Hid (numV X = Y) := ⟨_, rfl⟩
    rw [hY.out] at hx ⊢
    go_enter Tryz.func54, Tryz.ntmps54
    go_wp2_with fail
    refine hN.mono ?_
    rintro r w1 ⟨rfl, hw1⟩
    obtain rfl := hw1.symm
    clear hN
    go_wp2_with fail
    refine (hx w0).mono ?_
    rintro r w2 ⟨rfl, hb2⟩
    have hx2 := (hb2.block _ hl0).trans hx0
    obtain ⟨s0, s1, s2, s3, t0, t1, t2, t3⟩ := cells_of4 hx2
    obtain ⟨wN, hWN, hxN, hbN⟩ := resB hx2 (by omega) (hB0.trans (hb2.mono hB0.size)) (.int .i64 Y.1.k) (.int .i64 Y.1.n) (.string ⟨Y.1.t.toArray⟩) (.slice none 0 0)
    obtain ⟨m0, m1, m2, m3, -⟩ := cells_of4 hxN
    have hlN : wa.heap.size < wN.heap.size := (Array.getElem?_eq_some_iff.1 hxN).1
    have hl2 : wa.heap.size < w2.heap.size := (Array.getElem?_eq_some_iff.1 hx2).1
    clear hx hx0 hx2 hxN hWa hW0 hb2 d0 d1 d2 d3 e0 e1
    go_wp2_with fail
    exact bodyPost_ret (v := .tuple #[.agg #[.int .i64 Y.1.k, .int .i64 Y.1.n, .string ⟨Y.1.t.toArray⟩, .slice none 0 0], .int .i64 Y.2]) (by simp [results, Tryz.results54, go_sem, hlN, m0, m1, m2, m3]) rfl ⟨rfl, hbN⟩
  · have hv : negV v = (zV, 40) := by unfold negV; rw [if_neg hk]
    rw [hv]
    have hkb : (v.k != 1) = true := by simpa using hk
    obtain ⟨s0, s1, s2, s3, t0, t1, t2, t3⟩ := cells_of4 hx0
    obtain ⟨wN, hWN, hxN, hbN⟩ := resB hx0 (by omega) hB0 (.int .i64 0) (.int .i64 0) (.string ⟨#[]⟩) (.slice none 0 0)
    obtain ⟨m0, m1, m2, m3, -⟩ := cells_of4 hxN
    have hlN : wa.heap.size < wN.heap.size := (Array.getElem?_eq_some_iff.1 hxN).1
    clear hk hv hx0 hxN hsa
    go_enter Tryz.func54, Tryz.ntmps54
    go_wp2_with fail
    exact bodyPost_ret (v := .tuple #[.agg #[.int .i64 0, .int .i64 0, .string ⟨#[]⟩, .slice none 0 0], .int .i64 40]) (by simp [results, Tryz.results54, go_sem, hlN, m0, m1, m2, m3]) rfl ⟨rfl, hbN⟩
end Go.Proofs.YtnijcolomoobnaaGreatDoor
namespace Go.Proofs.YtnijcolomoobnaaGreatDoor
open Go.RowKit
set_option linter.unusedVariables false
set_option linter.unusedSimpArgs false
attribute [local go_sem ↓] Go.wp_at_zero Go.wp_at_succ

def strV (l : List UInt8) (v : V) : V × Int := if v.k = 1 then (tV l, 0) else (zV, 40)
set_option maxRecDepth 100000 in
set_option maxHeartbeats 1000000 in
theorem str_of {v : V} {sl : Value} {l : List UInt8} {w : World} (hl : l.length ≤ 281474976710656)
    (hI : ∀ w', Below w.heap.size w w' → Calls Tryz.prog 91 #[.int .i64 v.n] w' fun r w'' => r = .returned (.string ⟨l.toArray⟩) ∧ Below w'.heap.size w' w'') : Calls Tryz.prog 57 #[.agg #[.int .i64 v.k, .int .i64 v.n, .string ⟨v.t.toArray⟩, sl]] w fun r w' => VTwo (strV l v) w r w' := by
  obtain ⟨wa, hWa, hba, hsa, d0, d1, d2, d3⟩ := boxed w v sl
  obtain ⟨w0, hW0, hb0, hl0, hx0⟩ := zbox4 wa
  have hgb : w.heap.size < wa.heap.size := by omega
  have hB0 : Below w.heap.size w w0 := hba.trans (hb0.mono hba.size)
  have e0 := ((bcell hb0).1 _ 0 hgb).trans d0
  have e1 := ((bcell hb0).1 _ 1 hgb).trans d1
  have hgb0 : w.heap.size < w0.heap.size := by omega
  by_cases hk : v.k = 1
  · have hN := hI w0 hB0
    have hv : strV l v = (tV l, 0) := by unfold strV; rw [if_pos hk]
    rw [hv]
    have hkb : (v.k != 1) = false := by simp [hk]
    have hT := fun w => text_any l hl w
    clear hk hv hsa hI
    go_enter Tryz.func57, Tryz.ntmps57
    go_wp2_with fail
    refine hN.mono ?_
    rintro r w1 ⟨rfl, hb1⟩
    clear hN
    go_wp2_with fail
    refine (hT w1).mono ?_
    rintro r w2 ⟨rfl, hb2'⟩
    have hb2 : Below w0.heap.size w0 w2 := hb1.trans (hb2'.mono hb1.size)
    have hx2 := (hb2.block _ hl0).trans hx0
    obtain ⟨s0, s1, s2, s3, t0, t1, t2, t3⟩ := cells_of4 hx2
    obtain ⟨wN, hWN, hxN, hbN⟩ := resB hx2 (by omega) (hB0.trans (hb2.mono hB0.size)) (.int .i64 3) (.int .i64 0) (.string ⟨l.toArray⟩) (.slice none 0 0)
    obtain ⟨m0, m1, m2, m3, -⟩ := cells_of4 hxN
    have hlN : wa.heap.size < wN.heap.size := (Array.getElem?_eq_some_iff.1 hxN).1
    have hl2 : wa.heap.size < w2.heap.size := (Array.getElem?_eq_some_iff.1 hx2).1
    clear hT hx0 hx2 hxN hWa hW0 hb1 hb2 hb2' d0 d1 d2 d3 e0 e1
    go_wp2_with fail
    exact bodyPost_ret (v := .tuple #[.agg #[.int .i64 3, .int .i64 0, .string ⟨l.toArray⟩, .slice none 0 0], .int .i64 0]) (by simp [results, Tryz.results57, go_sem, hlN, m0, m1, m2, m3]) rfl ⟨rfl, hbN⟩
  · have hv : strV l v = (zV, 40) := by unfold strV; rw [if_neg hk]
    rw [hv]
    have hkb : (v.k != 1) = true := by simpa using hk
    obtain ⟨s0, s1, s2, s3, t0, t1, t2, t3⟩ := cells_of4 hx0
    obtain ⟨wN, hWN, hxN, hbN⟩ := resB hx0 (by omega) hB0 (.int .i64 0) (.int .i64 0) (.string ⟨#[]⟩) (.slice none 0 0)
    obtain ⟨m0, m1, m2, m3, -⟩ := cells_of4 hxN
    have hlN : wa.heap.size < wN.heap.size := (Array.getElem?_eq_some_iff.1 hxN).1
    clear hk hv hx0 hxN hsa hI
    go_enter Tryz.func57, Tryz.ntmps57
    go_wp2_with fail
    exact bodyPost_ret (v := .tuple #[.agg #[.int .i64 0, .int .i64 0, .string ⟨#[]⟩, .slice none 0 0], .int .i64 40]) (by simp [results, Tryz.results57, go_sem, hlN, m0, m1, m2, m3]) rfl ⟨rfl, hbN⟩
end Go.Proofs.YtnijcolomoobnaaGreatDoor
