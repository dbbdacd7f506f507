/- Texts of ours, joined: Vpt, Kx. -/
import Derived.Test.YtndahpcjkcihlaaG02
import Derived.Laws.MakeOwn
import Derived.Test.YtndahpcjkcihlaaG01
/- Put and numbers: the program's. -/
namespace Go.Proofs.Ytndahpcjkcihlaa
open Go.RowKit
set_option linter.unusedVariables false
set_option linter.unusedSimpArgs false

/-- Numbers that lie in a block. -/
def IntsAt (w : World) (g : Nat) (xs : List Int) : Prop := g < w.heap.size ∧ ∀ q x, xs[q]? = some x → w.cell? ⟨g, q, none⟩ = some (.int .i64 x)
theorem IntsAt.below {w w' : World} {g : Nat} {xs : List Int} (h : IntsAt w g xs) (hb : Below w.heap.size w w') : IntsAt w' g xs := ⟨by have := hb.size; have := h.1; omega, fun q x hq => ((bcell hb).1 g q h.1).trans (h.2 q x hq)⟩
theorem nums_take_succ {xs : List Int} {i : Nat} {x : Int} (h : xs[i]? = some x) : nums (xs.take (i + 1)) = nums (xs.take i) ++ num x.toNat := by
  obtain ⟨hi, rfl⟩ := List.getElem?_eq_some_iff.1 h
  rw [List.take_succ_eq_append_getElem hi]
  unfold nums
  rw [List.flatMap_append]
  simp
theorem nums_len : ∀ xs : List Int, (∀ x ∈ xs, InR x) → (nums xs).length ≤ 9 * xs.length
  | [], _ => by simp [nums]
  | x :: r, h => by
    have h1 := num_len10 (n := x.toNat) (by have := (h x (by simp)).2; omega)
    have h2 := nums_len r (fun y hy => h y (by simp [hy]))
    simp [nums] at h2 ⊢; omega
set_option maxRecDepth 100000 in
set_option maxHeartbeats 2000000 in
theorem put_nil {g : Nat} {xs : List Int} {w : World} (hxs : IntsAt w g xs) (hr : ∀ x ∈ xs, InR x) (hm : xs.length ≤ 2) :
    Calls Try.prog 24 #[.slice none 0 0, .slice (some ⟨g, 0, none⟩) xs.length xs.length] w fun r w' => (∃ ao cap, r = .returned (.slice ao (nums xs).length cap) ∧ w'.ownsRow w.heap.size 5 1 (.slice ao (nums xs).length cap) (nums xs).length (c8 (nums xs))) ∧ Below w.heap.size w w' := by
  have hsize : ∀ q x, xs[q]? = some x → Calls Try.prog 44 #[.int .i64 x] w fun r w' => (∃ m : Nat, r = .returned (.int .i64 m) ∧ m ≤ 9) ∧ w' = w := fun q x h => size_any x (hr x (List.mem_of_getElem? h)) w
  have hstart : ∀ n : Nat, n ≤ 100 → ∃ w1 ao cap w2, (Instr.makeSlice 34 (.int .i64 0) (.int .i64 n)).run Try.prog w = .ok (.slice (some ⟨w.heap.size, 0, none⟩) 0 n) w1 ∧ (Builtin.append_ #[34, 34] 34 #[.slice (some ⟨w.heap.size, 0, none⟩) 0 n, .slice none 0 0]).run Try.prog w1 = .ok (.slice ao 0 cap) w2 ∧ w2.ownsRow w.heap.size 5 1 (.slice ao 0 cap) 0 (c8 []) ∧ Below w.heap.size w w2 := by
    intro n hn
    obtain ⟨i, hi, hz, hs, hb⟩ := info_parts byteInfo
    obtain ⟨w1, h1, h2, h3⟩ := run_make_own (P := Try.prog) w w.heap.size 34 5 i _ 1 Try.underlying34 hi hz hs .i64 .i64 n (by rw [hb]; omega) (by unfold maxLen; omega) (Nat.le_refl _)
    have hb1 : Below w.heap.size w w1 := (Below.refl _ _).grown h3 (Nat.le_refl _) (fun k hk => by cases hk)
    obtain ⟨ao, cap, w2, hr2, ho, hb2, _⟩ := app_run (news := []) Try.underlying34 byteInfo rfl (by decide) 34 (m := 0) (c := 0) (ad := none) h2 (by simp) (by simp) (by simp) (by simp) (by omega) (by decide) hb1.size
    exact ⟨w1, ao, cap, w2, h1, hr2, ho, hb1.trans hb2⟩
  have hput : ∀ (q : Nat) (x : Int) (wr : World) (ao : Option Addr) (cap : Nat), xs[q]? = some x → Below w.heap.size w wr → wr.ownsRow w.heap.size 5 1 (.slice ao (nums (xs.take q)).length cap) (nums (xs.take q)).length (c8 (nums (xs.take q))) →
      Calls Try.prog 45 #[.slice ao (nums (xs.take q)).length cap, .int .i64 (max x 0)] wr fun r w' => (∃ ao' cap', r = .returned (.slice ao' (nums (xs.take (q + 1))).length cap') ∧ w'.ownsRow w.heap.size 5 1 (.slice ao' (nums (xs.take (q + 1))).length cap') (nums (xs.take (q + 1))).length (c8 (nums (xs.take (q + 1))))) ∧ Below w.heap.size w w' := by
    intro q x wr ao cap hx hB ho
    have hxr := hr x (List.mem_of_getElem? hx)
    have hle := nums_len (xs.take q) (fun y hy => hr y (List.mem_of_mem_take hy))
    have hql : (xs.take q).length ≤ 2 := by simp; omega
    have hP := putOne_any (x := x.toNat) ho (by omega) (by have := hxr.2; omega) hB.size
    have e : ((x.toNat : Nat) : Int) = max x 0 := by omega
    rw [e] at hP
    have e2 : (nums (xs.take (q + 1))).length = (nums (xs.take q)).length + (num x.toNat).length := by rw [nums_take_succ hx]; simp
    rw [e2, nums_take_succ hx]
    exact hP.mono fun e w' ⟨h1, h2⟩ => ⟨h1, hB.trans h2⟩
  have hcell : ∀ (q : Nat) (wr : World), q < xs.length → Below w.heap.size w wr → ∃ x, xs[q]? = some x ∧ wr.cell? ⟨g, q, none⟩ = some (.int .i64 x) := fun q wr hq hB => ⟨xs[q], List.getElem?_eq_getElem hq, (hxs.below hB).2 q _ (List.getElem?_eq_getElem hq)⟩
  have hg := hxs.1
  clear hxs hr
  go_enter Try.func24, Try.ntmps24
  go_wp2_with fail
  go_loopg [5, 15] xs.length (fun gh s i wr => ∃ (q n : Nat), q ≤ xs.length ∧ gh = xs.length - q ∧ n ≤ 9 * q ∧ i = .int .i64 q ∧ s = .int .i64 n ∧ w = wr)
  case atStart => exact ⟨0, 0, by omega, rfl, by omega, rfl, rfl, rfl⟩
  case round =>
    obtain ⟨q, n, hq, rfl, hn, rfl, rfl, rfl⟩ := hrel
    by_cases hlt : q < xs.length
    · have hltI : (q : Int) < (xs.length : Int) := by omega
      obtain ⟨x, hx, hc⟩ := hcell q w hlt (Below.refl _ _)
      have hS := hsize q x hx
      clear hsize hstart hput hcell hx
      go_wp2_with fail
      refine hS.mono ?_
      rintro e w' ⟨⟨m, rfl, hm9⟩, rfl⟩
      clear hS
      go_wp2_with fail
      go_roundg (xs.length - (q + 1))
      case measure => omega
      case rel => exact ⟨q + 1, n + m, by omega, rfl, by omega, by go_num, by go_num, rfl⟩
    · have hltI : ¬ (q : Int) < (xs.length : Int) := by omega
      obtain ⟨w1, ao, cap, w2, hmk, happ, hown, hb2⟩ := hstart n (by omega)
      clear hsize hstart
      go_wp2_with (at_builtin; refine Lib.wpList_append_run _ rfl _ _ 34 34 rfl _ _ rfl rfl _ _ happ ?_)
      go_loopg [8, 30] xs.length (fun gh s i wr => ∃ (q : Nat) (ao : Option Addr) (cap : Nat), q ≤ xs.length ∧ gh = xs.length - q ∧ i = .int .i64 q ∧ s = .slice ao (nums (xs.take q)).length cap ∧ Hid (wr.ownsRow w.heap.size 5 1 (.slice ao (nums (xs.take q)).length cap) (nums (xs.take q)).length (c8 (nums (xs.take q)))) ∧ Below w.heap.size w wr)
      case atStart => exact ⟨0, ao, cap, by omega, rfl, rfl, rfl, hown, hb2⟩
      case round =>
        clear hown hb2 hmk happ
        obtain ⟨q, ao, cap, hq, rfl, rfl, rfl, HO, hB⟩ := hrel
        by_cases hlt : q < xs.length
        · have hltI : (q : Int) < (xs.length : Int) := by omega
          obtain ⟨x, hx, hc⟩ := hcell q wr hlt hB
          have hP := hput q x wr ao cap hx hB HO.out
          have hg2 : g < wr.heap.size := by have := hB.size; omega
          have hmx : ∀ (ts : Array TypeId) (t : TypeId) (wx : World), (Builtin.max_ ts t #[.int .i64 x, .int .i64 0]).run Try.prog wx = .ok (.int .i64 (max x 0)) wx := by
            intro ts t wx
            rw [run_max_int2]
            have : (if (0 : Int) > x then (0 : Int) else x) = max x 0 := by split <;> omega
            rw [this]
          generalize max x 0 = xm at *
          clear hput hcell hx HO
          go_wp2_with fail
          refine hP.mono ?_
          rintro e w' ⟨⟨a3, c3, rfl, h3⟩, hb3⟩
          have HO2 : Hid (w'.ownsRow w.heap.size 5 1 (.slice a3 (nums (xs.take (q + 1))).length c3) (nums (xs.take (q + 1))).length (c8 (nums (xs.take (q + 1))))) := h3
          clear hP h3
          go_wp2_with fail
          go_roundg (xs.length - (q + 1))
          case measure => omega
          case rel => exact ⟨q + 1, a3, c3, by omega, rfl, by go_num, rfl, HO2, hb3⟩
        · have hltI : ¬ (q : Int) < (xs.length : Int) := by omega
          have hqe : q = xs.length := by omega
          have hfin : w.heap.size ≤ wr.heap.size ∧ wr.ownsRow w.heap.size 5 1 (.slice ao (nums xs).length cap) (nums xs).length (c8 (nums xs)) := by
            have := HO.out
            rw [hqe, List.take_length] at this
            exact ⟨hB.size, this⟩
          have etk : Hid (nums (xs.take q) = nums xs) := by show _ = _; rw [hqe, List.take_length]
          clear hput hcell HO hqe
          rw [etk.out]
          go_wp2
          go_ret
          exact ⟨⟨ao, cap, rfl, hfin.2⟩, hB⟩
end Go.Proofs.Ytndahpcjkcihlaa
/- Modules of code, and which can be run. Plain mathematics. -/
namespace Go.Proofs.Ytndahpcjkcihlaa
set_option linter.unusedVariables false
set_option linter.unusedSimpArgs false

/-- An instruction. -/
structure In where
  op : Int
  a : Int
/-- A function's code. -/
structure Fu where
  params : Int
  locals : Int
  zero : Int
  stack : Int
  code : List In
/-- A module. -/
structure Md where
  consts : List V
  funcs : List Fu
def Md.no : Md := ⟨[], []⟩
/-- How many it pushes, and pops. -/
def pshB (op : Int) : Bool := op == 1 || op == 2 || op == 4 || op == 9 || op == 12 || op == 13 || op == 14 || op == 15 || op == 16 || op == 17 || op == 18 || op == 19 || op == 20 || op == 21
def psh (op : Int) : Int := if pshB op then 1 else 0
def pop1 (op : Int) : Bool := op == 3 || op == 5 || op == 6 || op == 8 || op == 10 || op == 13 || op == 14 || op == 15 || op == 16
def pop2 (op : Int) : Bool := op == 12 || op == 17 || op == 18 || op == 19 || op == 21
def popN (fs : List Fu) (i : In) : Int := if pop1 i.op then 1 else if pop2 i.op then 2 else if i.op == 20 then 3 else if i.op == 9 then ((fs[i.a.toNat]?).map Fu.params).getD 0 else 0
/-- The height behind an instruction. -/
def hgt (fs : List Fu) (i : In) (x : Int) : Int := x - popN fs i + psh i.op
/-- Where it goes on. -/
def nxt (p : Nat) (i : In) : List Nat := (if i.op = 7 ∨ i.op = 8 then [i.a.toNat] else []) ++ (if i.op = 7 ∨ i.op = 10 then [] else [p + 1])
/-- Heights that fit, from place 0 on. -/
structure Lab (fs : List Fu) (f : Fu) (H : Nat → Option Int) : Prop where
  zero : H 0 = some 0
  step : ∀ p x, H p = some x → ∃ i, f.code[p]? = some i ∧ 0 ≤ x - popN fs i ∧ hgt fs i x ≤ f.stack ∧ ∀ q ∈ nxt p i, H q = some (hgt fs i x)
def WalkOk (fs : List Fu) (f : Fu) : Prop := ∃ H, Lab fs f H
/-- What an instruction's number may be: from here, up to there. -/
def inLow (op : Int) : Int := if op == 12 then 3 else 0
def inTop (nc : Nat) (states : Int) (n : Nat) (f : Fu) (op : Int) : Int :=
  if op == 1 then nc else if op == 2 || op == 3 then f.locals else if op == 4 || op == 5 then states else if op == 7 || op == 8 then f.code.length
  else if op == 9 then n else if op == 11 then 1099511627777 else if op == 12 then 14 else 1
def inB (nc : Nat) (states : Int) (n : Nat) (f : Fu) (i : In) : Bool := decide (1 ≤ i.op) && decide (i.op ≤ 21) && decide (inLow i.op ≤ i.a) && decide (i.a < inTop nc states n f i.op)
def InOk (nc : Nat) (states : Int) (n : Nat) (f : Fu) (i : In) : Prop := inB nc states n f i = true
theorem inOk_iff {nc : Nat} {states : Int} {n : Nat} {f : Fu} {i : In} : InOk nc states n f i ↔ 1 ≤ i.op ∧ i.op ≤ 21 ∧ inLow i.op ≤ i.a ∧ i.a < inTop nc states n f i.op := by
  unfold InOk inB
  simp [and_assoc]
/-- A function's numbers. -/
def NumOk (nc : Nat) (f : Fu) : Prop := 0 ≤ f.params ∧ f.params ≤ 8 ∧ f.params ≤ f.locals ∧ f.locals ≤ 256 ∧ 0 ≤ f.zero ∧ f.zero < nc ∧ 1 ≤ f.stack ∧ f.stack ≤ 256 ∧ 1 ≤ f.code.length ∧ f.code.length ≤ 16384
structure FuOk (nc : Nat) (states : Int) (fs : List Fu) (n : Nat) (f : Fu) : Prop where
  num : NumOk nc f
  ins : ∀ i ∈ f.code, InOk nc states n f i
  walk : WalkOk fs f
/-- A constant's type. -/
def tys : List (List UInt8) := [[105, 110, 116], [98, 111, 111, 108], [116, 101, 120, 116], [91, 105, 110, 116, 93], [123, 105, 110, 116, 58, 105, 110, 116, 125]]
noncomputable def ctype (v : V) : List UInt8 := if v.l = [] then (tys.find? fun t => fitS t v).getD [] else []
structure Run (m : Md) (states : Int) : Prop where
  st : 0 ≤ states ∧ states ≤ 32
  few : m.funcs.length ≤ 32 ∧ m.consts.length ≤ 16384
  con : ∀ v ∈ m.consts, ctype v ≠ []
  fun_ : ∀ n f, m.funcs[n]? = some f → FuOk m.consts.length states m.funcs n f
open Classical in
/-- What Verify answers. -/
noncomputable def vfy (m : Md) (states : Int) : Int := if Run m states then 0 else 40
theorem vfy_ok {m : Md} {states : Int} (h : Run m states) : vfy m states = 0 := by unfold vfy; rw [if_pos h]
theorem vfy_no {m : Md} {states : Int} (h : ¬ Run m states) : vfy m states = 40 := by unfold vfy; rw [if_neg h]
theorem vfy_iff {m : Md} {states : Int} : vfy m states = 0 ↔ Run m states := by
  constructor
  · intro h
    by_cases hr : Run m states
    · exact hr
    · rw [vfy_no hr] at h; omega
  · exact vfy_ok

/-! What grows. -/
theorem popN_pre {fs gs : List Fu} {i : In} {n : Nat} (hn : n ≤ fs.length) (hi : i.op = 9 → 0 ≤ i.a ∧ i.a < n) (hg : ∀ k, k < n → gs[k]? = fs[k]?) : popN gs i = popN fs i := by
  unfold popN
  split
  · rfl
  split
  · rfl
  split
  · rfl
  split
  · rename_i h
    have := hi (by simpa using h)
    rw [hg i.a.toNat (by omega)]
  · rfl
/-- The same code with other functions, of which those that it calls are the same. -/
theorem WalkOk.funs {fs gs : List Fu} {f : Fu} {n : Nat} (hn : n ≤ fs.length) (hi : ∀ i ∈ f.code, i.op = 9 → 0 ≤ i.a ∧ i.a < n) (hg : ∀ k, k < n → gs[k]? = fs[k]?) (h : WalkOk fs f) : WalkOk gs f := by
  obtain ⟨H, h0, h1⟩ := h
  refine ⟨H, h0, fun p x hp => ?_⟩
  obtain ⟨i, hc, a1, a2, a3⟩ := h1 p x hp
  have e : popN gs i = popN fs i := popN_pre hn (hi i (List.mem_of_getElem? hc)) hg
  refine ⟨i, hc, by rw [e]; exact a1, ?_, fun q hq => ?_⟩
  · show x - popN gs i + psh i.op ≤ _
    rw [e]; exact a2
  · show H q = some (x - popN gs i + psh i.op)
    rw [e]; exact a3 q hq
/-- An instruction behind that is never reached. -/
theorem WalkOk.push {fs : List Fu} {f : Fu} (i : In) (h : WalkOk fs f) : WalkOk fs { f with code := f.code ++ [i] } := by
  obtain ⟨H, h0, h1⟩ := h
  refine ⟨H, h0, fun p x hp => ?_⟩
  obtain ⟨j, hc, a1, a2, a3⟩ := h1 p x hp
  exact ⟨j, by show (f.code ++ [i])[p]? = _; rw [List.getElem?_append_left (List.getElem?_eq_some_iff.1 hc).1]; exact hc, a1, a2, a3⟩
theorem inTop_mono {nc nc' : Nat} {st st' : Int} {n : Nat} {f g : Fu} (h1 : nc ≤ nc') (h2 : st ≤ st') (h3 : f.locals = g.locals) (h4 : f.code.length ≤ g.code.length) (op : Int) : inTop nc st n f op ≤ inTop nc' st' n g op := by
  unfold inTop
  repeat' split
  all_goals omega
theorem InOk.mono {nc nc' : Nat} {st st' : Int} {n : Nat} {f g : Fu} {i : In} (h : InOk nc st n f i) (h1 : nc ≤ nc') (h2 : st ≤ st') (h3 : f.locals = g.locals) (h4 : f.code.length ≤ g.code.length) : InOk nc' st' n g i := by
  obtain ⟨a, b, c, d⟩ := inOk_iff.1 h
  exact inOk_iff.2 ⟨a, b, c, Int.lt_of_lt_of_le d (inTop_mono h1 h2 h3 h4 i.op)⟩
theorem InOk.call {nc : Nat} {st : Int} {n : Nat} {f : Fu} {i : In} (h : InOk nc st n f i) (h9 : i.op = 9) : 0 ≤ i.a ∧ i.a < n := by
  obtain ⟨a, b, c, d⟩ := inOk_iff.1 h
  unfold inLow at c
  unfold inTop at d
  rw [h9] at c d
  simp at c d
  omega
theorem NumOk.mono {nc nc' : Nat} {f : Fu} (h : NumOk nc f) (h1 : nc ≤ nc') : NumOk nc' f := by
  unfold NumOk at *
  omega
theorem FuOk.mono {nc nc' : Nat} {st st' : Int} {fs : List Fu} {n : Nat} {f : Fu} (h : FuOk nc st fs n f) (h1 : nc ≤ nc') (h2 : st ≤ st') : FuOk nc' st' fs n f :=
  ⟨h.num.mono h1, fun i hi => (h.ins i hi).mono h1 h2 rfl (Nat.le_refl _), h.walk⟩
theorem Run.states {m : Md} {st st' : Int} (h : Run m st) (h1 : st ≤ st') (h2 : st' ≤ 32) : Run m st' :=
  ⟨⟨by have := h.st; omega, h2⟩, h.few, h.con, fun n f hf => (h.fun_ n f hf).mono (Nat.le_refl _) h1⟩
theorem Run.const {m : Md} {st : Int} {v : V} (h : Run m st) (hv : ctype v ≠ []) (hl : m.consts.length + 1 ≤ 16384) : Run ⟨m.consts ++ [v], m.funcs⟩ st :=
  ⟨h.st, ⟨h.few.1, by simpa using hl⟩, fun x hx => by
    rcases List.mem_append.1 hx with hx | hx
    · exact h.con x hx
    · simp at hx; subst hx; exact hv, fun n f hf => (h.fun_ n f hf).mono (by simp) (Int.le_refl _)⟩
theorem Run.less {m : Md} {st : Int} {fs : List Fu} {f : Fu} (h : Run m st) (hm : m.funcs = fs ++ [f]) : Run ⟨m.consts, fs⟩ st := by
  have hl : m.funcs.length = fs.length + 1 := by rw [hm]; simp
  refine ⟨h.st, ⟨by have := h.few.1; show fs.length ≤ 32; omega, h.few.2⟩, h.con, fun n g hg => ?_⟩
  have hg' : fs[n]? = some g := hg
  have hn := (List.getElem?_eq_some_iff.1 hg').1
  have h1 := h.fun_ n g (by rw [hm, List.getElem?_append_left hn]; exact hg')
  refine ⟨h1.num, h1.ins, ?_⟩
  exact h1.walk.funs (n := n) (by omega) (fun i hi h9 => (h1.ins i hi).call h9) (fun k hk => by show fs[k]? = _; rw [hm, List.getElem?_append_left (by omega)])
theorem Run.pop {m : Md} {st : Int} {fs : List Fu} {f : Fu} (h : Run m st) (hm : m.funcs = fs ++ [f]) (hl : f.code.length + 1 ≤ 16384) : Run ⟨m.consts, fs ++ [{ f with code := f.code ++ [⟨6, 0⟩] }]⟩ st := by
  have hln : m.funcs.length = fs.length + 1 := by rw [hm]; simp
  refine ⟨h.st, ⟨by have := h.few.1; show (fs ++ [_]).length ≤ 32; simp; omega, h.few.2⟩, h.con, fun n g hg => ?_⟩
  have hg' : (fs ++ [{ f with code := f.code ++ [⟨6, 0⟩] }])[n]? = some g := hg
  have hpre : ∀ k, k < fs.length → (fs ++ [{ f with code := f.code ++ [⟨6, 0⟩] }])[k]? = m.funcs[k]? := fun k hk => by rw [hm, List.getElem?_append_left hk, List.getElem?_append_left hk]
  by_cases hn : n < fs.length
  · have h1 := h.fun_ n g (by rw [← hpre n hn]; exact hg')
    exact ⟨h1.num, h1.ins, h1.walk.funs (n := n) (by omega) (fun i hi h9 => (h1.ins i hi).call h9) (fun k hk => hpre k (by omega))⟩
  · rw [List.getElem?_append_right (by omega)] at hg'
    have hn0 : n = fs.length := by
      have := (List.getElem?_eq_some_iff.1 hg').1
      simp at this; omega
    subst hn0
    simp at hg'
    subst hg'
    have h1 := h.fun_ fs.length f (by rw [hm]; simp)
    refine ⟨?_, fun i hi => ?_, ?_⟩
    · have := h1.num
      unfold NumOk at *
      simp
      omega
    · rcases List.mem_append.1 hi with hi | hi
      · exact (h1.ins i hi).mono (Nat.le_refl _) (Int.le_refl _) rfl (by simp)
      · simp at hi; subst hi
        rw [inOk_iff]
        simp [inLow, inTop]
    · exact (h1.walk.funs (n := fs.length) (by omega) (fun i hi h9 => (h1.ins i hi).call h9) (fun k hk => hpre k hk)).push _
end Go.Proofs.Ytndahpcjkcihlaa
