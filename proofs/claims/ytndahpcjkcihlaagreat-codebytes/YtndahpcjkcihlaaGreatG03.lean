/- Texts of ours, joined: Kx, Km. -/
import Derived.Test.YtndahpcjkcihlaaGreatG01
/- Modules of code, and which can be run. Plain mathematics. -/
namespace Go.Proofs.YtndahpcjkcihlaaGreat
set_option linter.unusedVariables false
set_option linter.unusedSimpArgs false

/-- An instruction. -/
structure In where
  op : Int
  a : Int
/-- A function's code. -/
structure Fu where
  params : Int
  locals : Int
  zero : Int
  stack : Int
  code : List In
/-- A module. -/
structure Md where
  consts : List V
  funcs : List Fu
def Md.no : Md := ⟨[], []⟩
/-- How many it pushes, and pops. -/
def pshB (op : Int) : Bool := op == 1 || op == 2 || op == 4 || op == 9 || op == 12 || op == 13 || op == 14 || op == 15 || op == 16 || op == 17 || op == 18 || op == 19 || op == 20 || op == 21
def psh (op : Int) : Int := if pshB op then 1 else 0
def pop1 (op : Int) : Bool := op == 3 || op == 5 || op == 6 || op == 8 || op == 10 || op == 13 || op == 14 || op == 15 || op == 16
def pop2 (op : Int) : Bool := op == 12 || op == 17 || op == 18 || op == 19 || op == 21
def popN (fs : List Fu) (i : In) : Int := if pop1 i.op then 1 else if pop2 i.op then 2 else if i.op == 20 then 3 else if i.op == 9 then ((fs[i.a.toNat]?).map Fu.params).getD 0 else 0
/-- The height behind an instruction. -/
def hgt (fs : List Fu) (i : In) (x : Int) : Int := x - popN fs i + psh i.op
/-- Where it goes on. -/
def nxt (p : Nat) (i : In) : List Nat := (if i.op = 7 ∨ i.op = 8 then [i.a.toNat] else []) ++ (if i.op = 7 ∨ i.op = 10 then [] else [p + 1])
/-- Heights that fit, from place 0 on. -/
structure Lab (fs : List Fu) (f : Fu) (H : Nat → Option Int) : Prop where
  zero : H 0 = some 0
  step : ∀ p x, H p = some x → ∃ i, f.code[p]? = some i ∧ 0 ≤ x - popN fs i ∧ hgt fs i x ≤ f.stack ∧ ∀ q ∈ nxt p i, H q = some (hgt fs i x)
def WalkOk (fs : List Fu) (f : Fu) : Prop := ∃ H, Lab fs f H
/-- What an instruction's number may be: from here, up to there. -/
def inLow (op : Int) : Int := if op == 12 then 3 else 0
def inTop (nc : Nat) (states : Int) (n : Nat) (f : Fu) (op : Int) : Int :=
  if op == 1 then nc else if op == 2 || op == 3 then f.locals else if op == 4 || op == 5 then states else if op == 7 || op == 8 then f.code.length
  else if op == 9 then n else if op == 11 then 1099511627777 else if op == 12 then 14 else 1
def inB (nc : Nat) (states : Int) (n : Nat) (f : Fu) (i : In) : Bool := decide (1 ≤ i.op) && decide (i.op ≤ 21) && decide (inLow i.op ≤ i.a) && decide (i.a < inTop nc states n f i.op)
def InOk (nc : Nat) (states : Int) (n : Nat) (f : Fu) (i : In) : Prop := inB nc states n f i = true
theorem inOk_iff {nc : Nat} {states : Int} {n : Nat} {f : Fu} {i : In} : InOk nc states n f i ↔ 1 ≤ i.op ∧ i.op ≤ 21 ∧ inLow i.op ≤ i.a ∧ i.a < inTop nc states n f i.op := by
  unfold InOk inB
  simp [and_assoc]
/-- A function's numbers. -/
def NumOk (nc : Nat) (f : Fu) : Prop := 0 ≤ f.params ∧ f.params ≤ 8 ∧ f.params ≤ f.locals ∧ f.locals ≤ 256 ∧ 0 ≤ f.zero ∧ f.zero < nc ∧ 1 ≤ f.stack ∧ f.stack ≤ 256 ∧ 1 ≤ f.code.length ∧ f.code.length ≤ 16384
structure FuOk (nc : Nat) (states : Int) (fs : List Fu) (n : Nat) (f : Fu) : Prop where
  num : NumOk nc f
  ins : ∀ i ∈ f.code, InOk nc states n f i
  walk : WalkOk fs f
/-- A constant's type. -/
def tys : List (List UInt8) := [[105, 110, 116], [98, 111, 111, 108], [116, 101, 120, 116], [91, 105, 110, 116, 93], [123, 105, 110, 116, 58, 105, 110, 116, 125]]
noncomputable def ctype (v : V) : List UInt8 := if v.l = [] then (tys.find? fun t => fitS t v).getD [] else []
structure Run (m : Md) (states : Int) : Prop where
  st : 0 ≤ states ∧ states ≤ 32
  few : m.funcs.length ≤ 32 ∧ m.consts.length ≤ 16384
  con : ∀ v ∈ m.consts, ctype v ≠ []
  fun_ : ∀ n f, m.funcs[n]? = some f → FuOk m.consts.length states m.funcs n f
open Classical in
/-- What Verify answers. -/
noncomputable def vfy (m : Md) (states : Int) : Int := if Run m states then 0 else 40
theorem vfy_ok {m : Md} {states : Int} (h : Run m states) : vfy m states = 0 := by unfold vfy; rw [if_pos h]
theorem vfy_no {m : Md} {states : Int} (h : ¬ Run m states) : vfy m states = 40 := by unfold vfy; rw [if_neg h]
theorem vfy_iff {m : Md} {states : Int} : vfy m states = 0 ↔ Run m states := by
  constructor
  · intro h
    by_cases hr : Run m states
    · exact hr
    · rw [vfy_no hr] at h; omega
  · exact vfy_ok

/-! What grows. -/
theorem popN_pre {fs gs : List Fu} {i : In} {n : Nat} (hn : n ≤ fs.length) (hi : i.op = 9 → 0 ≤ i.a ∧ i.a < n) (hg : ∀ k, k < n → gs[k]? = fs[k]?) : popN gs i = popN fs i := by
  unfold popN
  split
  · rfl
  split
  · rfl
  split
  · rfl
  split
  · rename_i h
    have := hi (by simpa using h)
    rw [hg i.a.toNat (by omega)]
  · rfl
/-- The same code with other functions, of which those that it calls are the same. -/
theorem WalkOk.funs {fs gs : List Fu} {f : Fu} {n : Nat} (hn : n ≤ fs.length) (hi : ∀ i ∈ f.code, i.op = 9 → 0 ≤ i.a ∧ i.a < n) (hg : ∀ k, k < n → gs[k]? = fs[k]?) (h : WalkOk fs f) : WalkOk gs f := by
  obtain ⟨H, h0, h1⟩ := h
  refine ⟨H, h0, fun p x hp => ?_⟩
  obtain ⟨i, hc, a1, a2, a3⟩ := h1 p x hp
  have e : popN gs i = popN fs i := popN_pre hn (hi i (List.mem_of_getElem? hc)) hg
  refine ⟨i, hc, by rw [e]; exact a1, ?_, fun q hq => ?_⟩
  · show x - popN gs i + psh i.op ≤ _
    rw [e]; exact a2
  · show H q = some (x - popN gs i + psh i.op)
    rw [e]; exact a3 q hq
/-- An instruction behind that is never reached. -/
theorem WalkOk.push {fs : List Fu} {f : Fu} (i : In) (h : WalkOk fs f) : WalkOk fs { f with code := f.code ++ [i] } := by
  obtain ⟨H, h0, h1⟩ := h
  refine ⟨H, h0, fun p x hp => ?_⟩
  obtain ⟨j, hc, a1, a2, a3⟩ := h1 p x hp
  exact ⟨j, by show (f.code ++ [i])[p]? = _; rw [List.getElem?_append_left (List.getElem?_eq_some_iff.1 hc).1]; exact hc, a1, a2, a3⟩
theorem inTop_mono {nc nc' : Nat} {st st' : Int} {n : Nat} {f g : Fu} (h1 : nc ≤ nc') (h2 : st ≤ st') (h3 : f.locals = g.locals) (h4 : f.code.length ≤ g.code.length) (op : Int) : inTop nc st n f op ≤ inTop nc' st' n g op := by
  unfold inTop
  repeat' split
  all_goals omega
theorem InOk.mono {nc nc' : Nat} {st st' : Int} {n : Nat} {f g : Fu} {i : In} (h : InOk nc st n f i) (h1 : nc ≤ nc') (h2 : st ≤ st') (h3 : f.locals = g.locals) (h4 : f.code.length ≤ g.code.length) : InOk nc' st' n g i := by
  obtain ⟨a, b, c, d⟩ := inOk_iff.1 h
  exact inOk_iff.2 ⟨a, b, c, Int.lt_of_lt_of_le d (inTop_mono h1 h2 h3 h4 i.op)⟩
theorem InOk.call {nc : Nat} {st : Int} {n : Nat} {f : Fu} {i : In} (h : InOk nc st n f i) (h9 : i.op = 9) : 0 ≤ i.a ∧ i.a < n := by
  obtain ⟨a, b, c, d⟩ := inOk_iff.1 h
  unfold inLow at c
  unfold inTop at d
  rw [h9] at c d
  simp at c d
  omega
theorem NumOk.mono {nc nc' : Nat} {f : Fu} (h : NumOk nc f) (h1 : nc ≤ nc') : NumOk nc' f := by
  unfold NumOk at *
  omega
theorem FuOk.mono {nc nc' : Nat} {st st' : Int} {fs : List Fu} {n : Nat} {f : Fu} (h : FuOk nc st fs n f) (h1 : nc ≤ nc') (h2 : st ≤ st') : FuOk nc' st' fs n f :=
  ⟨h.num.mono h1, fun i hi => (h.ins i hi).mono h1 h2 rfl (Nat.le_refl _), h.walk⟩
theorem Run.states {m : Md} {st st' : Int} (h : Run m st) (h1 : st ≤ st') (h2 : st' ≤ 32) : Run m st' :=
  ⟨⟨by have := h.st; omega, h2⟩, h.few, h.con, fun n f hf => (h.fun_ n f hf).mono (Nat.le_refl _) h1⟩
theorem Run.const {m : Md} {st : Int} {v : V} (h : Run m st) (hv : ctype v ≠ []) (hl : m.consts.length + 1 ≤ 16384) : Run ⟨m.consts ++ [v], m.funcs⟩ st :=
  ⟨h.st, ⟨h.few.1, by simpa using hl⟩, fun x hx => by
    rcases List.mem_append.1 hx with hx | hx
    · exact h.con x hx
    · simp at hx; subst hx; exact hv, fun n f hf => (h.fun_ n f hf).mono (by simp) (Int.le_refl _)⟩
theorem Run.less {m : Md} {st : Int} {fs : List Fu} {f : Fu} (h : Run m st) (hm : m.funcs = fs ++ [f]) : Run ⟨m.consts, fs⟩ st := by
  have hl : m.funcs.length = fs.length + 1 := by rw [hm]; simp
  refine ⟨h.st, ⟨by have := h.few.1; show fs.length ≤ 32; omega, h.few.2⟩, h.con, fun n g hg => ?_⟩
  have hg' : fs[n]? = some g := hg
  have hn := (List.getElem?_eq_some_iff.1 hg').1
  have h1 := h.fun_ n g (by rw [hm, List.getElem?_append_left hn]; exact hg')
  refine ⟨h1.num, h1.ins, ?_⟩
  exact h1.walk.funs (n := n) (by omega) (fun i hi h9 => (h1.ins i hi).call h9) (fun k hk => by show fs[k]? = _; rw [hm, List.getElem?_append_left (by omega)])
theorem Run.pop {m : Md} {st : Int} {fs : List Fu} {f : Fu} (h : Run m st) (hm : m.funcs = fs ++ [f]) (hl : f.code.length + 1 ≤ 16384) : Run ⟨m.consts, fs ++ [{ f with code := f.code ++ [⟨6, 0⟩] }]⟩ st := by
  have hln : m.funcs.length = fs.length + 1 := by rw [hm]; simp
  refine ⟨h.st, ⟨by have := h.few.1; show (fs ++ [_]).length ≤ 32; simp; omega, h.few.2⟩, h.con, fun n g hg => ?_⟩
  have hg' : (fs ++ [{ f with code := f.code ++ [⟨6, 0⟩] }])[n]? = some g := hg
  have hpre : ∀ k, k < fs.length → (fs ++ [{ f with code := f.code ++ [⟨6, 0⟩] }])[k]? = m.funcs[k]? := fun k hk => by rw [hm, List.getElem?_append_left hk, List.getElem?_append_left hk]
  by_cases hn : n < fs.length
  · have h1 := h.fun_ n g (by rw [← hpre n hn]; exact hg')
    exact ⟨h1.num, h1.ins, h1.walk.funs (n := n) (by omega) (fun i hi h9 => (h1.ins i hi).call h9) (fun k hk => hpre k (by omega))⟩
  · rw [List.getElem?_append_right (by omega)] at hg'
    have hn0 : n = fs.length := by
      have := (List.getElem?_eq_some_iff.1 hg').1
      simp at this; omega
    subst hn0
    simp at hg'
    subst hg'
    have h1 := h.fun_ fs.length f (by rw [hm]; simp)
    refine ⟨?_, fun i hi => ?_, ?_⟩
    · have := h1.num
      unfold NumOk at *
      simp
      omega
    · rcases List.mem_append.1 hi with hi | hi
      · exact (h1.ins i hi).mono (Nat.le_refl _) (Int.le_refl _) rfl (by simp)
      · simp at hi; subst hi
        rw [inOk_iff]
        simp [inLow, inTop]
    · exact (h1.walk.funs (n := fs.length) (by omega) (fun i hi h9 => (h1.ins i hi).call h9) (fun k hk => hpre k hk)).push _
end Go.Proofs.YtndahpcjkcihlaaGreat
/- How modules lie in memory. -/
namespace Go.Proofs.YtndahpcjkcihlaaGreat
open Go.RowKit
set_option linter.unusedVariables false
set_option linter.unusedSimpArgs false

def inCells (i : In) : List Value := [.int .i64 i.op, .int .i64 i.a]
/-- A slice of instructions. -/
structure IsIs (B : Nat → Prop) (w : World) (l : List In) (sl : Value) : Prop where
  row : SlRow B w 2 sl l.length (l.flatMap inCells)
  rng : ∀ i ∈ l, InR i.op ∧ InR i.a
/-- A function whose code is that slice. -/
structure IsFn (B : Nat → Prop) (w : World) (f : Fu) (sl : Value) : Prop where
  p : InR f.params
  l : InR f.locals
  z : InR f.zero
  s : InR f.stack
  code : IsIs B w f.code sl
/-- The five cells of a function. -/
def IsFu (B : Nat → Prop) (w : World) (f : Fu) (cs : List Value) : Prop := ∃ ao cap, cs = [.int .i64 f.params, .int .i64 f.locals, .int .i64 f.zero, .int .i64 f.stack, .slice ao f.code.length cap] ∧ IsFn B w f (.slice ao f.code.length cap)
def AllFu (B : Nat → Prop) (w : World) : List Fu → List Value → Prop
  | [], cs => cs = []
  | e :: r, cs => ∃ c1 c2, cs = c1 ++ c2 ∧ IsFu B w e c1 ∧ AllFu B w r c2
/-- A slice of functions. -/
def IsFus (B : Nat → Prop) (w : World) (l : List Fu) (sl : Value) : Prop := ∃ row, SlRow B w 5 sl l.length row ∧ AllFu B w l row
/-- A module whose lists are these slices. -/
structure IsMd (B : Nat → Prop) (w : World) (m : Md) (cs fs : Value) : Prop where
  con : IsVs B w m.consts cs
  fun_ : IsFus B w m.funcs fs
theorem IsIs.since {B : Nat → Prop} {w w' : World} {l : List In} {sl : Value} (h : IsIs B w l sl) (s : Since B w w') : IsIs B w' l sl := ⟨h.row.since s, h.rng⟩
theorem IsIs.base {B B' : Nat → Prop} {w : World} {l : List In} {sl : Value} (h : IsIs B w l sl) (hb : ∀ k, B k → k < w.heap.size → B' k) : IsIs B' w l sl := ⟨h.row.base hb, h.rng⟩
theorem IsFn.since {B : Nat → Prop} {w w' : World} {f : Fu} {sl : Value} (h : IsFn B w f sl) (s : Since B w w') : IsFn B w' f sl := ⟨h.p, h.l, h.z, h.s, h.code.since s⟩
theorem IsFn.below {B : Nat → Prop} {w w' : World} {f : Fu} {sl : Value} (h : IsFn B w f sl) (s : Below w.heap.size w w') : IsFn B w' f sl := h.since (Since.of_below s)
theorem IsFn.base {B B' : Nat → Prop} {w : World} {f : Fu} {sl : Value} (h : IsFn B w f sl) (hb : ∀ k, B k → k < w.heap.size → B' k) : IsFn B' w f sl := ⟨h.p, h.l, h.z, h.s, h.code.base hb⟩
theorem IsFu.since {B : Nat → Prop} {w w' : World} {f : Fu} {cs : List Value} (h : IsFu B w f cs) (s : Since B w w') : IsFu B w' f cs := by
  obtain ⟨ao, cap, h1, h2⟩ := h
  exact ⟨ao, cap, h1, h2.since s⟩
theorem IsFu.base {B B' : Nat → Prop} {w : World} {f : Fu} {cs : List Value} (h : IsFu B w f cs) (hb : ∀ k, B k → k < w.heap.size → B' k) : IsFu B' w f cs := by
  obtain ⟨ao, cap, h1, h2⟩ := h
  exact ⟨ao, cap, h1, h2.base hb⟩
theorem AllFu.since {B : Nat → Prop} {w w' : World} (s : Since B w w') : ∀ {l : List Fu} {cs : List Value}, AllFu B w l cs → AllFu B w' l cs
  | [], cs, h => by rw [AllFu] at h ⊢; exact h
  | e :: r, cs, h => by
    rw [AllFu] at h ⊢
    obtain ⟨c1, c2, hc, h1, h2⟩ := h
    exact ⟨c1, c2, hc, h1.since s, AllFu.since s h2⟩
theorem AllFu.base {B B' : Nat → Prop} {w : World} (hb : ∀ k, B k → k < w.heap.size → B' k) : ∀ {l : List Fu} {cs : List Value}, AllFu B w l cs → AllFu B' w l cs
  | [], cs, h => by rw [AllFu] at h ⊢; exact h
  | e :: r, cs, h => by
    rw [AllFu] at h ⊢
    obtain ⟨c1, c2, hc, h1, h2⟩ := h
    exact ⟨c1, c2, hc, h1.base hb, AllFu.base hb h2⟩
theorem IsFus.since {B : Nat → Prop} {w w' : World} {l : List Fu} {sl : Value} (h : IsFus B w l sl) (s : Since B w w') : IsFus B w' l sl := by
  obtain ⟨row, h1, h2⟩ := h
  exact ⟨row, h1.since s, h2.since s⟩
theorem IsFus.base {B B' : Nat → Prop} {w : World} {l : List Fu} {sl : Value} (h : IsFus B w l sl) (hb : ∀ k, B k → k < w.heap.size → B' k) : IsFus B' w l sl := by
  obtain ⟨row, h1, h2⟩ := h
  exact ⟨row, h1.base hb, h2.base hb⟩
theorem IsMd.since {B : Nat → Prop} {w w' : World} {m : Md} {cs fs : Value} (h : IsMd B w m cs fs) (s : Since B w w') : IsMd B w' m cs fs := ⟨h.con.since s, h.fun_.since s⟩
theorem IsMd.below {B : Nat → Prop} {w w' : World} {m : Md} {cs fs : Value} (h : IsMd B w m cs fs) (s : Below w.heap.size w w') : IsMd B w' m cs fs := h.since (Since.of_below s)
theorem IsMd.base {B B' : Nat → Prop} {w : World} {m : Md} {cs fs : Value} (h : IsMd B w m cs fs) (hb : ∀ k, B k → k < w.heap.size → B' k) : IsMd B' w m cs fs := ⟨h.con.base hb, h.fun_.base hb⟩
theorem IsFu.len {B : Nat → Prop} {w : World} {e : Fu} {cs : List Value} (h : IsFu B w e cs) : cs.length = 5 := by
  obtain ⟨ao, cap, rfl, _⟩ := h; rfl
theorem AllFu.get {B : Nat → Prop} {w : World} : ∀ {l : List Fu} {row : List Value} {i : Nat} {e : Fu}, AllFu B w l row → l[i]? = some e → ∃ cs, IsFu B w e cs ∧ ∀ j, j < 5 → row[i * 5 + j]? = cs[j]?
  | [], row, i, e, h, hi => by simp at hi
  | a :: r, row, 0, e, h, hi => by
    rw [AllFu] at h
    obtain ⟨c1, c2, hc, h1, h2⟩ := h
    simp at hi; subst hi
    exact ⟨c1, h1, fun j hj => by rw [hc, List.getElem?_append_left (by have := h1.len; omega)]; simp⟩
  | a :: r, row, i + 1, e, h, hi => by
    rw [AllFu] at h
    obtain ⟨c1, c2, hc, h1, h2⟩ := h
    obtain ⟨cs, k1, k2⟩ := AllFu.get h2 (by simpa using hi)
    refine ⟨cs, k1, fun j hj => ?_⟩
    have := h1.len
    rw [hc, List.getElem?_append_right (by omega), ← k2 j hj]
    congr 1
    omega
theorem AllFu.snoc {B : Nat → Prop} {w : World} : ∀ {l : List Fu} {row : List Value} {e : Fu} {cs : List Value}, AllFu B w l row → IsFu B w e cs → AllFu B w (l ++ [e]) (row ++ cs)
  | [], row, e, cs, h1, h2 => by
    rw [AllFu] at h1
    subst h1
    rw [List.nil_append, List.nil_append, AllFu]
    exact ⟨cs, [], by simp, h2, by rw [AllFu]⟩
  | x :: r, row, e, cs, h1, h2 => by
    rw [AllFu] at h1
    obtain ⟨c1, c2, rfl, h3, h4⟩ := h1
    rw [List.cons_append, AllFu]
    exact ⟨c1, c2 ++ cs, by simp, h3, AllFu.snoc h4 h2⟩
theorem SlRow.val5 {B : Nat → Prop} {w : World} {sz : Nat} {v : Value} {n : Nat} {row : List Value} (h : SlRow B w sz v n row) : ∃ ao cap, v = .slice ao n cap ∧ n ≤ cap ∧ cap ≤ 9223372036854775807 := by
  rcases h.2 with ⟨h1, rfl⟩ | ⟨g, o, cap, rfl, h1, h2, _⟩
  · rcases h1 with rfl | ⟨a, cap, rfl, hc⟩
    · exact ⟨none, 0, rfl, Nat.le_refl _, by omega⟩
    · exact ⟨some a, cap, rfl, Nat.zero_le _, by unfold maxLen at hc; omega⟩
  · exact ⟨_, cap, rfl, h1, by unfold maxLen at h2; omega⟩
theorem inRow_get : ∀ {l : List In} {i : Nat} {s : In}, l[i]? = some s → (l.flatMap inCells)[i * 2]? = some (.int .i64 s.op) ∧ (l.flatMap inCells)[i * 2 + 1]? = some (.int .i64 s.a)
  | [], i, s, h => by simp at h
  | a :: r, 0, s, h => by simp at h; subst h; simp [inCells]
  | a :: r, i + 1, s, h => by
    have ih := inRow_get (l := r) (i := i) (by simpa using h)
    have e : ((a :: r).flatMap inCells) = .int .i64 a.op :: .int .i64 a.a :: (r.flatMap inCells) := by simp [inCells]
    rw [e]
    refine ⟨?_, ?_⟩
    · rw [show (i + 1) * 2 = i * 2 + 1 + 1 by omega]; simpa using ih.1
    · rw [show (i + 1) * 2 + 1 = i * 2 + 1 + 1 + 1 by omega]; simpa using ih.2
/-- An instruction of a slice. -/
theorem IsIs.get {B : Nat → Prop} {w : World} {l : List In} {ao : Option Addr} {n cap : Nat} (h : IsIs B w l (.slice ao n cap)) {i : Nat} {x : In} (hi : l[i]? = some x) : ∃ g o, ao = some ⟨g, o, none⟩ ∧ B g ∧ g < w.heap.size ∧ w.cell? ⟨g, o + i * 2, none⟩ = some (.int .i64 x.op) ∧ w.cell? ⟨g, o + i * 2 + 1, none⟩ = some (.int .i64 x.a) ∧ InR x.op ∧ InR x.a := by
  obtain ⟨⟨h1, h2⟩, h3⟩ := h
  have hlt := (List.getElem?_eq_some_iff.1 hi).1
  rcases h2 with ⟨_, h4⟩ | ⟨g, o, cap', e, h5, h6, h7, h8, h9⟩
  · omega
  · simp only [Value.slice.injEq] at e
    obtain ⟨g1, g2⟩ := inRow_get hi
    have h10 := h3 x (List.mem_of_getElem? hi)
    exact ⟨g, o, e.1, h7, h8, h9 _ _ g1, by have := h9 _ _ g2; rwa [← Nat.add_assoc] at this, h10⟩
/-- A function of a slice. -/
theorem IsFus.get {B : Nat → Prop} {w : World} {l : List Fu} {ao : Option Addr} {n cap : Nat} (h : IsFus B w l (.slice ao n cap)) {i : Nat} {f : Fu} (hi : l[i]? = some f) : ∃ g o ac cc, ao = some ⟨g, o, none⟩ ∧ B g ∧ g < w.heap.size ∧ w.cell? ⟨g, o + i * 5, none⟩ = some (.int .i64 f.params) ∧ w.cell? ⟨g, o + i * 5 + 1, none⟩ = some (.int .i64 f.locals) ∧ w.cell? ⟨g, o + i * 5 + 2, none⟩ = some (.int .i64 f.zero) ∧ w.cell? ⟨g, o + i * 5 + 3, none⟩ = some (.int .i64 f.stack) ∧ w.cell? ⟨g, o + i * 5 + 4, none⟩ = some (.slice ac f.code.length cc) ∧ IsFn B w f (.slice ac f.code.length cc) := by
  obtain ⟨row, ⟨h1, h2⟩, h3⟩ := h
  have hlt := (List.getElem?_eq_some_iff.1 hi).1
  rcases h2 with ⟨_, h4⟩ | ⟨g, o, cap', e, h5, h6, h7, h8, h9⟩
  · omega
  · simp only [Value.slice.injEq] at e
    obtain ⟨cs, ⟨ac, cc, rfl, hf⟩, hrow⟩ := h3.get hi
    have hc : ∀ (j : Nat) (u : Value), j < 5 → ([Value.int .i64 f.params, .int .i64 f.locals, .int .i64 f.zero, .int .i64 f.stack, .slice ac f.code.length cc] : List Value)[j]? = some u → w.cell? ⟨g, o + i * 5 + j, none⟩ = some u := fun j u hj hu => by
      have := h9 _ u ((hrow j hj).trans hu)
      rwa [← Nat.add_assoc] at this
    exact ⟨g, o, ac, cc, e.1, h7, h8, hc 0 _ (by omega) rfl, hc 1 _ (by omega) rfl, hc 2 _ (by omega) rfl, hc 3 _ (by omega) rfl, hc 4 _ (by omega) rfl, hf⟩
theorem IsFus.slice {B : Nat → Prop} {w : World} {l : List Fu} {sl : Value} (h : IsFus B w l sl) : ∃ ao cap, sl = .slice ao l.length cap ∧ l.length ≤ cap ∧ cap ≤ 9223372036854775807 := by
  obtain ⟨row, h1, _⟩ := h
  exact h1.val5
theorem IsIs.slice {B : Nat → Prop} {w : World} {l : List In} {sl : Value} (h : IsIs B w l sl) : ∃ ao cap, sl = .slice ao l.length cap ∧ l.length ≤ cap ∧ cap ≤ 9223372036854775807 := h.row.val5
end Go.Proofs.YtndahpcjkcihlaaGreat
