/- Texts of ours, joined: Sc, Sd. -/
import Derived.Test.YtnijcolomoobnaaGreatDoorK17
import Derived.Test.YtnijcolomoobnaaGreatDoorK03
import Derived.Test.YtnijcolomoobnaaGreatDoorK18
import Derived.Test.YtnijcolomoobnaaGreatDoorK20
namespace Go.Proofs.YtnijcolomoobnaaGreatDoor
open Go.RowKit
set_option linter.unusedVariables false
set_option linter.unusedSimpArgs false

def thrownT (e : Int) : List PanicEntry := [{ v := .iface 85 (.agg #[.int .i64 e]), recovered := false }]
def Lm (p : Nat) (w : World) (cs fs ds ss : Value) (fl : Int) : Prop := w.heap[p]? = some (.cells #[cs, fs, ds, ss, .int .i64 fl] 62 (0, 0))
theorem Lm.lt {p : Nat} {w : World} {cs fs ds ss : Value} {fl : Int} (h : Lm p w cs fs ds ss fl) : p < w.heap.size := (Array.getElem?_eq_some_iff.1 h).1
theorem Lm.keep {p : Nat} {w w' : World} {cs fs ds ss : Value} {fl : Int} (h : Lm p w cs fs ds ss fl) (hb : w'.heap[p]? = w.heap[p]?) : Lm p w' cs fs ds ss fl := hb.trans h
theorem Lm.set {p : Nat} {w : World} {cs fs ds ss : Value} {fl : Int} (h : Lm p w cs fs ds ss fl) (e : Int) : Lm p (w.setCell ⟨p, 4, none⟩ (.int .i64 e)) cs fs ds ss e := by
  unfold Lm at *
  simp [World.setCell, Array.getElem?_modify, h]
def Lf (b p : Nat) (w : World) (ls ks : Value) (q : Int) (dn : Bool) (x : V) (xs : Value) : Prop := w.heap[b]? = some (.cells #[.pointer (some ⟨p, 0, none⟩), ls, ks, .int .i64 q, .bool dn, .int .i64 x.k, .int .i64 x.n, .string ⟨x.t.toArray⟩, xs] 75 (0, 0))
theorem Lf.lt {b p : Nat} {w : World} {ls ks : Value} {q : Int} {dn : Bool} {x : V} {xs : Value} (h : Lf b p w ls ks q dn x xs) : b < w.heap.size := (Array.getElem?_eq_some_iff.1 h).1
theorem Lf.keep {b p : Nat} {w w' : World} {ls ks : Value} {q : Int} {dn : Bool} {x : V} {xs : Value} (h : Lf b p w ls ks q dn x xs) (hb : w'.heap[b]? = w.heap[b]?) : Lf b p w' ls ks q dn x xs := hb.trans h
theorem Lf.cells {b p : Nat} {w : World} {ls ks : Value} {q : Int} {dn : Bool} {x : V} {xs : Value} (h : Lf b p w ls ks q dn x xs) : w.cell? ⟨b, 0, none⟩ = some (.pointer (some ⟨p, 0, none⟩)) ∧ w.cell? ⟨b, 1, none⟩ = some ls ∧ w.cell? ⟨b, 2, none⟩ = some ks ∧ w.cell? ⟨b, 3, none⟩ = some (.int .i64 q) ∧ w.cell? ⟨b, 4, none⟩ = some (.bool dn) := by
  refine ⟨?_, ?_, ?_, ?_, ?_⟩
  all_goals simp [World.cell?, show w.heap[b]? = _ from h]
theorem Lf.ans {b p : Nat} {w : World} {ls ks : Value} {q : Int} {dn : Bool} {x : V} {xs : Value} (h : Lf b p w ls ks q dn x xs) : w.cell? ⟨b, 5, none⟩ = some (.int .i64 x.k) ∧ w.cell? ⟨b, 6, none⟩ = some (.int .i64 x.n) ∧ w.cell? ⟨b, 7, none⟩ = some (.string ⟨x.t.toArray⟩) ∧ w.cell? ⟨b, 8, none⟩ = some xs := by
  refine ⟨?_, ?_, ?_, ?_⟩
  all_goals simp [World.cell?, show w.heap[b]? = _ from h]
theorem Lf.open_ {b p : Nat} {w : World} {ls ks : Value} {q : Int} {dn : Bool} {x : V} {xs : Value} (h : Lf b p w ls ks q dn x xs) : ∀ j, w.frozen? ⟨b, j, none⟩ = false := fun j => by simp [World.frozen?, show w.heap[b]? = _ from h]
theorem Lf.setK {b p : Nat} {w : World} {ls ks : Value} {q : Int} {dn : Bool} {x : V} {xs : Value} (h : Lf b p w ls ks q dn x xs) (ks' : Value) : Lf b p (w.setCell ⟨b, 2, none⟩ ks') ls ks' q dn x xs := by
  unfold Lf at *
  simp [World.setCell, Array.getElem?_modify, h]
theorem Lf.setQ {b p : Nat} {w : World} {ls ks : Value} {q : Int} {dn : Bool} {x : V} {xs : Value} (h : Lf b p w ls ks q dn x xs) (q' : Int) : Lf b p (w.setCell ⟨b, 3, none⟩ (.int .i64 q')) ls ks q' dn x xs := by
  unfold Lf at *
  simp [World.setCell, Array.getElem?_modify, h]
theorem Lf.setD {b p : Nat} {w : World} {ls ks : Value} {q : Int} {dn : Bool} {x : V} {xs : Value} (h : Lf b p w ls ks q dn x xs) (d : Bool) : Lf b p (w.setCell ⟨b, 4, none⟩ (.bool d)) ls ks q d x xs := by
  unfold Lf at *
  simp [World.setCell, Array.getElem?_modify, h]
theorem Lf.setA {b p : Nat} {w : World} {ls ks : Value} {q : Int} {dn : Bool} {x : V} {xs : Value} (h : Lf b p w ls ks q dn x xs) (y : V) (ys : Value) : Lf b p (set4At w b 5 (.int .i64 y.k) (.int .i64 y.n) (.string ⟨y.t.toArray⟩) ys) ls ks q dn y ys := by
  unfold Lf at *
  simp [set4At, World.setCell, Array.getElem?_modify, h]
def dRow (g13 g16 g18 g19 g21 : Nat) : Array Value := #[.nilFunc, .func (Fn.func 39) #[] #[], .func (Fn.func 41) #[] #[], .func (Fn.func 42) #[] #[], .func (Fn.func 44) #[] #[], .func (Fn.func 45) #[] #[], .func (Fn.func 46) #[] #[], .func (Fn.func 47) #[] #[], .func (Fn.func 48) #[] #[], .func (Fn.func 49) #[] #[], .func (Fn.func 50) #[] #[], .func (Fn.methodOf 72 "quern/vm.charge") #[] #[], .func (Fn.func 52) #[] #[], .func (Fn.func 84) #[] #[.pointer (some ⟨g13, 0, none⟩)], .func (Fn.func 55) #[] #[], .func (Fn.func 56) #[] #[], .func (Fn.func 84) #[] #[.pointer (some ⟨g16, 0, none⟩)], .func (Fn.func 58) #[] #[], .func (Fn.func 94) #[] #[.pointer (some ⟨g18, 0, none⟩)], .func (Fn.func 94) #[] #[.pointer (some ⟨g19, 0, none⟩)], .func (Fn.func 62) #[] #[], .func (Fn.func 94) #[] #[.pointer (some ⟨g21, 0, none⟩)]]
def Dg (lo p : Nat) (ss ds : Value) (w : World) : Prop := ∃ gd g13 g16 g18 g19 g21 : Nat, ds = .slice (some ⟨gd, 0, none⟩) 22 22 ∧ w.heap[gd]? = some (.cells (dRow g13 g16 g18 g19 g21) 79 (0, 0)) ∧
  w.heap[g13]? = some (.cells #[.func (Fn.func 54) #[] #[]] 81 (0, 0)) ∧ w.heap[g16]? = some (.cells #[.func (Fn.func 57) #[] #[]] 81 (0, 0)) ∧
  w.heap[g18]? = some (.cells #[.func (Fn.func 60) #[] #[]] 83 (0, 0)) ∧ w.heap[g19]? = some (.cells #[.func (Fn.func 61) #[] #[]] 83 (0, 0)) ∧ w.heap[g21]? = some (.cells #[.func (Fn.func 63) #[] #[]] 83 (0, 0)) ∧
  ∀ k, k = gd ∨ k = g13 ∨ k = g16 ∨ k = g18 ∨ k = g19 ∨ k = g21 → k < lo ∧ k ≠ p ∧ ss.ownBlock ≠ some k
theorem Dg.stay {lo p : Nat} {ss ds : Value} {w w' : World} (h : Dg lo p ss ds w) (hf : ∀ k, k < lo → k ≠ p → ss.ownBlock ≠ some k → k < w.heap.size → w'.heap[k]? = w.heap[k]?) : Dg lo p ss ds w' := by
  obtain ⟨gd, g13, g16, g18, g19, g21, e, h0, h1, h2, h3, h4, h5, hk⟩ := h
  have hx : ∀ {k : Nat} {o : Obj}, w.heap[k]? = some o → (k = gd ∨ k = g13 ∨ k = g16 ∨ k = g18 ∨ k = g19 ∨ k = g21) → w'.heap[k]? = some o := fun {k o} hh hm => by
    obtain ⟨a, b, c⟩ := hk k hm
    rw [hf k a b c (Array.getElem?_eq_some_iff.1 hh).1]
    exact hh
  exact ⟨gd, g13, g16, g18, g19, g21, e, hx h0 (by simp), hx h1 (by simp), hx h2 (by simp), hx h3 (by simp), hx h4 (by simp), hx h5 (by simp), hk⟩
structure En where
  base : Nat
  lo : Nat
  p : Nat
  b : Nat
  A : Nat → Prop
  m : Md
  cs : Value
  fs : Value
  ds : Value
  ss : Value
  ls : Value
abbrev Rw (P : Nat → Prop) (w : World) (sl : Value) (l : List V) : Prop := Gv (fun k => P k ∨ sl.ownBlock = some k) w sl l
abbrev Fx (e : En) (w w' : World) : Prop := Fr (fun k => k < e.lo ∧ k ≠ e.p ∧ e.ss.ownBlock ≠ some k) w w'
structure LS (e : En) (P : Nat → Prop) (ks : Value) (loc stk sts : List V) (fl q : Int) (dn : Bool) (x : V) (xs : Value) (w : World) : Prop where
  mc : Lm e.p w e.cs e.fs e.ds e.ss fl
  fr : Lf e.b e.p w e.ls ks q dn x xs
  md : IsMd P w e.m e.cs e.fs
  st : Rw P w e.ss sts
  lc : Rw P w e.ls loc
  sk : Rw P w ks stk
  tb : Tb15 e.base w
  dg : Dg e.lo e.p e.ss e.ds w
  bp : e.base ≤ e.p
  pl : e.p < e.lo
  bs : ∀ k, e.ss.ownBlock = some k → e.base ≤ k ∧ k < e.lo ∧ k ≠ e.p
  lb : e.lo ≤ e.b
  ll : ∀ k, e.ls.ownBlock = some k → e.lo ≤ k ∧ k ≠ e.b
  lk : ∀ k, ks.ownBlock = some k → e.lo ≤ k ∧ k ≠ e.b ∧ e.ls.ownBlock ≠ some k
  np : ¬ P e.p
  nb : ¬ P e.b
  ns : ∀ k, e.ss.ownBlock = some k → ¬ P k
  nl : ∀ k, e.ls.ownBlock = some k → ¬ P k
  nk : ∀ k, ks.ownBlock = some k → ¬ P k
  pa : ∀ k, P k → e.A k
  hi : ∀ k, w.heap.size ≤ k → P k
section
variable {e : En} {P : Nat → Prop} {ks : Value} {loc stk sts : List V} {fl q : Int} {dn : Bool} {x : V} {xs : Value} {w w' : World}
theorem LS.le (h : LS e P ks loc stk sts fl q dn x xs w) : e.base ≤ w.heap.size := by have := h.mc.lt; have := h.bp; omega
theorem LS.since {g : Nat} (h : LS e P ks loc stk sts fl q dn x xs w) (hf : Fr (fun k => k ≠ g) w w') (hg : ¬ P g) {sl : Value} (hs : sl.ownBlock ≠ some g) {l : List V} (hr : Rw P w sl l) : Rw P w' sl l :=
  hr.since ⟨hf.size, fun k hk hl => hf.block k (by
    rintro rfl
    rcases hk with hk | hk
    · exact hg hk
    · exact hs hk) hl⟩
theorem LS.mdk {g : Nat} (h : LS e P ks loc stk sts fl q dn x xs w) (hf : Fr (fun k => k ≠ g) w w') (hg : ¬ P g) : IsMd P w' e.m e.cs e.fs := h.md.since ⟨hf.size, fun k hk hl => hf.block k (by rintro rfl; exact hg hk) hl⟩
theorem LS.tbk {g : Nat} (h : LS e P ks loc stk sts fl q dn x xs w) (hf : Fr (fun k => k ≠ g) w w') (hg : e.base ≤ g) : Tb15 e.base w' := h.tb.fr hf h.le (fun j hj => by show j ≠ g; omega)
theorem LS.dgk {g : Nat} (h : LS e P ks loc stk sts fl q dn x xs w) (hf : Fr (fun k => k ≠ g) w w') (hg : e.lo ≤ g ∨ g = e.p ∨ e.ss.ownBlock = some g) : Dg e.lo e.p e.ss e.ds w' := h.dg.stay (fun k h1 h2 h3 h4 => hf.block k (by
  show k ≠ g
  rintro rfl
  rcases hg with hg | hg | hg
  · omega
  · exact h2 hg
  · exact h3 hg) h4)
theorem LS.keep (h : LS e P ks loc stk sts fl q dn x xs w) (hb : Below w.heap.size w w') : LS e P ks loc stk sts fl q dn x xs w' :=
  ⟨h.mc.keep (hb.block _ h.mc.lt), h.fr.keep (hb.block _ h.fr.lt), h.md.below hb, h.st.below hb, h.lc.below hb, h.sk.below hb, h.tb.mono (hb.mono h.le), h.dg.stay (fun k _ _ _ h4 => hb.block k h4), h.bp, h.pl, h.bs, h.lb, h.ll, h.lk, h.np, h.nb, h.ns, h.nl, h.nk, h.pa, fun k hk => h.hi k (Nat.le_trans hb.size hk)⟩
theorem LS.fuel {fl' : Int} (h : LS e P ks loc stk sts fl q dn x xs w) (hf : Fr (fun k => k ≠ e.p) w w') (hm : Lm e.p w' e.cs e.fs e.ds e.ss fl') : LS e P ks loc stk sts fl' q dn x xs w' := by
  have hlb := h.lb
  have hpl := h.pl
  exact ⟨hm, h.fr.keep (hf.block _ (by show _ ≠ _; omega) h.fr.lt), h.mdk hf h.np, h.since hf h.np (fun e => (h.bs _ e).2.2 rfl) h.st, h.since hf h.np (fun e => by have := (h.ll _ e).1; omega) h.lc, h.since hf h.np (fun e => by have := (h.lk _ e).1; omega) h.sk, h.tbk hf h.bp, h.dgk hf (Or.inr (Or.inl rfl)), h.bp, h.pl, h.bs, h.lb, h.ll, h.lk, h.np, h.nb, h.ns, h.nl, h.nk, h.pa, fun k hk => h.hi k (Nat.le_trans hf.size hk)⟩
theorem LS.frame {q' : Int} {dn' : Bool} {x' : V} {xs' : Value} (h : LS e P ks loc stk sts fl q dn x xs w) (hf : Fr (fun k => k ≠ e.b) w w') (hm : Lf e.b e.p w' e.ls ks q' dn' x' xs') : LS e P ks loc stk sts fl q' dn' x' xs' w' := by
  have hlb := h.lb
  have hpl := h.pl
  have hbp := h.bp
  exact ⟨h.mc.keep (hf.block _ (by show _ ≠ _; omega) h.mc.lt), hm, h.mdk hf h.nb, h.since hf h.nb (fun e => by have := (h.bs _ e).2.1; omega) h.st, h.since hf h.nb (fun e => (h.ll _ e).2 rfl) h.lc, h.since hf h.nb (fun e => (h.lk _ e).2.1 rfl) h.sk, h.tbk hf (by omega), h.dgk hf (Or.inl h.lb), h.bp, h.pl, h.bs, h.lb, h.ll, h.lk, h.np, h.nb, h.ns, h.nl, h.nk, h.pa, fun k hk => h.hi k (Nat.le_trans hf.size hk)⟩
theorem Gv.cut {R : Nat → Prop} {a : Option Addr} {n c : Nat} {l : List V} (h : Gv R w (.slice a n c) l) {j : Nat} (hj : j ≤ l.length) : Gv R w (.slice a j c) (l.take j) := by
  obtain ⟨row, h1, h2, h3⟩ := h
  have e : (l.take j).length = j := by simp; omega
  have hlen := h3.len
  refine ⟨row.take (j * 4), ⟨by rw [e, List.length_take]; omega, ?_⟩, ?_, ?_⟩
  · rcases h1.2 with ⟨e0, h0⟩ | ⟨g, cap, cur, e0, k1, k2, k3, k4, k5, k6⟩
    · simp only [Value.slice.injEq] at e0
      obtain ⟨rfl, _, rfl⟩ := e0
      exact Or.inl ⟨by rw [show j = 0 by omega], by rw [e]; omega⟩
    · simp only [Value.slice.injEq] at e0
      obtain ⟨rfl, _, rfl⟩ := e0
      exact Or.inr ⟨g, c, cur, by rw [e], k1, k2, by rw [e]; omega, k4, k5, by rw [e, ← k6, List.take_take]; congr 1; omega⟩
  · intro k hk
    refine h2 k ?_
    cases a
    · simp [Value.ownBlock] at hk
    · exact hk
  · have h4 := (h3.len_take hj).1
    exact h4.base (fun k hk _ => ⟨hk.1, fun e' => hk.2 (by
      cases a
      · simp [Value.ownBlock] at e'
      · exact e')⟩)
theorem own_len {a : Option Addr} {n m c : Nat} : (Value.slice a n c).ownBlock = (Value.slice a m c).ownBlock := by cases a <;> rfl
theorem LS.cut {ak : Option Addr} {n ck : Nat} (h : LS e P (.slice ak n ck) loc stk sts fl q dn x xs w) {j : Nat} (hj : j ≤ stk.length) (hf : Fr (fun k => k ≠ e.b) w w') (hm : Lf e.b e.p w' e.ls (.slice ak j ck) q dn x xs) : LS e P (.slice ak j ck) loc (stk.take j) sts fl q dn x xs w' := by
  have hlb := h.lb
  have hpl := h.pl
  have hbp := h.bp
  have ho : (Value.slice ak j ck).ownBlock = (Value.slice ak n ck).ownBlock := own_len
  have hc : Rw P w (.slice ak j ck) (stk.take j) := (h.sk.cut hj).base (fun k hk _ => by rw [ho]; exact hk)
  exact ⟨h.mc.keep (hf.block _ (by show _ ≠ _; omega) h.mc.lt), hm, h.mdk hf h.nb, h.since hf h.nb (fun e => by have := (h.bs _ e).2.1; omega) h.st, h.since hf h.nb (fun e => (h.ll _ e).2 rfl) h.lc, h.since hf h.nb (fun e => (h.lk _ (ho ▸ e)).2.1 rfl) hc, h.tbk hf (by omega), h.dgk hf (Or.inl h.lb), h.bp, h.pl, h.bs, h.lb, h.ll, fun k hk => h.lk k (ho ▸ hk), h.np, h.nb, h.ns, h.nl, fun k hk => h.nk k (ho ▸ hk), h.pa, fun k hk => h.hi k (Nat.le_trans hf.size hk)⟩
theorem LS.setL {gl n cap : Nat} (he : e.ls = .slice (some ⟨gl, 0, none⟩) n cap) (h : LS e P ks loc stk sts fl q dn x xs w) {i : Nat} (hi : i < loc.length) {y : V} {ys : Value} (hy : IsW P w y ys) : LS e P ks (loc.set i y) stk sts fl q dn x xs (set4At w gl (i * 4) (.int .i64 y.k) (.int .i64 y.n) (.string ⟨y.t.toArray⟩) ys) := by
  have hf : Fr (fun k => k ≠ gl) w (set4At w gl (i * 4) (.int .i64 y.k) (.int .i64 y.n) (.string ⟨y.t.toArray⟩) ys) := (((Fr.set (by simp) _ _).trans (Fr.set (by simp) _ _)).trans (Fr.set (by simp) _ _)).trans (Fr.set (by simp) _ _)
  have ho : e.ls.ownBlock = some gl := by rw [he]; rfl
  obtain ⟨l1, l2⟩ := h.ll _ ho
  have hg := h.nl _ ho
  have hlb := h.lb
  have hpl := h.pl
  have hbp := h.bp
  refine ⟨h.mc.keep (hf.block _ (by show _ ≠ _; omega) h.mc.lt), h.fr.keep (hf.block _ (by show _ ≠ _; omega) h.fr.lt), h.mdk hf hg, h.since hf hg (fun e => by have := (h.bs _ e).2.1; omega) h.st, ?_, h.since hf hg (fun e => (h.lk _ e).2.2 ho) h.sk, h.tbk hf (by omega), h.dgk hf (Or.inl l1), h.bp, h.pl, h.bs, h.lb, h.ll, h.lk, h.np, h.nb, h.ns, h.nl, h.nk, h.pa, fun k hk => h.hi k (Nat.le_trans hf.size hk)⟩
  have hlc := h.lc
  rw [he] at hlc ⊢
  rw [← set_split hi]
  exact hlc.set hi (isV_iff.2 ⟨ys, rfl, hy.base (fun k hk _ => ⟨Or.inl hk, fun e => hg (e ▸ hk)⟩)⟩)
theorem LS.setS {gl n cap : Nat} (he : e.ss = .slice (some ⟨gl, 0, none⟩) n cap) (h : LS e P ks loc stk sts fl q dn x xs w) {i : Nat} (hi : i < sts.length) {y : V} {ys : Value} (hy : IsW P w y ys) : LS e P ks loc stk (sts.set i y) fl q dn x xs (set4At w gl (i * 4) (.int .i64 y.k) (.int .i64 y.n) (.string ⟨y.t.toArray⟩) ys) := by
  have hf : Fr (fun k => k ≠ gl) w (set4At w gl (i * 4) (.int .i64 y.k) (.int .i64 y.n) (.string ⟨y.t.toArray⟩) ys) := (((Fr.set (by simp) _ _).trans (Fr.set (by simp) _ _)).trans (Fr.set (by simp) _ _)).trans (Fr.set (by simp) _ _)
  have ho : e.ss.ownBlock = some gl := by rw [he]; rfl
  obtain ⟨l0, l1, l2⟩ := h.bs _ ho
  have hg := h.ns _ ho
  have hlb := h.lb
  have hpl := h.pl
  have hbp := h.bp
  refine ⟨h.mc.keep (hf.block _ (by show _ ≠ _; omega) h.mc.lt), h.fr.keep (hf.block _ (by show _ ≠ _; omega) h.fr.lt), h.mdk hf hg, ?_, h.since hf hg (fun e => by have := (h.ll _ e).1; omega) h.lc, h.since hf hg (fun e => by have := (h.lk _ e).1; omega) h.sk, h.tbk hf l0, h.dgk hf (Or.inr (Or.inr ho)), h.bp, h.pl, h.bs, h.lb, h.ll, h.lk, h.np, h.nb, h.ns, h.nl, h.nk, h.pa, fun k hk => h.hi k (Nat.le_trans hf.size hk)⟩
  have hlc := h.st
  rw [he] at hlc ⊢
  rw [← set_split hi]
  exact hlc.set hi (isV_iff.2 ⟨ys, rfl, hy.base (fun k hk _ => ⟨Or.inl hk, fun e => hg (e ▸ hk)⟩)⟩)
theorem LS.grown {P' : Nat → Prop} {ks' : Value} {stk' : List V} (h : LS e P ks loc stk sts fl q dn x xs w) (hf : Fr (fun k => ks.ownBlock ≠ some k ∧ k ≠ e.b) w w') (hl : Lf e.b e.p w' e.ls ks' q dn x xs) (hP : ∀ k, P' k → P k) (hP2 : ∀ k, P k → k < w.heap.size → P' k) (hk : Rw P' w' ks' stk') (hn : ∀ k, ks'.ownBlock = some k → ¬ P' k ∧ (ks.ownBlock = some k ∨ w.heap.size ≤ k)) (hi : ∀ k, w'.heap.size ≤ k → P' k) : LS e P' ks' loc stk' sts fl q dn x xs w' := by
  have hlb := h.lb
  have hpl := h.pl
  have hbp := h.bp
  have hbl := h.fr.lt
  have hs : ∀ {R : Nat → Prop}, (∀ k, R k → k < w.heap.size → ks.ownBlock ≠ some k ∧ k ≠ e.b) → Since R w w' := fun {R} hR => ⟨hf.size, fun k hk hl => hf.block k (hR k hk hl) hl⟩
  have hPk : ∀ k, P k → ks.ownBlock ≠ some k ∧ k ≠ e.b := fun k hk => ⟨fun e => h.nk k e hk, fun e => h.nb (e ▸ hk)⟩
  have hrow : ∀ {sl : Value} {l : List V}, Rw P w sl l → (∀ k, sl.ownBlock = some k → ks.ownBlock ≠ some k ∧ k ≠ e.b) → Rw P' w' sl l := fun {sl l} hr ho => (hr.base (P' := fun k => P' k ∨ sl.ownBlock = some k) (fun k hk hl => by
    rcases hk with hk | hk
    · exact Or.inl (hP2 k hk hl)
    · exact Or.inr hk)).since (hs (fun k hk _ => by
    rcases hk with hk | hk
    · exact hPk k (hP k hk)
    · exact ho k hk))
  refine ⟨h.mc.keep (hf.block _ ⟨fun e => by have := (h.lk _ e).1; omega, by omega⟩ h.mc.lt), hl, (h.md.base hP2).since (hs (fun k hk _ => hPk k (hP k hk))), hrow h.st (fun k e1 => ⟨fun e2 => by have := (h.bs _ e1).2.1; have := (h.lk _ e2).1; omega, by have := (h.bs _ e1).2.1; omega⟩), hrow h.lc (fun k e1 => ⟨fun e2 => (h.lk _ e2).2.2 e1, (h.ll _ e1).2⟩), hk, h.tb.fr hf h.le (fun j hj => ⟨fun e => by have := (h.lk _ e).1; omega, by omega⟩), h.dg.stay (fun k h1 h2 h3 h4 => hf.block k ⟨fun e => by have := (h.lk _ e).1; omega, by omega⟩ h4), h.bp, h.pl, h.bs, h.lb, h.ll, ?_, fun hk => h.np (hP _ hk), fun hk => h.nb (hP _ hk), fun k e hk => h.ns k e (hP _ hk), fun k e hk => h.nl k e (hP _ hk), fun k e => (hn k e).1, fun k hk => h.pa k (hP k hk), hi⟩
  intro k e1
  rcases (hn k e1).2 with e2 | e2
  · exact h.lk k e2
  · have hll : ∀ j, e.ls.ownBlock = some j → j < w.heap.size := fun j e => (h.lc.lt e).2
    exact ⟨by omega, by omega, fun e3 => by have := hll k e3; omega⟩
end
end Go.Proofs.YtnijcolomoobnaaGreatDoor
namespace Go.Proofs.YtnijcolomoobnaaGreatDoor
open Go.RowKit
set_option linter.unusedVariables false
set_option linter.unusedSimpArgs false
attribute [local go_sem ↓] Go.wp_at_zero Go.wp_at_succ

set_option maxRecDepth 100000 in
set_option maxHeartbeats 1000000 in
theorem charge_few {p : Nat} {w : World} {cs fs ds ss : Value} {fl : Int} (h : Lm p w cs fs ds ss fl) {n : Int} (hn : fl < n) : Calls Tryz.prog 51 #[.pointer (some ⟨p, 0, none⟩), .int .i64 n] w fun r w' => r = .panicked (thrownT 54) ∧ w' = w.setCell ⟨p, 4, none⟩ (.int .i64 0) := by
  obtain ⟨c0, c1, c2, c3, c4, f0, f1, f2, f3, f4, hl⟩ := cells_k5 h
  clear h
  go_enter Tryz.func51, Tryz.ntmps51
  go_wp2
  exact ⟨rfl, rfl, rfl⟩
set_option maxRecDepth 100000 in
set_option maxHeartbeats 1000000 in
theorem charge_ok {p : Nat} {w : World} {cs fs ds ss : Value} {fl : Int} (h : Lm p w cs fs ds ss fl) {n : Int} (hn : ¬ fl < n) (h0 : 0 ≤ n) (hf : fl ≤ 4096) : Calls Tryz.prog 51 #[.pointer (some ⟨p, 0, none⟩), .int .i64 n] w fun r w' => r = .returned (.tuple #[]) ∧ w' = w.setCell ⟨p, 4, none⟩ (.int .i64 (fl - n)) := by
  obtain ⟨c0, c1, c2, c3, c4, f0, f1, f2, f3, f4, hl⟩ := cells_k5 h
  have hw : IntKind.i64.wrap (fl - n) = fl - n := by rw [IntKind.wrap_i64]; omega
  have hnb : decide (fl < n) = false := by simpa using hn
  clear h
  go_enter Tryz.func51, Tryz.ntmps51
  go_wp2
  go_end0
  exact ⟨rfl, rfl⟩
set_option maxRecDepth 100000 in
set_option maxHeartbeats 1000000 in
theorem mustI_ok (w : World) (x : Int) : Calls Tryz.prog 88 #[.int .i64 x, .int .i64 0] w fun r w' => r = .returned (.int .i64 x) ∧ Below w.heap.size w w' := by
  go_enter Tryz.func88, Tryz.ntmps88
  go_wp2
  go_ret
  exact ⟨rfl, Below.refl _ _⟩
set_option maxRecDepth 100000 in
set_option maxHeartbeats 1000000 in
theorem mustI_no (w : World) (x : Int) {e : Int} (he : e ≠ 0) : Calls Tryz.prog 88 #[.int .i64 x, .int .i64 e] w fun r w' => r = .panicked (thrownT e) ∧ Below w.heap.size w w' := by
  have hb : (e != 0) = true := by simpa using he
  go_enter Tryz.func88, Tryz.ntmps88
  go_wp2
  exact ⟨rfl, rfl, Below.refl _ _⟩
set_option maxRecDepth 100000 in
set_option maxHeartbeats 1000000 in
theorem mustB_ok (w : World) (x : Bool) : Calls Tryz.prog 92 #[.bool x, .int .i64 0] w fun r w' => r = .returned (.bool x) ∧ Below w.heap.size w w' := by
  go_enter Tryz.func92, Tryz.ntmps92
  go_wp2
  go_ret
  exact ⟨rfl, Below.refl _ _⟩
set_option maxRecDepth 100000 in
set_option maxHeartbeats 1000000 in
theorem mustB_no (w : World) (x : Bool) {e : Int} (he : e ≠ 0) : Calls Tryz.prog 92 #[.bool x, .int .i64 e] w fun r w' => r = .panicked (thrownT e) ∧ Below w.heap.size w w' := by
  have hb : (e != 0) = true := by simpa using he
  go_enter Tryz.func92, Tryz.ntmps92
  go_wp2
  exact ⟨rfl, rfl, Below.refl _ _⟩
set_option maxRecDepth 100000 in
set_option maxHeartbeats 1000000 in
theorem mustV_ok (w : World) (x : V) (ao : Option Addr) (n c : Nat) : Calls Tryz.prog 82 #[.agg #[.int .i64 x.k, .int .i64 x.n, .string ⟨x.t.toArray⟩, .slice ao n c], .int .i64 0] w fun r w' => r = .returned (.agg #[.int .i64 x.k, .int .i64 x.n, .string ⟨x.t.toArray⟩, .slice ao n c]) ∧ Below w.heap.size w w' := by
  obtain ⟨w0, hW, hb0, hsz, d0, d1, d2, d3⟩ := boxed w x (.slice ao n c)
  obtain ⟨wz, hWz, hbz, hlz, hxz⟩ := zbox4 w0
  obtain ⟨wN, hWN, hxN, hbN⟩ := resB hxz (Nat.le_refl _) hbz (.int .i64 x.k) (.int .i64 x.n) (.string ⟨x.t.toArray⟩) (.slice ao n c)
  obtain ⟨z0, z1, z2, z3, y0, y1, y2, y3⟩ := cells_of4 hxz
  obtain ⟨f, -⟩ := bcell hbz
  have hg : w.heap.size < w0.heap.size := by omega
  have k0 := (f _ 0 hg).trans d0
  have k1 := (f _ 1 hg).trans d1
  have k2 := (f _ 2 hg).trans d2
  have k3 := (f _ 3 hg).trans d3
  have hgz : w.heap.size < wz.heap.size := by omega
  obtain ⟨m0, m1, m2, m3, -⟩ := cells_of4 hxN
  have hlN : w0.heap.size < wN.heap.size := (Array.getElem?_eq_some_iff.1 hxN).1
  have hB : Below w.heap.size w wN := hb0.trans (hbN.mono hb0.size)
  clear f d0 d1 d2 d3 hxz hxN hsz
  go_enter Tryz.func82, Tryz.ntmps82
  go_wp2_with fail
  exact bodyPost_ret (v := .agg #[.int .i64 x.k, .int .i64 x.n, .string ⟨x.t.toArray⟩, .slice ao n c]) (by simp [results, Tryz.results82, go_sem, hlN, m0, m1, m2, m3]) rfl ⟨rfl, hB⟩
set_option maxRecDepth 100000 in
set_option maxHeartbeats 1000000 in
theorem mustV_no (w : World) (x : V) (ao : Option Addr) (n c : Nat) {e : Int} (he : e ≠ 0) : Calls Tryz.prog 82 #[.agg #[.int .i64 x.k, .int .i64 x.n, .string ⟨x.t.toArray⟩, .slice ao n c], .int .i64 e] w fun r w' => r = .panicked (thrownT e) ∧ Below w.heap.size w w' := by
  have hb : (e != 0) = true := by simpa using he
  obtain ⟨w0, hW, hb0, hsz, d0, d1, d2, d3⟩ := boxed w x (.slice ao n c)
  obtain ⟨wz, hWz, hbz, hlz, hxz⟩ := zbox4 w0
  have hB : Below w.heap.size w wz := hb0.trans (hbz.mono hb0.size)
  clear d0 d1 d2 d3 hxz hsz
  go_enter Tryz.func82, Tryz.ntmps82
  go_wp2
  exact ⟨rfl, rfl, hB⟩
section
variable {e : En} {P : Nat → Prop} {ks : Value} {loc stk sts : List V} {fl q : Int} {dn : Bool} {x : V} {xs : Value} {w w' : World}
set_option maxRecDepth 100000 in
set_option maxHeartbeats 1000000 in
theorem fpops_any {b p : Nat} {ls : Value} {ak : Option Addr} {n ck : Nat} (h : Lf b p w ls (.slice ak n ck) q dn x xs) (hn : n ≤ ck) (hc : ck ≤ 9223372036854775807) {j d : Nat} (hj : n = j + d) : Calls Tryz.prog 80 #[.pointer (some ⟨b, 0, none⟩), .int .i64 (d : Int)] w fun r w' => r = .returned (.slice (cutA ak j ck) d (ck - j)) ∧ w' = w.setCell ⟨b, 2, none⟩ (.slice ak j ck) := by
  obtain ⟨c0, c1, c2, c3, c4⟩ := h.cells
  have f2 := h.open_ 2
  have hl := h.lt
  have hs : (n : Int) - (d : Int) = (j : Int) := by omega
  have hw : IntKind.i64.wrap ((n : Int) - (d : Int)) = (j : Int) := by rw [hs, IntKind.wrap_i64]; omega
  have hw2 : IntKind.i64.wrap (j : Int) = (j : Int) := by rw [IntKind.wrap_i64]; omega
  have r1 := fun wx => cut_low ak n ck j (by omega) wx
  have r2 := fun wx => cut_high ak n ck j (by omega) wx
  have hd : n - j = d := by omega
  rw [hd] at r1
  generalize cutA ak j ck = aj at *
  generalize ck - j = cj at *
  clear h hn hj hd
  go_enter Tryz.func80, Tryz.ntmps80
  go_wp2
  go_ret
  exact ⟨rfl, rfl⟩
theorem cutA_some {g j c : Nat} (h : j < c) : cutA (some ⟨g, 0, none⟩) j c = some ⟨g, j * 4, none⟩ := by
  unfold cutA
  rw [if_neg (by omega)]
  simp [Addr.add]
  omega
set_option maxRecDepth 100000 in
set_option maxHeartbeats 2000000 in
theorem fpop_any {s : List V} {y : V} (h : LS e P ks loc (s ++ [y]) sts fl q dn x xs w) : Calls Tryz.prog 43 #[.pointer (some ⟨e.b, 0, none⟩)] w fun r w' => (∃ ay cy, r = .returned (.agg #[.int .i64 y.k, .int .i64 y.n, .string ⟨y.t.toArray⟩, .slice ay y.l.length cy]) ∧ IsW P w' y (.slice ay y.l.length cy)) ∧ (∃ ks', LS e P ks' loc s sts fl q dn x xs w') ∧ Fr (fun k => k ≠ e.b) w w' := by
  obtain ⟨ak, ck, hks, hck, hcm⟩ := h.sk.slice
  subst hks
  obtain ⟨w0, hW0, hb0, hl0, hx0⟩ := zbox4 w
  have hlen : (s ++ [y]).length = s.length + 1 := by simp
  have hC := fpops_any (d := 1) (j := s.length) (h.keep hb0).fr hck hcm hlen
  obtain ⟨g, ay, cy, e1, hg, -, c0, c1, c2, c3, -, -, -, -, hwy⟩ := h.sk.get (i := s.length) (x := y) (by simp)
  subst e1
  rw [cutA_some (by omega)] at hC
  have hgb : g ≠ e.b := (h.lk g rfl).2.1
  have hwb : w.heap.size ≠ e.b := by have := h.fr.lt; omega
  have hf1 : Fr (fun k => k ≠ e.b) w0 (w0.setCell ⟨e.b, 2, none⟩ (.slice (some ⟨g, 0, none⟩) s.length ck)) := Fr.set (by simp) _ _
  have hxz := (hf1.block _ hwb hl0).trans hx0
  have hF1 : Fr (fun k => k ≠ e.b) w (w0.setCell ⟨e.b, 2, none⟩ (.slice (some ⟨g, 0, none⟩) s.length ck)) := (Fr.of_below hb0).trans hf1
  have hcell : ∀ j, (w0.setCell ⟨e.b, 2, none⟩ (.slice (some ⟨g, 0, none⟩) s.length ck)).cell? ⟨g, j, none⟩ = w.cell? ⟨g, j, none⟩ := fun j => World.cell?_of_block (hF1.block g hgb hg)
  have k0 := (hcell _).trans c0
  have k1 := (hcell _).trans c1
  have k2 := (hcell _).trans c2
  have k3 := (hcell _).trans c3
  have hL1 := (h.keep hb0).fr.setK (.slice (some ⟨g, 0, none⟩) s.length ck)
  have hs1 : (w0.setCell ⟨e.b, 2, none⟩ (.slice (some ⟨g, 0, none⟩) s.length ck)).heap.size = w0.heap.size := by simp [World.setCell]
  generalize w0.setCell ⟨e.b, 2, none⟩ (.slice (some ⟨g, 0, none⟩) s.length ck) = w1 at *
  have hg1 : g < w1.heap.size := by have := hb0.size; omega
  have hz1 : w.heap.size < w1.heap.size := by omega
  have hne : g ≠ w.heap.size := by omega
  obtain ⟨z0, z1, z2, z3, y0, y1, y2, y3⟩ := cells_of4 hxz
  obtain ⟨wN, hWN, hxN, hfN, hsN⟩ := resC hxz (.int .i64 y.k) (.int .i64 y.n) (.string ⟨y.t.toArray⟩) (.slice ay y.l.length cy)
  obtain ⟨m0, m1, m2, m3, -⟩ := cells_of4 hxN
  have hlN : w.heap.size < wN.heap.size := (Array.getElem?_eq_some_iff.1 hxN).1
  have hFN : Fr (fun k => k ≠ e.b) w wN := ⟨hfN.os.trans hF1.os, hfN.tape.trans hF1.tape, hfN.output.trans hF1.output, by omega, fun k hk hl => (hfN.block k (by show k ≠ _; omega) (by omega)).trans (hF1.block k hk hl)⟩
  have hfin : Hid ((∃ ay' cy', Ending.returned (.agg #[.int .i64 y.k, .int .i64 y.n, .string ⟨y.t.toArray⟩, .slice ay y.l.length cy]) = .returned (.agg #[.int .i64 y.k, .int .i64 y.n, .string ⟨y.t.toArray⟩, .slice ay' y.l.length cy']) ∧ IsW P wN y (.slice ay' y.l.length cy')) ∧ (∃ ks', LS e P ks' loc s sts fl q dn x xs wN) ∧ Fr (fun k => k ≠ e.b) w wN) := by
    refine ⟨⟨ay, cy, rfl, (hwy.base (B' := P) (fun k hk _ => by rcases hk.1 with h | h; exact h; exact absurd h hk.2)).since ⟨hFN.size, fun k hk hl => hFN.block k (fun e1 => h.nb (e1 ▸ hk)) hl⟩⟩, ⟨.slice (some ⟨g, 0, none⟩) s.length ck, ?_⟩, hFN⟩
    have := h.cut (j := s.length) (by omega) hFN (hL1.keep (hfN.block _ hwb.symm hL1.lt))
    rwa [List.take_left' rfl] at this
  clear h hwy hcell hf1 hck hcm hlen c0 c1 c2 c3 hx0 hb0 hs1 hl0 hg hxz hxN hsN hL1 hF1 hFN hfN
  go_enter Tryz.func43, Tryz.ntmps43
  go_wp2_with fail
  refine hC.mono ?_
  rintro r w2 ⟨rfl, hw2⟩
  subst hw2
  clear hC
  go_wp2_with fail
  exact bodyPost_ret (v := .agg #[.int .i64 y.k, .int .i64 y.n, .string ⟨y.t.toArray⟩, .slice ay y.l.length cy]) (by simp [results, Tryz.results43, go_sem, hlN, m0, m1, m2, m3]) rfl hfin.out
set_option maxRecDepth 100000 in
set_option maxHeartbeats 2000000 in
theorem ftruth_no {s : List V} {y : V} (h : LS e P ks loc (s ++ [y]) sts fl q dn x xs w) (hk : y.k ≠ 2) : Calls Tryz.prog 81 #[.pointer (some ⟨e.b, 0, none⟩)] w fun r w' => r = .panicked (thrownT 40) ∧ Fr (fun k => k ≠ e.b) w w' := by
  have hC := fpop_any h
  have hkb : (y.k != 2) = true := by simpa using hk
  clear h hk
  go_enter Tryz.func81, Tryz.ntmps81
  go_wp2_with fail
  refine hC.mono ?_
  rintro r w1 ⟨⟨ay, cy, rfl, -⟩, -, hf1⟩
  clear hC
  obtain ⟨w2, hW2, hb2, hsz, d0, d1, d2, d3⟩ := boxed w1 y (.slice ay y.l.length cy)
  have hgb : w1.heap.size < w2.heap.size := by omega
  clear hsz
  go_wp2
  exact ⟨rfl, rfl, hf1.trans (Fr.of_below hb2)⟩
set_option maxRecDepth 100000 in
set_option maxHeartbeats 2000000 in
theorem ftruth_yes {s : List V} {y : V} (h : LS e P ks loc (s ++ [y]) sts fl q dn x xs w) (hk : y.k = 2) : Calls Tryz.prog 81 #[.pointer (some ⟨e.b, 0, none⟩)] w fun r w' => r = .returned (.bool (y.n == 1)) ∧ (∃ ks', LS e P ks' loc s sts fl q dn x xs w') ∧ Fr (fun k => k ≠ e.b) w w' := by
  have hC := fpop_any h
  have hkb : (y.k != 2) = false := by simpa using hk
  clear h hk
  go_enter Tryz.func81, Tryz.ntmps81
  go_wp2_with fail
  refine hC.mono ?_
  rintro r w1 ⟨⟨ay, cy, rfl, -⟩, ⟨ks', h1⟩, hf1⟩
  clear hC
  obtain ⟨w2, hW2, hb2, hsz, d0, d1, d2, d3⟩ := boxed w1 y (.slice ay y.l.length cy)
  have hgb : w1.heap.size < w2.heap.size := by omega
  have hfin : Hid ((∃ ks', LS e P ks' loc s sts fl q dn x xs w2) ∧ Fr (fun k => k ≠ e.b) w w2) := ⟨⟨ks', h1.keep hb2⟩, hf1.trans (Fr.of_below hb2)⟩
  clear hsz h1 hf1 hb2
  go_wp2
  go_ret
  exact ⟨rfl, hfin.out⟩
end
end Go.Proofs.YtnijcolomoobnaaGreatDoor
