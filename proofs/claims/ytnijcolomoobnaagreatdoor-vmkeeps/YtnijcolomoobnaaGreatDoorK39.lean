/- Texts of ours, joined: Sr. -/
import Derived.Test.YtnijcolomoobnaaGreatDoorK38
namespace Go.Proofs.YtnijcolomoobnaaGreatDoor
open Go.RowKit
set_option linter.unusedVariables false
set_option linter.unusedSimpArgs false
attribute [local go_sem ↓] Go.wp_at_zero Go.wp_at_succ

def KPost (K : Act → World → Prop) : Exit → Act → World → Prop
  | .normal, a, w => K a w
  | _, _, _ => False
theorem wp_region_key {P : Program} {id : Nat} {ops : Array Oper} {b : Bool} {Q : Exit → Act → World → Prop} {a : Act} {w : World} (K : Act → Act → World → Prop) (h1 : (Code.region id ops b).wp P (KPost (K a)) a w) (h2 : ∀ a' w', K a a' w' → Q .normal a' w') : (Code.region id ops b).wp P Q a w :=
  Code.wp_mono (fun e a' w' h => by
    cases e
    case normal => exact h2 _ _ h
    all_goals exact (h : False).elim) h1
def Rg (a b : Nat) : Nat → Prop := fun k => a ≤ k ∧ k < b
def RunPostW (m : Md) (states : List V) (n : Int) (args : List V) (fuel : Int) (w : World) (r : Ending) (w' : World) : Prop :=
  ∃ (S : List V) (v : V) (e fl : Int) (a' : Option Addr) (c' : Nat) (av : Option Addr) (cv mid : Nat), r = .returned (.tuple #[.slice a' S.length c', .agg #[.int .i64 v.k, .int .i64 v.n, .string ⟨v.t.toArray⟩, .slice av v.l.length cv, .int .i64 e, .int .i64 fl]]) ∧ RunIs m states n args fuel S v e fl ∧ w.heap.size ≤ mid ∧ mid ≤ w'.heap.size ∧ IsVs (Rg w.heap.size mid) w' S (.slice a' S.length c') ∧ Wf (Rg w.heap.size mid) 1000002 w' (.slice a' S.length c') ∧ IsW (Rg mid w'.heap.size) w' v (.slice av v.l.length cv) ∧ Wf (Rg mid w'.heap.size) 1000001 w' (.slice av v.l.length cv) ∧ Below w.heap.size w w'
def DgB (lo hi : Nat) (ds : Value) (w : World) : Prop := ∃ gd g13 g16 g18 g19 g21 : Nat, ds = .slice (some ⟨gd, 0, none⟩) 22 22 ∧ (w.heap[gd]? = some (.cells (dRow g13 g16 g18 g19 g21) 79 (0, 0)) ∧ w.heap[g13]? = some (.cells #[.func (Fn.func 54) #[] #[]] 81 (0, 0)) ∧ w.heap[g16]? = some (.cells #[.func (Fn.func 57) #[] #[]] 81 (0, 0)) ∧ w.heap[g18]? = some (.cells #[.func (Fn.func 60) #[] #[]] 83 (0, 0)) ∧ w.heap[g19]? = some (.cells #[.func (Fn.func 61) #[] #[]] 83 (0, 0)) ∧ w.heap[g21]? = some (.cells #[.func (Fn.func 63) #[] #[]] 83 (0, 0))) ∧ ∀ k, k = gd ∨ k = g13 ∨ k = g16 ∨ k = g18 ∨ k = g19 ∨ k = g21 → lo ≤ k ∧ k < hi
theorem DgB.since {lo hi : Nat} {ds : Value} {w w' : World} (h : DgB lo hi ds w) (hf : Since (Rg lo hi) w w') : DgB lo hi ds w' := by
  obtain ⟨gd, g13, g16, g18, g19, g21, e, ⟨h0, h1, h2, h3, h4, h5⟩, hk⟩ := h
  have hx : ∀ {k : Nat} {o : Obj}, w.heap[k]? = some o → (k = gd ∨ k = g13 ∨ k = g16 ∨ k = g18 ∨ k = g19 ∨ k = g21) → w'.heap[k]? = some o := fun {k o} hh hm => (hf.block k (hk k hm) (Array.getElem?_eq_some_iff.1 hh).1).trans hh
  exact ⟨gd, g13, g16, g18, g19, g21, e, ⟨hx h0 (by simp), hx h1 (by simp), hx h2 (by simp), hx h3 (by simp), hx h4 (by simp), hx h5 (by simp)⟩, hk⟩
theorem DgB.below {lo hi : Nat} {ds : Value} {w w' : World} (h : DgB lo hi ds w) (hb : Below w.heap.size w w') : DgB lo hi ds w' := h.since (Since.of_below hb)
theorem doings_b (w : World) : Calls Tryz.prog 26 #[] w fun r w' => ∃ gd : Nat, r = .returned (.slice (some ⟨gd, 0, none⟩) 22 22) ∧ DgB w.heap.size w'.heap.size (.slice (some ⟨gd, 0, none⟩) 22 22) w' ∧ Below w.heap.size w w' := by
  refine (doings_any w).mono ?_
  rintro r w' ⟨gd, g13, g16, g18, g19, g21, h, h0, h1, h2, h3, h4, h5, hk, hb⟩
  exact ⟨_, h, ⟨gd, g13, g16, g18, g19, g21, rfl, ⟨h0, h1, h2, h3, h4, h5⟩, hk⟩, hb⟩
structure Mk15 (n5 : Nat) (w5 : World) (cs fs : Value) (states : List V) (fl : Int) (gk p : Nat) (ds : Value) (a1 : Option Addr) (c1 : Nat) (w : World) : Prop where
  kb : w.heap[gk]? = some (ptO p)
  mc : Lm p w cs fs ds (.slice a1 states.length c1) fl
  dg : Dg w.heap.size p (.slice a1 states.length c1) ds w
  st : Gv (fun k => k ≠ p ∧ k ≠ gk) w (.slice a1 states.length c1) states
  pl : n5 ≤ p
  kl : n5 ≤ gk
  pk : p ≠ gk
  ow : ∀ k, (Value.slice a1 states.length c1).ownBlock = some k → n5 ≤ k ∧ k < w.heap.size ∧ k ≠ p ∧ k ≠ gk
  be : Below n5 w5 w
theorem Mk15.of {n5 l1 h1 l2 h2 gk p : Nat} {w5 w : World} {cs fs ds : Value} {states : List V} {fl : Int} {a1 : Option Addr} {c1 : Nat} (hk : w.heap[gk]? = some (.cells #[.pointer none] 58 (0, 0))) (hp : w.heap[p]? = some (.cells #[cs, fs, ds, .slice a1 states.length c1, .int .i64 fl] 62 (0, 0))) (hD : DgB l1 h1 ds w) (hS : Gv (fun k => k < n5 ∨ (l2 ≤ k ∧ k < h2)) w (.slice a1 states.length c1) states) (ho : ∀ k, (Value.slice a1 states.length c1).ownBlock = some k → l2 ≤ k ∧ k < h2) (hb : Below n5 w5 w) (b1 : n5 ≤ l1) (b2 : h1 ≤ l2) (b3 : l1 ≤ h1) (q1 : n5 ≤ p) (q2 : n5 ≤ gk) (q3 : p ≠ gk) (q4 : gk < l1 ∨ h1 ≤ gk) (q5 : gk < l2 ∨ h2 ≤ gk) (q6 : h2 ≤ p) (q7 : l2 ≤ h2) (q8 : h2 ≤ w.heap.size) : Mk15 n5 w5 cs fs states fl gk p ds a1 c1 (w.setCell ⟨gk, 0, none⟩ (.pointer (some ⟨p, 0, none⟩))) := by
  have hF : Fr (fun k => k ≠ gk) w (w.setCell ⟨gk, 0, none⟩ (.pointer (some ⟨p, 0, none⟩))) := Fr.set (by simp) _ _
  have hx : (w.setCell ⟨gk, 0, none⟩ (.pointer (some ⟨p, 0, none⟩))).heap[gk]? = some (ptO p) := by simp [World.setCell, Array.getElem?_modify, hk]
  generalize w.setCell ⟨gk, 0, none⟩ (.pointer (some ⟨p, 0, none⟩)) = w' at *
  have hpl := (Array.getElem?_eq_some_iff.1 hp).1
  have hz := hF.size
  refine ⟨hx, (hF.block p q3 hpl).trans hp, ?_, (hS.since ⟨hF.size, fun k hk hl => hF.block k (by show k ≠ gk; omega) hl⟩).base (fun k hk _ => ⟨by omega, by omega⟩), q1, q2, q3, fun k e => by have := ho k e; exact ⟨by omega, by omega, by omega, by omega⟩, hb.trans (hF.below (by have := hb.size; omega) (fun k hk => by show k ≠ gk; omega))⟩
  obtain ⟨gd, g13, g16, g18, g19, g21, e, ⟨h0, h1', h2', h3, h4, h5⟩, hkk⟩ := hD.since (w' := w') ⟨hF.size, fun k hk hl => hF.block k (by have : l1 ≤ k ∧ k < h1 := hk; show k ≠ gk; omega) hl⟩
  exact ⟨gd, g13, g16, g18, g19, g21, e, h0, h1', h2', h3, h4, h5, fun k hk => by
    have := hkk k hk
    exact ⟨by omega, by omega, fun e => by have := ho k e; omega⟩⟩
theorem max0_run (x : Int) : ∀ (ts : Array TypeId) (t : TypeId) (wx : World), (Builtin.max_ ts t #[.int .i64 x, .int .i64 0]).run Tryz.prog wx = .ok (.int .i64 (if x < 0 then 0 else x)) wx := by
  intro ts t wx
  rw [run_max_int2]
theorem min4096_run (x : Int) : ∀ (ts : Array TypeId) (t : TypeId) (wx : World), (Builtin.min_ ts t #[.int .i64 (if x < 0 then 0 else x), .int .i64 4096]).run Tryz.prog wx = .ok (.int .i64 (cl15 x)) wx := by
  intro ts t wx
  rw [run_min_int2]
  congr 2
  unfold cl15
  split <;> (try split) <;> (try split) <;> omega
theorem abox (w : World) (x0 x1 x2 x3 : Value) : ∃ wz w4, w.alloc (.cells #[.int .i64 0, .int .i64 0, .string ⟨#[]⟩, .slice none 0 0] 31) = wz ∧ set4 wz w.heap.size x0 x1 x2 x3 = w4 ∧ Below w.heap.size w w4 ∧ w.heap.size < w4.heap.size ∧ w4.heap[w.heap.size]? = some (.cells #[x0, x1, x2, x3] 31 (0, 0)) ∧ w.heap.size < wz.heap.size ∧
    (wz.cell? ⟨w.heap.size, 0, none⟩ = some (.int .i64 0) ∧ wz.cell? ⟨w.heap.size, 1, none⟩ = some (.int .i64 0) ∧ wz.cell? ⟨w.heap.size, 2, none⟩ = some (.string ⟨#[]⟩) ∧ wz.cell? ⟨w.heap.size, 3, none⟩ = some (.slice none 0 0)) ∧ (wz.frozen? ⟨w.heap.size, 0, none⟩ = false ∧ wz.frozen? ⟨w.heap.size, 1, none⟩ = false ∧ wz.frozen? ⟨w.heap.size, 2, none⟩ = false ∧ wz.frozen? ⟨w.heap.size, 3, none⟩ = false) := by
  obtain ⟨wz, hWz, hbz, hszz, hrz⟩ := rbox w
  obtain ⟨y0, y1, y2, y3, z0, z1, z2, z3, hzz⟩ := hrz wz (Below.refl _ _)
  exact ⟨wz, _, hWz, rfl, below_set4 hbz (Nat.le_refl _) _ _ _ _, by rw [set4_size]; omega, set4_blk (rbox_blk hWz (Below.refl _ _)) _ _ _ _, by omega, ⟨y0, y1, y2, y3⟩, ⟨z0, z1, z2, z3⟩⟩
set_option maxRecDepth 100000 in
set_option maxHeartbeats 16000000 in
theorem vrun_any {B : Nat → Prop} {m : Md} {ac af as_ aa : Option Addr} {cc cf cs_ ca : Nat} {states args : List V} {n fuel : Int} {w : World} (hm : IsMd B w m (.slice ac m.consts.length cc) (.slice af m.funcs.length cf)) (hfit : Fit m) (hs : IsVs B w states (.slice as_ states.length cs_)) (ha : IsVs B w args (.slice aa args.length ca)) (hws : ∀ v ∈ states, wt v ≤ 1000000) (hwa : ∀ v ∈ args, wt v ≤ 1000000) (hls : states.length ≤ 800000) (ht : Tb15 w.heap.size w) :
    Calls Tryz.prog 11 #[.agg #[.slice ac m.consts.length cc, .slice af m.funcs.length cf], .slice as_ states.length cs_, .int .i64 n, .slice aa args.length ca, .int .i64 fuel] w (RunPostW m states n args fuel w) := by
  obtain ⟨w1, hW1, hb1, hs1, hx1⟩ := box2 w (.slice ac m.consts.length cc) (.slice af m.funcs.length cf) 25
  obtain ⟨w2, hW2, hb2, hs2, hx2⟩ := box1 w1 (.slice as_ states.length cs_) 22
  obtain ⟨w3, hW3, hb3, hs3, hx3⟩ := box1 w2 (.slice none 0 0) 22
  obtain ⟨w4, hW4, hb4, hs4, hx4⟩ := obox w3
  have l01 : w.heap.size < w1.heap.size := by omega
  have l12 : w1.heap.size < w2.heap.size := by omega
  have l23 : w2.heap.size < w3.heap.size := by omega
  have hB4 : Below w.heap.size w w4 := hb1.trans ((hb2.mono (by omega)).trans ((hb3.mono (by omega)).trans (hb4.mono (by omega))))
  have hbx : ∀ wr, Below w4.heap.size w4 wr → wr.heap[w.heap.size]? = some (.cells #[.slice ac m.consts.length cc, .slice af m.funcs.length cf] 25 (0, 0)) ∧ wr.heap[w1.heap.size]? = some (slO (.slice as_ states.length cs_)) ∧ wr.heap[w2.heap.size]? = some (slO (.slice none 0 0)) ∧ wr.heap[w3.heap.size]? = some (ouO (.int .i64 0) (.int .i64 0) (.string ⟨#[]⟩) (.slice none 0 0) (.int .i64 0) (.int .i64 0)) ∧ w4.heap.size ≤ wr.heap.size ∧ Below w.heap.size w wr := fun wr hb =>
    ⟨(hb.block _ (by omega)).trans ((hb4.block _ (by omega)).trans ((hb3.block _ (by omega)).trans ((hb2.block _ l01).trans hx1))), (hb.block _ (by omega)).trans ((hb4.block _ (by omega)).trans ((hb3.block _ l12).trans hx2)), (hb.block _ (by omega)).trans ((hb4.block _ l23).trans hx3), (hb.block _ hs4).trans hx4, hb.size, hB4.trans (hb.mono hB4.size)⟩
  have hC := vcanRun_any (n := n) (hm.below hB4) hfit (hs.below hB4) (ha.below hB4) hws hwa
  obtain ⟨y0, y1, y2, y3, -, -⟩ := hbx w4 (Below.refl _ _)
  obtain ⟨k0, k1, -, -, k2⟩ := cells_k2 y0
  have k3 := cell_of_one y1
  have k4 : w1.heap.size < w4.heap.size := (Array.getElem?_eq_some_iff.1 y1).1
  have Hbx : Hid _ := hbx
  have Hm : Hid (IsMd B w m (.slice ac m.consts.length cc) (.slice af m.funcs.length cf)) := hm
  have Hs : Hid (IsVs B w states (.slice as_ states.length cs_)) := hs
  have Ha : Hid (IsVs B w args (.slice aa args.length ca)) := ha
  have Hws : Hid (∀ v ∈ states, wt v ≤ 1000000) := hws
  have Ht : Hid (Tb15 w.heap.size w) := ht
  have Hl : Hid (w.heap.size < w1.heap.size ∧ w1.heap.size < w2.heap.size ∧ w2.heap.size < w3.heap.size ∧ w3.heap.size < w4.heap.size) := ⟨l01, l12, l23, hs4⟩
  have Hls : Hid (states.length ≤ 800000) := hls
  have hmf : ∀ (fn : Fn) (first cap : Array Value) (w : World), (Instr.makeFunc fn first cap).run Tryz.prog w = .ok (.func fn first cap) w := fun _ _ _ _ => rfl
  clear hbx hm hs ha hws hwa ht hx1 hx2 hx3 hx4 hb1 hb2 hb3 hb4 hs1 hs2 hs3 hs4 hB4 y0 y1 y2 y3 hfit l01 l12 l23 hls
  go_enter_defers Tryz.func11, Tryz.ntmps11
  go_wp2_with fail
  refine hC.mono ?_
  rintro r w5 ⟨⟨b, rfl, hb⟩, hb5⟩
  have HV : Hid (b = true ↔ VOk m states n args) := hb
  have Hb5 : Hid (Below w4.heap.size w4 w5) := hb5
  obtain ⟨z0, z1, z2, z3, zs, zb⟩ := Hbx.out w5 hb5
  have Hz : Hid (w4.heap.size ≤ w5.heap.size ∧ Below w.heap.size w w5) := ⟨zs, zb⟩
  have Hx0 : Hid _ := z0
  have Hx1 : Hid _ := z1
  have Hx2 : Hid _ := z2
  have Hx3 : Hid _ := z3
  clear hC hb hb5 k0 k1 k2 k3 k4 Hbx z0 z1 z2 z3 zs zb hW1 hW2 hW3 hW4
  cases b
  · have hno : ¬ VOk m states n args := fun h => by have := HV.out.2 h; cases this
    have c0 := cell_of_one Hx2.out
    have f0 := free_of_one Hx2.out
    have l0 : w2.heap.size < w5.heap.size := (Array.getElem?_eq_some_iff.1 Hx2.out).1
    have hF6 : Fr (fun k => k ≠ w2.heap.size) w5 (w5.setCell ⟨w2.heap.size, 0, none⟩ (.slice none 0 0)) := Fr.set (by simp) _ _
    obtain ⟨w6, hW6⟩ : ∃ w6, w5.setCell ⟨w2.heap.size, 0, none⟩ (.slice none 0 0) = w6 := ⟨_, rfl⟩
    have x6 : w6.heap[w2.heap.size]? = some (slO (.slice none 0 0)) := by rw [← hW6]; simp [World.setCell, Array.getElem?_modify, Hx2.out]
    rw [hW6] at hF6
    obtain ⟨h1, h2, h3, h4⟩ := Hl.out
    have x3 := (hF6.block _ (by show _ ≠ _; omega) (Array.getElem?_eq_some_iff.1 Hx3.out).1).trans Hx3.out
    obtain ⟨e0, e1, e2, e3, e4, e5, l1⟩ := cells_k6 x3
    obtain ⟨u0, u1, u2, u3, u4, u5⟩ := fz6 x3
    obtain ⟨w7, hW7, x7, hF7⟩ := res6F x3 (.int .i64 0) (.int .i64 0) (.string ⟨#[]⟩) (.slice none 0 0) (.int .i64 40) (.int .i64 0)
    obtain ⟨d0, d1, d2, d3, d4, d5, l2⟩ := cells_k6 x7
    have x8 := (hF7.block _ (by show _ ≠ _; omega) (Array.getElem?_eq_some_iff.1 x6).1).trans x6
    have d6 := cell_of_one x8
    have l3 : w2.heap.size < w7.heap.size := (Array.getElem?_eq_some_iff.1 x8).1
    have hB7 : Below w.heap.size w w7 := Hz.out.2.trans ((hF6.below (n := w.heap.size) Hz.out.2.size (fun k hk => by show k ≠ _; omega)).trans (hF7.below (by have := Hz.out.2.size; have := hF6.size; omega) (fun k hk => by show k ≠ _; omega)))
    have hfin : Hid (RunPostW m states n args fuel w (.returned (.tuple #[.slice none 0 0, .agg #[.int .i64 0, .int .i64 0, .string ⟨#[]⟩, .slice none 0 0, .int .i64 40, .int .i64 0]])) w7) :=
      ⟨[], V.zero, 40, 0, none, 0, none, 0, w7.heap.size, rfl, Or.inl ⟨hno, rfl, rfl, rfl, rfl⟩, hB7.size, Nat.le_refl _, IsVs.nil, Wf.nil (Nat.zero_le _), zero_isW, Wf.nil (Nat.zero_le _), hB7⟩
    clear hno hF6 hF7 x3 x6 x7 x8 hB7 h1 h2 h3 h4 HV
    go_wp2_with fail
    exact ⟨.tuple #[.slice none 0 0, .agg #[.int .i64 0, .int .i64 0, .string ⟨#[]⟩, .slice none 0 0, .int .i64 40, .int .i64 0]], by simp [results, Tryz.results11, go_sem, d0, d1, d2, d3, d4, d5, d6, l2, l3], hfin.out⟩
  · have hok : VOk m states n args := HV.out.1 rfl
    obtain ⟨nn, Hnn⟩ : ∃ nn : Nat, Hid (n = (nn : Int)) := ⟨n.toNat, by show _ = _; have := hok.lo; omega⟩
    obtain ⟨f, H, G, o, hf, hV0, hpar, hrun⟩ := hok.begin fuel
    have hnt : n.toNat = nn := by have := Hnn.out; omega
    rw [hnt] at hf hV0 hrun
    have HR : Hid (∀ (S : List V) (v : V) (e fl : Int), ((o.trap ≠ 0 ∧ S = states ∧ v = V.zero ∧ e = o.trap ∧ fl = o.fuel) ∨ (o.trap = 0 ∧ S = o.sts ∧ v = o.val ∧ e = 0 ∧ fl = o.fuel)) → RunIs m states n args fuel S v e fl) := fun S v e fl h => Or.inr ⟨hok, f, G, o, by rw [hnt]; exact hf, by rw [hnt]; exact hrun, h⟩
    have Hsafe : Hid (o.trap = 0 → Snd o.val ∧ Snds o.sts ∧ (o.sts.length : Int) = (states.length : Int)) := fun h => vm_snd it15_len hok.run (con_snd hok.run) G hV0.hf hV0.lab hV0.hp hV0.f0 hV0.sloc hV0.ll hV0.sstk hV0.ssts hV0.sl hrun h
    have HFn : Hid (FnOk m (states.length : Int) G) := fn_any hok.run (con_snd hok.run) G
    have HV0 : Hid _ := hV0
    have Hpar : Hid ((args.length : Int) = f.params) := hpar
    have Hrun : Hid _ := hrun
    have hc4 : cl15 fuel ≤ 4096 := (cl15_r fuel).2
    have hmx := max0_run fuel
    have hmn := min4096_run fuel
    clear hok hf hV0 hpar hrun hnt HV
    generalize (if fuel < 0 then 0 else fuel) = fl1 at *
    generalize cl15 fuel = fl0 at *
    have hcel : ∀ wr, Below w5.heap.size w5 wr → wr.cell? ⟨w.heap.size, 0, none⟩ = some (.slice ac m.consts.length cc) ∧ wr.cell? ⟨w.heap.size, 1, none⟩ = some (.slice af m.funcs.length cf) ∧ wr.cell? ⟨w1.heap.size, 0, none⟩ = some (.slice as_ states.length cs_) := fun wr hb => by
      have hl0 := (Array.getElem?_eq_some_iff.1 Hx0.out).1
      have hl1 := (Array.getElem?_eq_some_iff.1 Hx1.out).1
      obtain ⟨q0, q1, -⟩ := cells_k2 ((hb.block _ hl0).trans Hx0.out)
      exact ⟨q0, q1, cell_of_one ((hb.block _ hl1).trans Hx1.out)⟩
    have gl0 : w.heap.size < w5.heap.size := (Array.getElem?_eq_some_iff.1 Hx0.out).1
    have gl1 : w1.heap.size < w5.heap.size := (Array.getElem?_eq_some_iff.1 Hx1.out).1
    have hbuild : ∀ (wx : World) (gd : Nat) (a1 : Option Addr) (c1 : Nat), (Instr.build 62 #[(0, .agg #[.slice ac m.consts.length cc, .slice af m.funcs.length cf]), (1, .slice (some ⟨gd, 0, none⟩) 22 22), (2, .slice a1 states.length c1), (3, .int .i64 fl0)]).run Tryz.prog wx = .ok (.agg #[.slice ac m.consts.length cc, .slice af m.funcs.length cf, .slice (some ⟨gd, 0, none⟩) 22 22, .slice a1 states.length c1, .int .i64 fl0]) wx := fun _ _ _ _ => by kernel_rfl
    have HCl : Hid (∀ wx, Below w5.heap.size w5 wx → Calls Tryz.prog 27 #[.slice as_ states.length cs_] wx fun r w' => ∃ a1 c1, r = .returned (.slice a1 states.length c1) ∧ Gv (fun k => k < w5.heap.size ∨ (wx.heap.size ≤ k ∧ k < w'.heap.size)) w' (.slice a1 states.length c1) states ∧ Below wx.heap.size wx w' ∧ ∀ k, (Value.slice a1 states.length c1).ownBlock = some k → wx.heap.size ≤ k ∧ k < w'.heap.size) := fun wx hb => by
      refine (vclone_any (B := fun k => k < w5.heap.size ∨ wx.heap.size ≤ k) (((Hs.out.below Hz.out.2).base (B' := fun k => k < w5.heap.size ∨ wx.heap.size ≤ k) (fun k _ hl => Or.inl hl)).below hb) Hls.out (fun k hk => Or.inr hk)).mono ?_
      rintro r w' ⟨a1, c1, rfl, hG, hb', ho⟩
      refine ⟨a1, c1, rfl, hG.base (fun k hk hl => by rcases hk with hk | hk; exact Or.inl hk; exact Or.inr ⟨hk, hl⟩), hb', fun k e => ⟨ho k e, ?_⟩⟩
      obtain ⟨row, k1, k2, k3⟩ := hG
      exact (k1.lt k e).2
    go_wp2_with fail
    refine wp_region_key (fun a a' w' => ∃ (gk p gd : Nat) (a1 : Option Addr) (c1 : Nat), a' = ((((((((((a.put (some 21) (.agg #[.slice ac m.consts.length cc, .slice af m.funcs.length cf])).put (some 22) (.slice (some ⟨gd, 0, none⟩) 22 22)).put (some 23) (.slice as_ states.length cs_)).put (some 24) (.slice a1 states.length c1)).put (some 25) (.int .i64 fuel)).put (some 26) (.int .i64 fl1)).put (some 27) (.int .i64 fl0)).put (some 28) (.agg #[.slice ac m.consts.length cc, .slice af m.funcs.length cf, .slice (some ⟨gd, 0, none⟩) 22 22, .slice a1 states.length c1, .int .i64 fl0])).put (some 29) (.pointer (some ⟨p, 0, none⟩))).put (some 12) (.pointer (some ⟨gk, 0, none⟩))) ∧ Hid (Mk15 w5.heap.size w5 (.slice ac m.consts.length cc) (.slice af m.funcs.length cf) states fl0 gk p (.slice (some ⟨gd, 0, none⟩) 22 22) a1 c1 w')) ?_ ?_
    · skip
      have hbd : Below w5.heap.size w5 w5.drew := below_drewN w5 1
      refine wpE_begin (S := fun w' => w'.cell? ⟨w.heap.size, 0, none⟩ = some (.slice ac m.consts.length cc) ∧ w'.cell? ⟨w.heap.size, 1, none⟩ = some (.slice af m.funcs.length cf) ∧ w'.cell? ⟨w1.heap.size, 0, none⟩ = some (.slice as_ states.length cs_)) (N := fun j => decide (j < 11)) (by kernel_rfl) ?_
      have hS0 : w5.drew.cell? ⟨w.heap.size, 0, none⟩ = some (.slice ac m.consts.length cc) ∧ w5.drew.cell? ⟨w.heap.size, 1, none⟩ = some (.slice af m.funcs.length cf) ∧ w5.drew.cell? ⟨w1.heap.size, 0, none⟩ = some (.slice as_ states.length cs_) := hcel _ (below_drewN w5 1)
      refine wpE_takeX (some 21) (fun j => [7, 8, 10].contains j) (i := 0) (v := .agg #[.slice ac m.consts.length cc, .slice af m.funcs.length cf]) rfl rfl (by kernel_rfl) (by kernel_rfl) (by kernel_rfl) (by kernel_rfl) (fun j hj => by simp at hj; show j < 11; omega) (fun _ _ _ h => h) rfl (fun w' hS => by obtain ⟨g0, g1, g2⟩ := hS; go_simp) hS0 ?_
      try simp only [Act.put, List.setIfInBounds_toArray, List.set_cons_zero, List.set_cons_succ]
      refine wpE_takeX (some 23) (fun j => [3, 7, 8, 10].contains j) (i := 2) (v := .slice as_ states.length cs_) rfl rfl (by kernel_rfl) (by kernel_rfl) (by kernel_rfl) (by kernel_rfl) (fun j hj => by simp at hj; show j < 11; omega) (fun _ _ _ h => h) rfl (fun w' hS => by obtain ⟨g0, g1, g2⟩ := hS; go_simp) hS0 ?_
      try simp only [Act.put, List.setIfInBounds_toArray, List.set_cons_zero, List.set_cons_succ]
      refine wpE_takeX (some 25) (fun j => [5, 6, 7, 8, 10].contains j) (i := 4) (v := .int .i64 fuel) rfl rfl (by kernel_rfl) (by kernel_rfl) (by kernel_rfl) (by kernel_rfl) (fun j hj => by simp at hj; show j < 11; omega) (fun _ _ _ h => h) rfl (fun w' hS => by obtain ⟨g0, g1, g2⟩ := hS; go_simp) hS0 ?_
      try simp only [Act.put, List.setIfInBounds_toArray, List.set_cons_zero, List.set_cons_succ]
      refine wpE_takeX (some 26) (fun j => [6, 7, 8, 10].contains j) (i := 5) (v := .int .i64 fl1) rfl rfl (by kernel_rfl) (by kernel_rfl) (by kernel_rfl) (by kernel_rfl) (fun j hj => by simp at hj; show j < 11; omega) (fun _ _ _ h => h) rfl (fun w' hS => by obtain ⟨g0, g1, g2⟩ := hS; go_simp) hS0 ?_
      try simp only [Act.put, List.setIfInBounds_toArray, List.set_cons_zero, List.set_cons_succ]
      refine wpE_takeX (some 27) (fun j => [7, 8, 10].contains j) (i := 6) (v := .int .i64 fl0) rfl rfl (by kernel_rfl) (by kernel_rfl) (by kernel_rfl) (by kernel_rfl) (fun j hj => by simp at hj; show j < 11; omega) (fun _ _ _ h => h) rfl (fun w' hS => by obtain ⟨g0, g1, g2⟩ := hS; go_simp) hS0 ?_
      try simp only [Act.put, List.setIfInBounds_toArray, List.set_cons_zero, List.set_cons_succ]
      refine wpE_two (i := 1) (j := 9) (by kernel_rfl) rfl rfl rfl rfl (fun K hK => ?_) (fun K hK => ?_)
      · go_simp
        refine (doings_b _).mono ?_
        rintro r v1 ⟨gd, rfl, hD, hbD⟩
        have hbv1 : Below w5.heap.size w5 v1 := hbd.trans (hbD.mono hbd.size)
        refine hK _ _ (fun _ => hcel _ hbv1) ?_
        clear hK K
        try simp only [Act.put, List.setIfInBounds_toArray, List.set_cons_zero, List.set_cons_succ]
        refine wpE_two (i := 3) (j := 9) (by kernel_rfl) rfl rfl rfl rfl (fun K hK => ?_) (fun K hK => ?_)
        · go_simp
          refine (HCl.out _ hbv1).mono ?_
          rintro r v13 ⟨a1, c1, rfl, hS, hbS, ho⟩
          have hbv13 : Below w5.heap.size w5 v13 := hbv1.trans (hbS.mono hbv1.size)
          refine hK _ _ (fun _ => hcel _ hbv13) ?_
          clear hK K
          try simp only [Act.put, List.setIfInBounds_toArray, List.set_cons_zero, List.set_cons_succ]
          refine wpE_takeX (some 28) (fun j => [8, 10].contains j) (i := 7) (v := .agg #[.slice ac m.consts.length cc, .slice af m.funcs.length cf, .slice (some ⟨gd, 0, none⟩) 22 22, .slice a1 states.length c1, .int .i64 fl0]) rfl rfl (by kernel_rfl) (by kernel_rfl) (by kernel_rfl) (by kernel_rfl) (fun j hj => by simp at hj; show j < 11; omega) (fun _ _ _ h => h) rfl (fun w' hS => by obtain ⟨g0, g1, g2⟩ := hS; go_simp) (hcel _ hbv13) ?_
          try simp only [Act.put, List.setIfInBounds_toArray, List.set_cons_zero, List.set_cons_succ]
          refine wpE_two (i := 8) (j := 9) (by kernel_rfl) rfl rfl rfl rfl (fun K hK => ?_) (fun K hK => ?_)
          · obtain ⟨v138, hWv138, hbM, hsM, hxM⟩ : ∃ w', v13.alloc (.cells #[.slice ac m.consts.length cc, .slice af m.funcs.length cf, .slice (some ⟨gd, 0, none⟩) 22 22, .slice a1 states.length c1, .int .i64 fl0] 62) = w' ∧ Below v13.heap.size v13 w' ∧ v13.heap.size < w'.heap.size ∧ w'.heap[v13.heap.size]? = some (.cells #[.slice ac m.consts.length cc, .slice af m.funcs.length cf, .slice (some ⟨gd, 0, none⟩) 22 22, .slice a1 states.length c1, .int .i64 fl0] 62 (0, 0)) := ⟨_, rfl, (Below.refl _ _).alloc (Nat.le_refl _) _, by simp, heap_new _ _⟩
            have hbv138 : Below w5.heap.size w5 v138 := hbv13.trans (hbM.mono hbv13.size)
            go_simp
            refine hK _ _ (fun _ => hcel _ hbv138) ?_
            clear hK K
            try simp only [Act.put, List.setIfInBounds_toArray, List.set_cons_zero, List.set_cons_succ]
            refine wpE_one (i := 9) (by kernel_rfl) rfl rfl (fun K hK => ?_)
            obtain ⟨v1389, hWv1389, hbK, hsK, hxK⟩ := box1 v138 (.pointer none) 58
            have hbv1389 : Below w5.heap.size w5 v1389 := hbv138.trans (hbK.mono hbv138.size)
            have gk_lt : v138.heap.size < v1389.heap.size := by omega
            clear hsK
            go_simp
            refine hK _ _ (fun _ => hcel _ hbv1389) ?_
            clear hK K
            try simp only [Act.put, List.setIfInBounds_toArray, List.set_cons_zero, List.set_cons_succ]
            replace hD := hD.below hbS
            replace hD := hD.below hbM
            replace hD := hD.below hbK
            replace hS := hS.below hbM
            replace hS := hS.below hbK
            replace hxM := (hbK.block _ (by have := (Array.getElem?_eq_some_iff.1 hxM).1; omega)).trans hxM
            have s1 := hbD.size
            have s3 := hbS.size
            have s8 := hbM.size
            have s9 := hbK.size
            have s0 : w5.heap.size ≤ w5.drew.heap.size := Nat.le_refl _
            
            have hfin : Mk15 w5.heap.size w5 (.slice ac m.consts.length cc) (.slice af m.funcs.length cf) states fl0 v138.heap.size v13.heap.size (.slice (some ⟨gd, 0, none⟩) 22 22) a1 c1 (v1389.setCell ⟨v138.heap.size, 0, none⟩ (.pointer (some ⟨v13.heap.size, 0, none⟩))) := Mk15.of hxK hxM hD hS ho hbv1389 (by omega) (by omega) (by omega) (by omega) (by omega) (by omega) (by omega) (by omega) (by omega) (by omega) (by omega)
            have ck := cell_of_one hxK
            have fk := free_of_one hxK
            have lk : v138.heap.size < v1389.heap.size := (Array.getElem?_eq_some_iff.1 hxK).1
            have hSf : Below w5.heap.size w5 (v1389.setCell ⟨v138.heap.size, 0, none⟩ (.pointer (some ⟨v13.heap.size, 0, none⟩))) := hfin.be
            have Hfin : Hid _ := hfin
            clear hfin hD hS ho hxM hxK
            refine wpE_one (i := 10) (by kernel_rfl) rfl rfl (fun K hK => ?_)
            go_simp
            refine hK _ _ (fun _ => hcel _ hSf) ?_
            clear hK K
            try simp only [Act.put, List.setIfInBounds_toArray, List.set_cons_zero, List.set_cons_succ]
            refine wpE_done (by kernel_rfl) ?_
            exact ⟨_, _, _, _, _, rfl, Hfin⟩
          · obtain ⟨v139, hWv139, hbK, hsK, hxK⟩ := box1 v13 (.pointer none) 58
            have hbv139 : Below w5.heap.size w5 v139 := hbv13.trans (hbK.mono hbv13.size)
            have gk_lt : v13.heap.size < v139.heap.size := by omega
            clear hsK
            go_simp
            refine hK _ _ (fun _ => hcel _ hbv139) ?_
            clear hK K
            try simp only [Act.put, List.setIfInBounds_toArray, List.set_cons_zero, List.set_cons_succ]
            refine wpE_one (i := 8) (by kernel_rfl) rfl rfl (fun K hK => ?_)
            obtain ⟨v1398, hWv1398, hbM, hsM, hxM⟩ : ∃ w', v139.alloc (.cells #[.slice ac m.consts.length cc, .slice af m.funcs.length cf, .slice (some ⟨gd, 0, none⟩) 22 22, .slice a1 states.length c1, .int .i64 fl0] 62) = w' ∧ Below v139.heap.size v139 w' ∧ v139.heap.size < w'.heap.size ∧ w'.heap[v139.heap.size]? = some (.cells #[.slice ac m.consts.length cc, .slice af m.funcs.length cf, .slice (some ⟨gd, 0, none⟩) 22 22, .slice a1 states.length c1, .int .i64 fl0] 62 (0, 0)) := ⟨_, rfl, (Below.refl _ _).alloc (Nat.le_refl _) _, by simp, heap_new _ _⟩
            have hbv1398 : Below w5.heap.size w5 v1398 := hbv139.trans (hbM.mono hbv139.size)
            go_simp
            refine hK _ _ (fun _ => hcel _ hbv1398) ?_
            clear hK K
            try simp only [Act.put, List.setIfInBounds_toArray, List.set_cons_zero, List.set_cons_succ]
            replace hD := hD.below hbS
            replace hD := hD.below hbK
            replace hD := hD.below hbM
            replace hS := hS.below hbK
            replace hS := hS.below hbM
            replace hxK := (hbM.block _ (by have := (Array.getElem?_eq_some_iff.1 hxK).1; omega)).trans hxK
            have s1 := hbD.size
            have s3 := hbS.size
            have s9 := hbK.size
            have s8 := hbM.size
            have s0 : w5.heap.size ≤ w5.drew.heap.size := Nat.le_refl _
            
            have hfin : Mk15 w5.heap.size w5 (.slice ac m.consts.length cc) (.slice af m.funcs.length cf) states fl0 v13.heap.size v139.heap.size (.slice (some ⟨gd, 0, none⟩) 22 22) a1 c1 (v1398.setCell ⟨v13.heap.size, 0, none⟩ (.pointer (some ⟨v139.heap.size, 0, none⟩))) := Mk15.of hxK hxM hD hS ho hbv1398 (by omega) (by omega) (by omega) (by omega) (by omega) (by omega) (by omega) (by omega) (by omega) (by omega) (by omega)
            have ck := cell_of_one hxK
            have fk := free_of_one hxK
            have lk : v13.heap.size < v1398.heap.size := (Array.getElem?_eq_some_iff.1 hxK).1
            have hSf : Below w5.heap.size w5 (v1398.setCell ⟨v13.heap.size, 0, none⟩ (.pointer (some ⟨v139.heap.size, 0, none⟩))) := hfin.be
            have Hfin : Hid _ := hfin
            clear hfin hD hS ho hxM hxK
            refine wpE_one (i := 10) (by kernel_rfl) rfl rfl (fun K hK => ?_)
            go_simp
            refine hK _ _ (fun _ => hcel _ hSf) ?_
            clear hK K
            try simp only [Act.put, List.setIfInBounds_toArray, List.set_cons_zero, List.set_cons_succ]
            refine wpE_done (by kernel_rfl) ?_
            exact ⟨_, _, _, _, _, rfl, Hfin⟩
        · obtain ⟨v19, hWv19, hbK, hsK, hxK⟩ := box1 v1 (.pointer none) 58
          have hbv19 : Below w5.heap.size w5 v19 := hbv1.trans (hbK.mono hbv1.size)
          have gk_lt : v1.heap.size < v19.heap.size := by omega
          clear hsK
          go_simp
          refine hK _ _ (fun _ => hcel _ hbv19) ?_
          clear hK K
          try simp only [Act.put, List.setIfInBounds_toArray, List.set_cons_zero, List.set_cons_succ]
          refine wpE_one (i := 3) (by kernel_rfl) rfl rfl (fun K hK => ?_)
          go_simp
          refine (HCl.out _ hbv19).mono ?_
          rintro r v193 ⟨a1, c1, rfl, hS, hbS, ho⟩
          have hbv193 : Below w5.heap.size w5 v193 := hbv19.trans (hbS.mono hbv19.size)
          refine hK _ _ (fun _ => hcel _ hbv193) ?_
          clear hK K
          try simp only [Act.put, List.setIfInBounds_toArray, List.set_cons_zero, List.set_cons_succ]
          refine wpE_takeX (some 28) (fun j => [8, 10].contains j) (i := 7) (v := .agg #[.slice ac m.consts.length cc, .slice af m.funcs.length cf, .slice (some ⟨gd, 0, none⟩) 22 22, .slice a1 states.length c1, .int .i64 fl0]) rfl rfl (by kernel_rfl) (by kernel_rfl) (by kernel_rfl) (by kernel_rfl) (fun j hj => by simp at hj; show j < 11; omega) (fun _ _ _ h => h) rfl (fun w' hS => by obtain ⟨g0, g1, g2⟩ := hS; go_simp) (hcel _ hbv193) ?_
          try simp only [Act.put, List.setIfInBounds_toArray, List.set_cons_zero, List.set_cons_succ]
          refine wpE_one (i := 8) (by kernel_rfl) rfl rfl (fun K hK => ?_)
          obtain ⟨v1938, hWv1938, hbM, hsM, hxM⟩ : ∃ w', v193.alloc (.cells #[.slice ac m.consts.length cc, .slice af m.funcs.length cf, .slice (some ⟨gd, 0, none⟩) 22 22, .slice a1 states.length c1, .int .i64 fl0] 62) = w' ∧ Below v193.heap.size v193 w' ∧ v193.heap.size < w'.heap.size ∧ w'.heap[v193.heap.size]? = some (.cells #[.slice ac m.consts.length cc, .slice af m.funcs.length cf, .slice (some ⟨gd, 0, none⟩) 22 22, .slice a1 states.length c1, .int .i64 fl0] 62 (0, 0)) := ⟨_, rfl, (Below.refl _ _).alloc (Nat.le_refl _) _, by simp, heap_new _ _⟩
          have hbv1938 : Below w5.heap.size w5 v1938 := hbv193.trans (hbM.mono hbv193.size)
          go_simp
          refine hK _ _ (fun _ => hcel _ hbv1938) ?_
          clear hK K
          try simp only [Act.put, List.setIfInBounds_toArray, List.set_cons_zero, List.set_cons_succ]
          replace hD := hD.below hbK
          replace hD := hD.below hbS
          replace hD := hD.below hbM
          replace hxK := (hbS.block _ (by have := (Array.getElem?_eq_some_iff.1 hxK).1; omega)).trans hxK
          replace hxK := (hbM.block _ (by have := (Array.getElem?_eq_some_iff.1 hxK).1; omega)).trans hxK
          replace hS := hS.below hbM
          have s1 := hbD.size
          have s9 := hbK.size
          have s3 := hbS.size
          have s8 := hbM.size
          have s0 : w5.heap.size ≤ w5.drew.heap.size := Nat.le_refl _
          
          have hfin : Mk15 w5.heap.size w5 (.slice ac m.consts.length cc) (.slice af m.funcs.length cf) states fl0 v1.heap.size v193.heap.size (.slice (some ⟨gd, 0, none⟩) 22 22) a1 c1 (v1938.setCell ⟨v1.heap.size, 0, none⟩ (.pointer (some ⟨v193.heap.size, 0, none⟩))) := Mk15.of hxK hxM hD hS ho hbv1938 (by omega) (by omega) (by omega) (by omega) (by omega) (by omega) (by omega) (by omega) (by omega) (by omega) (by omega)
          have ck := cell_of_one hxK
          have fk := free_of_one hxK
          have lk : v1.heap.size < v1938.heap.size := (Array.getElem?_eq_some_iff.1 hxK).1
          have hSf : Below w5.heap.size w5 (v1938.setCell ⟨v1.heap.size, 0, none⟩ (.pointer (some ⟨v193.heap.size, 0, none⟩))) := hfin.be
          have Hfin : Hid _ := hfin
          clear hfin hD hS ho hxM hxK
          refine wpE_one (i := 10) (by kernel_rfl) rfl rfl (fun K hK => ?_)
          go_simp
          refine hK _ _ (fun _ => hcel _ hSf) ?_
          clear hK K
          try simp only [Act.put, List.setIfInBounds_toArray, List.set_cons_zero, List.set_cons_succ]
          refine wpE_done (by kernel_rfl) ?_
          exact ⟨_, _, _, _, _, rfl, Hfin⟩
      · obtain ⟨v9, hWv9, hbK, hsK, hxK⟩ := box1 w5.drew (.pointer none) 58
        have hbv9 : Below w5.heap.size w5 v9 := hbd.trans (hbK.mono hbd.size)
        have gk_lt : w5.drew.heap.size < v9.heap.size := by omega
        clear hsK
        replace hxK : v9.heap[w5.heap.size]? = some (.cells #[.pointer none] 58 (0, 0)) := hxK
        replace gk_lt : w5.heap.size < v9.heap.size := gk_lt
        go_simp
        refine hK _ _ (fun _ => hcel _ hbv9) ?_
        clear hK K
        try simp only [Act.put, List.setIfInBounds_toArray, List.set_cons_zero, List.set_cons_succ]
        refine wpE_one (i := 1) (by kernel_rfl) rfl rfl (fun K hK => ?_)
        go_simp
        refine (doings_b _).mono ?_
        rintro r v91 ⟨gd, rfl, hD, hbD⟩
        have hbv91 : Below w5.heap.size w5 v91 := hbv9.trans (hbD.mono hbv9.size)
        refine hK _ _ (fun _ => hcel _ hbv91) ?_
        clear hK K
        try simp only [Act.put, List.setIfInBounds_toArray, List.set_cons_zero, List.set_cons_succ]
        refine wpE_one (i := 3) (by kernel_rfl) rfl rfl (fun K hK => ?_)
        go_simp
        refine (HCl.out _ hbv91).mono ?_
        rintro r v913 ⟨a1, c1, rfl, hS, hbS, ho⟩
        have hbv913 : Below w5.heap.size w5 v913 := hbv91.trans (hbS.mono hbv91.size)
        refine hK _ _ (fun _ => hcel _ hbv913) ?_
        clear hK K
        try simp only [Act.put, List.setIfInBounds_toArray, List.set_cons_zero, List.set_cons_succ]
        refine wpE_takeX (some 28) (fun j => [8, 10].contains j) (i := 7) (v := .agg #[.slice ac m.consts.length cc, .slice af m.funcs.length cf, .slice (some ⟨gd, 0, none⟩) 22 22, .slice a1 states.length c1, .int .i64 fl0]) rfl rfl (by kernel_rfl) (by kernel_rfl) (by kernel_rfl) (by kernel_rfl) (fun j hj => by simp at hj; show j < 11; omega) (fun _ _ _ h => h) rfl (fun w' hS => by obtain ⟨g0, g1, g2⟩ := hS; go_simp) (hcel _ hbv913) ?_
        try simp only [Act.put, List.setIfInBounds_toArray, List.set_cons_zero, List.set_cons_succ]
        refine wpE_one (i := 8) (by kernel_rfl) rfl rfl (fun K hK => ?_)
        obtain ⟨v9138, hWv9138, hbM, hsM, hxM⟩ : ∃ w', v913.alloc (.cells #[.slice ac m.consts.length cc, .slice af m.funcs.length cf, .slice (some ⟨gd, 0, none⟩) 22 22, .slice a1 states.length c1, .int .i64 fl0] 62) = w' ∧ Below v913.heap.size v913 w' ∧ v913.heap.size < w'.heap.size ∧ w'.heap[v913.heap.size]? = some (.cells #[.slice ac m.consts.length cc, .slice af m.funcs.length cf, .slice (some ⟨gd, 0, none⟩) 22 22, .slice a1 states.length c1, .int .i64 fl0] 62 (0, 0)) := ⟨_, rfl, (Below.refl _ _).alloc (Nat.le_refl _) _, by simp, heap_new _ _⟩
        have hbv9138 : Below w5.heap.size w5 v9138 := hbv913.trans (hbM.mono hbv913.size)
        go_simp
        refine hK _ _ (fun _ => hcel _ hbv9138) ?_
        clear hK K
        try simp only [Act.put, List.setIfInBounds_toArray, List.set_cons_zero, List.set_cons_succ]
        replace hxK := (hbD.block _ (by have := (Array.getElem?_eq_some_iff.1 hxK).1; omega)).trans hxK
        replace hxK := (hbS.block _ (by have := (Array.getElem?_eq_some_iff.1 hxK).1; omega)).trans hxK
        replace hxK := (hbM.block _ (by have := (Array.getElem?_eq_some_iff.1 hxK).1; omega)).trans hxK
        replace hD := hD.below hbS
        replace hD := hD.below hbM
        replace hS := hS.below hbM
        have s9 := hbK.size
        have s1 := hbD.size
        have s3 := hbS.size
        have s8 := hbM.size
        have s0 : w5.heap.size ≤ w5.drew.heap.size := Nat.le_refl _
        
        have hfin : Mk15 w5.heap.size w5 (.slice ac m.consts.length cc) (.slice af m.funcs.length cf) states fl0 w5.heap.size v913.heap.size (.slice (some ⟨gd, 0, none⟩) 22 22) a1 c1 (v9138.setCell ⟨w5.heap.size, 0, none⟩ (.pointer (some ⟨v913.heap.size, 0, none⟩))) := Mk15.of hxK hxM hD hS ho hbv9138 (by omega) (by omega) (by omega) (by omega) (by omega) (by omega) (by omega) (by omega) (by omega) (by omega) (by omega)
        have ck := cell_of_one hxK
        have fk := free_of_one hxK
        have lk : w5.heap.size < v9138.heap.size := (Array.getElem?_eq_some_iff.1 hxK).1
        have hSf : Below w5.heap.size w5 (v9138.setCell ⟨w5.heap.size, 0, none⟩ (.pointer (some ⟨v913.heap.size, 0, none⟩))) := hfin.be
        have Hfin : Hid _ := hfin
        clear hfin hD hS ho hxM hxK
        refine wpE_one (i := 10) (by kernel_rfl) rfl rfl (fun K hK => ?_)
        go_simp
        refine hK _ _ (fun _ => hcel _ hSf) ?_
        clear hK K
        try simp only [Act.put, List.setIfInBounds_toArray, List.set_cons_zero, List.set_cons_succ]
        refine wpE_done (by kernel_rfl) ?_
        exact ⟨_, _, _, _, _, rfl, Hfin⟩
    · rintro a' w6 ⟨gk, p, gd, a1, c1, rfl, HM⟩
      simp only [Act.put, List.setIfInBounds_toArray, List.set_cons_zero, List.set_cons_succ]
      simp only [Exit.then]
      refine ‹∀ (a : Act) (w : World), _ → _› _ _ ?_
      have hnn := Hnn.out
      clear Hnn
      subst hnn
      have M := HM.out
      obtain ⟨hz1, hz2⟩ := Hz.out
      have hz3 := hz2.size
      have hB6 : Below w.heap.size w w6 := hz2.trans (M.be.mono hz3)
      have hpl := (Array.getElem?_eq_some_iff.1 M.mc).1
      have hkl := (Array.getElem?_eq_some_iff.1 M.kb).1
      have hpl0 := M.pl
      have hA : ∀ k, k < w.heap.size → k ≠ p ∧ (Value.slice a1 states.length c1).ownBlock ≠ some k := fun k hk => ⟨by omega, fun e => by have := M.ow k e; omega⟩
      have hLO : LO w.heap.size w6.heap.size p (fun k => k ≠ p ∧ (Value.slice a1 states.length c1).ownBlock ≠ some k) m (.slice ac m.consts.length cc) (.slice af m.funcs.length cf) (.slice (some ⟨gd, 0, none⟩) 22 22) (.slice a1 states.length c1) states fl0 w6 :=
        ⟨M.mc, (Hm.out.base (fun k _ hk => hA k hk)).below hB6, M.st.base (fun k hk _ => by
          by_cases e : (Value.slice a1 states.length c1).ownBlock = some k
          · exact Or.inr e
          · exact Or.inl ⟨hk.1, e⟩), Ht.out.mono hB6, M.dg, by omega, hpl, Nat.le_refl _, fun k e => by have := M.ow k e; exact ⟨by omega, by omega, by omega⟩, fun h => h.1 rfl, fun k e h => h.2 e, fun k hk => ⟨by omega, fun e => by have := M.ow k e; omega⟩⟩
      have hFn := HFn.out _ _ _ _ _ _ _ _ nn f H args states aa ca fl0 o w6 hLO (RowOf.of ((Ha.out.base (fun k _ hk => hA k hk)).below hB6)) Hpar.out HV0.out hc4 Hrun.out
      have Hlt : Hid (gk < w6.heap.size ∧ p < w6.heap.size) := ⟨hkl, hpl⟩
      have HB6 : Hid (Below w.heap.size w w6) := hB6
      have HA : Hid (∀ k, k < w.heap.size → k ≠ p ∧ (Value.slice a1 states.length c1).ownBlock ≠ some k) := hA
      have ck := cell_of_one M.kb
      clear hLO hA hB6 hz1 hz2 hz3 hpl hpl0 M HFn HV0 Hpar Hrun hc4 hmx hmn hcel gl0 gl1 hbuild HCl
      go_wp2_with fail
      refine hFn.mono ?_
      rintro r w7 ⟨hp0, hp1, hFr⟩
      have M := HM.out
      obtain ⟨hz1, hz2⟩ := Hz.out
      obtain ⟨h1, h2, h3, h4⟩ := Hl.out
      have hpl0 := M.pl
      have hkl0 := M.kl
      have h67 : ∀ k, k < w5.heap.size → w7.heap[k]? = w5.heap[k]? := fun k hk => (hFr.block k ⟨by omega, fun e => by have := M.ow k e; omega⟩ (by have := M.be.size; omega)).trans (M.be.block k hk)
      have hz6 := M.be.size
      have hz7 := hFr.size
      have hB7 : Below w.heap.size w w7 := HB6.out.trans (hFr.below HB6.out.size (fun k hk => HA.out k hk))
      have x7 := (h67 _ (by omega)).trans Hx1.out
      have y7 := (h67 _ (by omega)).trans Hx2.out
      have z7 := (h67 _ (by omega)).trans Hx3.out
      have k7 := (hFr.block gk ⟨M.pk.symm, fun e => (M.ow gk e).2.2.2 rfl⟩ Hlt.out.1).trans M.kb
      by_cases htr : o.trap = 0
      · obtain ⟨ax, cx, rfl, hx7, hO7⟩ := hp0 htr
        obtain ⟨wz, w8, hWz, hW8, hb8, hl8, hx8, hlz, ⟨c0, c1', c2, c3⟩, ⟨f0, f1, f2, f3⟩⟩ := abox w7 (.int .i64 o.val.k) (.int .i64 o.val.n) (.string ⟨o.val.t.toArray⟩) (.slice ax o.val.l.length cx)
        obtain ⟨hs1, hs2, hs3⟩ := Hsafe.out htr
        have hlen : states.length = o.sts.length := by omega
        have hls := Hls.out
        have hst8 : IsVs _ w8 o.sts (.slice a1 states.length c1) := hO7.st.vs.below hb8
        have hCS : Calls Tryz.prog 29 #[.slice a1 states.length c1] w8.drew fun r w' => (∃ a' c', r = .returned (.slice a' states.length c') ∧ GvW (From w8.drew.heap.size) 1000001 w' (.slice a' states.length c') o.sts) ∧ Below w8.drew.heap.size w8.drew w' := by
          rw [hlen] at hst8 ⊢
          exact copiesW_any (hst8.below (below_drewN w8 1)) (fun x hx => by have := (hs2 x hx).1; omega) (by omega)
        have hCV : ∀ w10, Below w8.heap.size w8 w10 → Calls Tryz.prog 32 #[.agg #[.int .i64 o.val.k, .int .i64 o.val.n, .string ⟨o.val.t.toArray⟩, .slice ax o.val.l.length cx]] w10 fun r w' => NewW 1000001 w10 o.val r w' := fun w10 h => copyW_any _ _ _ _ w10 (by have := hs1.1; omega) (by have := hs1.1; omega) ((hx7.below hb8).below h)
        have hB8 : Below w.heap.size w w8 := hB7.trans (hb8.mono hB7.size)
        have hz8 := hb8.size
        have y8 := (hb8.block _ (by omega)).trans y7
        have z8 := (hb8.block _ (by omega)).trans z7
        have k8 := (hb8.block _ (by have := Hlt.out.1; omega)).trans k7
        have m8 : Lm p w8 _ _ _ _ _ := hO7.mc.keep (hb8.block _ hO7.mc.lt)
        have hrcell : ∀ w10, Fr (fun k => k ≠ w2.heap.size ∧ k ≠ w3.heap.size) w8 w10 → w10.cell? ⟨gk, 0, none⟩ = some (.pointer (some ⟨p, 0, none⟩)) ∧ w10.cell? ⟨p, 3, none⟩ = some (.slice a1 states.length c1) ∧ w10.cell? ⟨p, 4, none⟩ = some (.int .i64 o.fuel) ∧ w10.cell? ⟨w7.heap.size, 0, none⟩ = some (.int .i64 o.val.k) ∧ w10.cell? ⟨w7.heap.size, 1, none⟩ = some (.int .i64 o.val.n) ∧ w10.cell? ⟨w7.heap.size, 2, none⟩ = some (.string ⟨o.val.t.toArray⟩) ∧ w10.cell? ⟨w7.heap.size, 3, none⟩ = some (.slice ax o.val.l.length cx) := fun w10 h => by
          have hg := (h.block gk ⟨by omega, by omega⟩ (by have := Hlt.out.1; omega)).trans k8
          have hp := (h.block p ⟨by omega, by omega⟩ m8.lt).trans m8
          have hv := (h.block w7.heap.size ⟨by omega, by omega⟩ (by omega)).trans hx8
          obtain ⟨-, -, -, p3, p4, -⟩ := cells_k5 hp
          obtain ⟨v0, v1, v2, v3, -⟩ := cells_of4 hv
          exact ⟨cell_of_one hg, p3, p4, v0, v1, v2, v3⟩
        have HZ : Hid (∀ (w10 : World) (a10 : Option Addr) (c10 : Nat) (w11 : World) (a11 : Option Addr) (c11 : Nat), Below w8.heap.size w8 w10 → GvW (From w8.heap.size) 1000001 w10 (.slice a10 states.length c10) o.sts → Below w10.heap.size w10 w11 → IsW (From w10.heap.size) w11 o.val (.slice a11 o.val.l.length c11) → Wf (From w10.heap.size) 1000001 w11 (.slice a11 o.val.l.length c11) →
            ∃ wM wN, w11.setCell ⟨w2.heap.size, 0, none⟩ (.slice a10 states.length c10) = wM ∧ (((((wM.setCell ⟨w3.heap.size, 0, none⟩ (.int .i64 o.val.k)).setCell ⟨w3.heap.size, 1, none⟩ (.int .i64 o.val.n)).setCell ⟨w3.heap.size, 2, none⟩ (.string ⟨o.val.t.toArray⟩)).setCell ⟨w3.heap.size, 3, none⟩ (.slice a11 o.val.l.length c11)).setCell ⟨w3.heap.size, 4, none⟩ (.int .i64 0)).setCell ⟨w3.heap.size, 5, none⟩ (.int .i64 o.fuel) = wN ∧ w11.heap[w2.heap.size]? = some (slO (.slice none 0 0)) ∧ wM.heap[w3.heap.size]? = some (ouO (.int .i64 0) (.int .i64 0) (.string ⟨#[]⟩) (.slice none 0 0) (.int .i64 0) (.int .i64 0)) ∧ wN.heap[w2.heap.size]? = some (slO (.slice a10 states.length c10)) ∧ wN.heap[w3.heap.size]? = some (ouO (.int .i64 o.val.k) (.int .i64 o.val.n) (.string ⟨o.val.t.toArray⟩) (.slice a11 o.val.l.length c11) (.int .i64 0) (.int .i64 o.fuel)) ∧ Fr (fun k => k ≠ w2.heap.size ∧ k ≠ w3.heap.size) w8 wM ∧ Fr (fun k => k ≠ w2.heap.size ∧ k ≠ w3.heap.size) w8 wN ∧ RunPostW m states nn args fuel w (.returned (.tuple #[.slice a10 states.length c10, .agg #[.int .i64 o.val.k, .int .i64 o.val.n, .string ⟨o.val.t.toArray⟩, .slice a11 o.val.l.length c11, .int .i64 0, .int .i64 o.fuel]])) wN) := fun w10 a10 c10 w11 a11 c11 h1' h2' h3' h4' h5' => by
          have h13 : Below w8.heap.size w8 w11 := h1'.trans (h3'.mono h1'.size)
          have s13 := h13.size
          have s1 := h1'.size
          have s3 := h3'.size
          have xo := (h13.block _ (by omega)).trans y8
          have xt := (h13.block _ (by omega)).trans z8
          have hFM : Fr (fun k => k ≠ w2.heap.size) w11 (w11.setCell ⟨w2.heap.size, 0, none⟩ (.slice a10 states.length c10)) := Fr.set (by simp) _ _
          have xM : (w11.setCell ⟨w2.heap.size, 0, none⟩ (.slice a10 states.length c10)).heap[w2.heap.size]? = some (slO (.slice a10 states.length c10)) := by simp [World.setCell, Array.getElem?_modify, xo]
          obtain ⟨wM, hWM⟩ : ∃ wM, w11.setCell ⟨w2.heap.size, 0, none⟩ (.slice a10 states.length c10) = wM := ⟨_, rfl⟩
          rw [hWM] at hFM xM
          have tM := (hFM.block w3.heap.size (by show _ ≠ _; omega) (by omega)).trans xt
          obtain ⟨wN, hWN, tN, hFN⟩ := res6F tM (.int .i64 o.val.k) (.int .i64 o.val.n) (.string ⟨o.val.t.toArray⟩) (.slice a11 o.val.l.length c11) (.int .i64 0) (.int .i64 o.fuel)
          have hF8M : Fr (fun k => k ≠ w2.heap.size ∧ k ≠ w3.heap.size) w8 wM := (Fr.of_below h13).trans (hFM.mono (fun k hk => hk.1))
          have hF8N : Fr (fun k => k ≠ w2.heap.size ∧ k ≠ w3.heap.size) w8 wN := hF8M.trans (hFN.mono (fun k hk => hk.2))
          have hF1N : Fr (fun k => k ≠ w2.heap.size ∧ k ≠ w3.heap.size) w11 wN := (hFM.mono (fun k hk => hk.1)).trans (hFN.mono (fun k hk => hk.2))
          have sN := hF1N.size
          have hsn : ∀ a b, w8.heap.size ≤ a → Since (Rg a b) w11 wN := fun a b ha => ⟨hF1N.size, fun k hk hl => hF1N.block k (by have : a ≤ k ∧ k < b := hk; exact ⟨by omega, by omega⟩) hl⟩
          refine ⟨wM, wN, hWM, hWN, xo, tM, (hFN.block _ (by show _ ≠ _; omega) (Array.getElem?_eq_some_iff.1 xM).1).trans xM, tN, hF8M, hF8N, o.sts, o.val, 0, o.fuel, a10, c10, a11, c11, w10.heap.size, by rw [hlen], HR.out _ _ _ _ (Or.inr ⟨htr, rfl, rfl, rfl, rfl⟩), by have := hB8.size; omega, by omega, ?_, ?_, ?_, ?_, hB8.trans (hF8N.below (by have := hB8.size; omega) (fun k hk => ⟨by omega, by omega⟩))⟩
          · rw [← hlen]
            exact (((h2'.gv.vs.base (B' := Rg w8.heap.size w10.heap.size) (fun k hk hl => ⟨hk, hl⟩)).below h3').since (hsn _ _ (Nat.le_refl _))).base (fun k hk _ => ⟨by have := hB8.size; have := hk.1; omega, hk.2⟩)
          · rw [← hlen]
            exact ((((h2'.wf (by omega)).base (P' := Rg w8.heap.size w10.heap.size) (fun k hk hl => ⟨hk, hl⟩)).below h3').since (hsn _ _ (Nat.le_refl _))).base (fun k hk _ => ⟨by have := hB8.size; have := hk.1; omega, hk.2⟩)
          · exact ((h4'.base (B' := Rg w10.heap.size w11.heap.size) (fun k hk hl => ⟨hk, hl⟩)).since (hsn _ _ s1)).base (fun k hk hl => ⟨hk.1, hl⟩)
          · exact ((h5'.base (P' := Rg w10.heap.size w11.heap.size) (fun k hk hl => ⟨hk, hl⟩)).since (hsn _ _ s1)).base (fun k hk hl => ⟨hk.1, hl⟩)
        obtain ⟨i0, i1, i2, i3, i4, i5, i6⟩ := hrcell w8 (Fr.refl _ _)
        have hbuild : ∀ (wx : World) (a11 : Option Addr) (c11 : Nat), (Instr.build 35 #[(0, .agg #[.int .i64 o.val.k, .int .i64 o.val.n, .string ⟨o.val.t.toArray⟩, .slice a11 o.val.l.length c11]), (2, .int .i64 o.fuel)]).run Tryz.prog wx = .ok (.agg #[.int .i64 o.val.k, .int .i64 o.val.n, .string ⟨o.val.t.toArray⟩, .slice a11 o.val.l.length c11, .int .i64 0, .int .i64 o.fuel]) wx := fun _ _ _ => by kernel_rfl
        clear hp0 hp1 hFr M hz1 hz2 h1 h2 h3 h4 hpl0 hkl0 h67 hz6 hz7 hB7 x7 y7 z7 k7 htr hx7 hO7 hs1 hs2 hs3 hlen hls hst8 hB8 hz8 y8 z8 k8 m8 hx8 hb8 HM HA HB6 Hlt Hx0 Hx1 Hx2 Hx3 Hz Hl Hm Hs Ha Hws Ht Hls HR Hsafe ck
        go_wp2_with fail
        go_region_held3 (fun w' => w'.cell? ⟨gk, 0, none⟩ = some (.pointer (some ⟨p, 0, none⟩)) ∧ w'.cell? ⟨p, 3, none⟩ = some (.slice a1 states.length c1) ∧ w'.cell? ⟨p, 4, none⟩ = some (.int .i64 o.fuel) ∧ w'.cell? ⟨w7.heap.size, 0, none⟩ = some (.int .i64 o.val.k) ∧ w'.cell? ⟨w7.heap.size, 1, none⟩ = some (.int .i64 o.val.n) ∧ w'.cell? ⟨w7.heap.size, 2, none⟩ = some (.string ⟨o.val.t.toArray⟩) ∧ w'.cell? ⟨w7.heap.size, 3, none⟩ = some (.slice ax o.val.l.length cx)) (go_keep)
          ((first | (go_at_call 29; refine hCS.mono ?_; rintro e w10 ⟨⟨a10, c10, rfl, hG10⟩, hb10⟩; replace hb10 := below_undrew hb10; replace hG10 : GvW (From w8.heap.size) 1000001 w10 (.slice a10 states.length c10) o.sts := hG10; obtain ⟨q0, q1, q2, q3, q4, q5, q6⟩ := hrcell w10 (Fr.of_below hb10)) | (go_at_call 32; refine (hCV _ hb10).mono ?_; rintro e w11 ⟨⟨a11, c11, rfl, hx11, hf11⟩, hb11⟩; have hb19 := hb10.trans (hb11.mono hb10.size); obtain ⟨t0, t1, t2, t3, t4, t5, t6⟩ := hrcell w11 (Fr.of_below hb19); obtain ⟨wM, wN, hWM, hWN, xo, tM, xoN, tN, hFM, hFN, hfin⟩ := HZ.out w10 a10 c10 w11 a11 c11 hb10 hG10 hb11 hx11 hf11; have o0 := cell_of_one xo; have o1 := free_of_one xo; have o2 : w2.heap.size < w11.heap.size := (Array.getElem?_eq_some_iff.1 xo).1; obtain ⟨b0, b1, b2, b3, b4, b5, bl⟩ := cells_k6 tM; obtain ⟨v0, v1, v2, v3, v4, v5⟩ := fz6 tM; obtain ⟨m0, m1, m2, m3, m4, m5, m6⟩ := hrcell wM hFM; obtain ⟨n0, n1, n2, n3, n4, n5, n6⟩ := hrcell wN hFN)))
        obtain ⟨d0, d1, d2, d3, d4, d5, l2⟩ := cells_k6 tN
        have d6 := cell_of_one xoN
        have l3 : w2.heap.size < wN.heap.size := (Array.getElem?_eq_some_iff.1 xoN).1
        have Hfin : Hid _ := hfin
        clear hfin HZ hrcell hCV hCS
        go_wp2_with fail
        refine leaves_cons (f := 28) (args := #[.pointer (some ⟨w1.heap.size, 0, none⟩), .pointer (some ⟨gk, 0, none⟩), .pointer (some ⟨w2.heap.size, 0, none⟩), .pointer (some ⟨w3.heap.size, 0, none⟩)]) (by simp) (by simp [go_sem]) ?_
        refine (run1_idle _ _ _ _ _).mono ?_
        rintro e u' w'' ⟨rfl, rfl, rfl⟩
        exact ⟨.tuple #[.slice a10 states.length c10, .agg #[.int .i64 o.val.k, .int .i64 o.val.n, .string ⟨o.val.t.toArray⟩, .slice a11 o.val.l.length c11, .int .i64 0, .int .i64 o.fuel]], by simp [results, Tryz.results11, go_sem, d0, d1, d2, d3, d4, d5, d6, l2, l3], Hfin.out⟩
      · obtain ⟨rfl, hm7⟩ := hp1 htr
        refine leaves_cons (f := 28) (args := #[.pointer (some ⟨w1.heap.size, 0, none⟩), .pointer (some ⟨gk, 0, none⟩), .pointer (some ⟨w2.heap.size, 0, none⟩), .pointer (some ⟨w3.heap.size, 0, none⟩)]) (by simp) (by simp [go_sem]) ?_
        have hl7 : IsVs (fun k => k < w.heap.size) w7 states (.slice as_ states.length cs_) := (Hs.out.base (fun k _ hk => hk)).since ⟨hB7.size, fun k hk _ => hB7.block k hk⟩
        refine (run1_thrown (n0 := w.heap.size) x7 k7 y7 z7 hm7 hl7 Hws.out Hls.out (by omega) (by omega) (by omega) (by omega) (by omega) (by omega) (by omega) (by omega) (by omega)).mono ?_
        rintro e u' w8 ⟨rfl, rfl, a', c', xo, xt, hIs, hWf, hb8⟩
        obtain ⟨d0, d1, d2, d3, d4, d5, l2⟩ := cells_k6 xt
        have d6 := cell_of_one xo
        have l3 : w2.heap.size < w8.heap.size := (Array.getElem?_eq_some_iff.1 xo).1
        have hz8 := hb8.size
        have hfin : RunPostW m states nn args fuel w (.returned (.tuple #[.slice a' states.length c', .agg #[.int .i64 0, .int .i64 0, .string ⟨#[]⟩, .slice none 0 0, .int .i64 o.trap, .int .i64 o.fuel]])) w8 :=
          ⟨states, V.zero, o.trap, o.fuel, a', c', none, 0, w8.heap.size, rfl, HR.out _ _ _ _ (Or.inl ⟨htr, rfl, rfl, rfl, rfl⟩), (hB7.trans hb8).size, Nat.le_refl _, hIs.base (fun k hk hl => ⟨by have hk' : w7.heap.size ≤ k := hk; have := hB7.size; omega, hl⟩), hWf.base (fun k hk hl => ⟨by have hk' : w7.heap.size ≤ k := hk; have := hB7.size; omega, hl⟩), zero_isW, Wf.nil (Nat.zero_le _), hB7.trans hb8⟩
        exact ⟨.tuple #[.slice a' states.length c', .agg #[.int .i64 0, .int .i64 0, .string ⟨#[]⟩, .slice none 0 0, .int .i64 o.trap, .int .i64 o.fuel]], by simp [results, Tryz.results11, go_sem, d0, d1, d2, d3, d4, d5, d6, l2, l3], hfin⟩
end Go.Proofs.YtnijcolomoobnaaGreatDoor
