/- Texts of ours, joined: Sk, Ozb. -/
import Derived.Test.YtnijcolomoobnaaGreatDoorK28
import Derived.Test.YtnijcolomoobnaaGreatDoorK29
import Derived.Test.YtnijcolomoobnaaGreatDoorK16
import Derived.Test.YtnijcolomoobnaaGreatDoorK17
namespace Go.Proofs.YtnijcolomoobnaaGreatDoor
open Go.RowKit
set_option linter.unusedVariables false
set_option linter.unusedSimpArgs false
attribute [local go_sem ↓] Go.wp_at_zero Go.wp_at_succ

structure LO (base lo p : Nat) (A : Nat → Prop) (m : Md) (cs fs ds ss : Value) (sts : List V) (fl : Int) (w : World) : Prop where
  mc : Lm p w cs fs ds ss fl
  md : IsMd A w m cs fs
  st : Rw A w ss sts
  tb : Tb15 base w
  dg : Dg lo p ss ds w
  bp : base ≤ p
  pl : p < lo
  ls : lo ≤ w.heap.size
  bs : ∀ k, ss.ownBlock = some k → base ≤ k ∧ k < lo ∧ k ≠ p
  np : ¬ A p
  ns : ∀ k, ss.ownBlock = some k → ¬ A k
  hi : ∀ k, w.heap.size ≤ k → A k
def FnPost (base lo p : Nat) (A : Nat → Prop) (m : Md) (cs fs ds ss : Value) (o : VOut) (w : World) (r : Ending) (w' : World) : Prop :=
  (o.trap = 0 → ∃ ax cx, r = .returned (.agg #[.int .i64 o.val.k, .int .i64 o.val.n, .string ⟨o.val.t.toArray⟩, .slice ax o.val.l.length cx]) ∧ IsW A w' o.val (.slice ax o.val.l.length cx) ∧ LO base lo p A m cs fs ds ss o.sts o.fuel w') ∧ (o.trap ≠ 0 → r = .panicked (thrownT o.trap) ∧ Lm p w' cs fs ds ss o.fuel) ∧ Fr (fun k => k ≠ p ∧ ss.ownBlock ≠ some k) w w'
def FnOk (m : Md) (states : Int) (G : Nat) : Prop := ∀ (base lo p : Nat) (A : Nat → Prop) (cs fs ds ss : Value) (n : Nat) (f : Fu) (H : Nat → Option Int) (args sts : List V) (aa : Option Addr) (ca : Nat) (fl : Int) (o : VOut) (w : World), LO base lo p A m cs fs ds ss sts fl w → RowOf A w args aa ca → (args.length : Int) = f.params → Vst m states n f H 0 (loc0 f args) [] sts fl → fl ≤ 4096 → vmRun it15 m G n 0 (loc0 f args) [] sts fl = some o →
  Calls Tryz.prog 31 #[.pointer (some ⟨p, 0, none⟩), .int .i64 (n : Int), .slice aa args.length ca] w (FnPost base lo p A m cs fs ds ss o w)
section
variable {e : En} {P : Nat → Prop} {ks : Value} {loc stk sts s : List V} {fl : Int} {q : Nat} {dn : Bool} {x y z u : V} {xs : Value} {w w' w2 : World} {q' : Int}
theorem LS.out (h : LS e P ks loc stk sts fl q' dn x xs w) : LO e.base e.lo e.p P e.m e.cs e.fs e.ds e.ss sts fl w :=
  ⟨h.mc, h.md, h.st, h.tb, h.dg, h.bp, h.pl, by have := h.lb; have := h.fr.lt; omega, h.bs, h.np, h.ns, h.hi⟩
theorem LS.back {sts' : List V} {fl' : Int} (h : LS e P ks loc stk sts fl q' dn x xs w) (hf : Fr (fun k => k ≠ e.p ∧ e.ss.ownBlock ≠ some k) w w') (ho : LO e.base e.lo e.p P e.m e.cs e.fs e.ds e.ss sts' fl' w') : LS e P ks loc stk sts' fl' q' dn x xs w' := by
  have hpl := h.pl
  have hlb := h.lb
  have hP : ∀ k, P k → k ≠ e.p ∧ e.ss.ownBlock ≠ some k := fun k hk => ⟨fun e1 => h.np (e1 ▸ hk), fun e1 => h.ns k e1 hk⟩
  have hlo : ∀ k, e.lo ≤ k → k ≠ e.p ∧ e.ss.ownBlock ≠ some k := fun k hk => ⟨by omega, fun e1 => by have := (h.bs k e1).2.1; omega⟩
  have hrow : ∀ {sl : Value} {l : List V}, Rw P w sl l → (∀ k, sl.ownBlock = some k → e.lo ≤ k) → Rw P w' sl l := fun {sl l} hr hl => hr.since ⟨hf.size, fun k hk hh => hf.block k (by
    rcases hk with hk | hk
    · exact hP k hk
    · exact hlo k (hl k hk)) hh⟩
  exact ⟨ho.mc, h.fr.keep (hf.block _ (hlo _ hlb) h.fr.lt), ho.md, ho.st, hrow h.lc (fun k e1 => (h.ll k e1).1), hrow h.sk (fun k e1 => (h.lk k e1).1), ho.tb, ho.dg, h.bp, h.pl, h.bs, h.lb, h.ll, h.lk, h.np, h.nb, h.ns, h.nl, h.nk, h.pa, ho.hi⟩
theorem Rw.popped {v : List V} {ak : Option Addr} {n ck : Nat} (h : Rw P w (.slice ak n ck) (s ++ v)) : RowOf P w v (cutA ak s.length ck) (ck - s.length) := by
  obtain ⟨row, h1, h2, h3⟩ := h
  have hP := h3.base (B' := P) (fun k hk _ => by rcases hk.1 with h | h; exact h; exact absurd h hk.2)
  have h4 := (hP.len_take (i := s.length) (by simp)).2
  rw [List.drop_left' rfl] at h4
  refine ⟨row.drop (s.length * 4), h4.len, h4, ?_, ?_⟩
  · intro hn
    unfold cutA at hn
    rcases h1.2 with ⟨e0, h0⟩ | ⟨g, cap, cur, e0, -⟩
    · simp only [Value.slice.injEq] at e0
      simp at h0
      exact ⟨by simp [h0.2], by omega⟩
    · simp only [Value.slice.injEq] at e0
      obtain ⟨rfl, -⟩ := e0
      split at hn <;> cases hn
  · intro b hb j u hu
    rcases h1.2 with ⟨e0, h0⟩ | ⟨g, cap, cur, e0, k1, k2, k3, k4, k5, k6⟩
    · have hl := h3.len
      rw [h0] at hl
      have : row = [] := List.eq_nil_of_length_eq_zero (by omega)
      rw [this] at hu
      simp at hu
    · simp only [Value.slice.injEq] at e0
      obtain ⟨rfl, -, rfl⟩ := e0
      have hlt := (List.getElem?_eq_some_iff.1 hu).1
      rw [List.length_drop, h3.len] at hlt
      rw [cutA_some (by simp at k3; simp at hlt; omega)] at hb
      obtain rfl := Option.some.inj hb
      have e1 : (⟨g, s.length * 4, none⟩ : Addr).add j = ⟨g, s.length * 4 + j, none⟩ := by simp [Addr.add]
      rw [e1, cell_block k2]
      rw [List.getElem?_drop, ← k6, List.getElem?_take] at hu
      split at hu
      · simpa using hu
      · cases hu
theorem add_block (b : Addr) (j : Nat) : (b.add j).block = b.block := by unfold Addr.add; split <;> rfl
theorem RowOf.since {l : List V} {a : Option Addr} {c : Nat} {g : Nat} (h : RowOf P w l a c) (hf : Fr (fun k => k ≠ g) w w') (hg : ¬ P g) (ha : ∀ b, a = some b → b.block ≠ g) : RowOf P w' l a c := by
  obtain ⟨nrow, h1, h2, h3, h4⟩ := h
  exact ⟨nrow, h1, h2.since ⟨hf.size, fun k hk hl => hf.block k (fun e1 => hg (e1 ▸ hk)) hl⟩, h3, fun b e1 j u hu => by rw [World.cell?_of_block (hf.block _ (by show (b.add j).block ≠ g; rw [add_block]; exact ha b e1) (cell_lt (h4 b e1 j u hu)))]; exact h4 b e1 j u hu⟩
def callR (o : VOut) (q : Nat) (loc s : List V) : Rs := if o.trap ≠ 0 then .trap o.trap o.fuel else .go q loc (s ++ [o.val]) o.sts o.fuel
set_option maxRecDepth 100000 in
set_option maxHeartbeats 4000000 in
theorem do_call_few {k : Nat} {f' : Fu} {v : List V} (h : LS e P ks loc (s ++ v) sts fl q false V.zero (.slice none 0 0) w) (hf' : e.m.funcs[k]? = some f') (hv : (v.length : Int) = f'.params) (hfl : fl < 1) : Calls Tryz.prog 49 #[.pointer (some ⟨e.b, 0, none⟩), .int .i64 (k : Int)] w (StP e w (.trap 54 0)) := by
  obtain ⟨ak, ck, hks, hck, hcm⟩ := h.sk.slice
  have hlen : (s ++ v).length = s.length + v.length := by simp
  rw [hlen] at hks hck
  subst hks
  have hC := fpops_any (d := v.length) (j := s.length) h.fr hck hcm rfl
  have hF1 : Fr (fun k => k ≠ e.b) w (w.setCell ⟨e.b, 2, none⟩ (.slice ak s.length ck)) := Fr.set (by simp) _ _
  have h1 := h.cut (j := s.length) (by simp) hF1 (h.fr.setK _)
  rw [List.take_left' rfl] at h1
  obtain ⟨af, cf, hfs, hcf1, hcf2⟩ := h.md.fun_.slice
  have hfun := h.md.fun_
  rw [hfs] at hfun
  obtain ⟨g, o, ac, cc, rfl, -, hg, p0, p1, p2, p3, p4, -⟩ := hfun.get hf'
  obtain ⟨b0, -⟩ := h.fr.cells
  obtain ⟨-, m1, -⟩ := cells_k5 h.mc
  rw [hfs] at m1
  rw [← hv] at p0
  have hlt := (List.getElem?_eq_some_iff.1 hf').1
  have hI : (k : Int) < (e.m.funcs.length : Int) := by omega
  have hI0 : (0 : Int) ≤ (k : Int) := by omega
  have hbl := h.fr.lt
  have hml := h.mc.lt
  obtain ⟨c0, -⟩ := h1.fr.cells
  have hbl1 := h1.fr.lt
  have hCh := charge_few h1.mc (n := 1) hfl
  have hfin : Hid (StP e w (.trap 54 0) (.panicked (thrownT 54)) ((w.setCell ⟨e.b, 2, none⟩ (.slice ak s.length ck)).setCell ⟨e.p, 4, none⟩ (.int .i64 0))) := ⟨rfl, h1.mc.set 0, (h.fxb hF1).trans (h1.fxp (Fr.set (by simp) _ _))⟩
  clear h h1 hfun hfs hF1 hf' hlen hlt hv hck hcf1 hcf2 p1 p2 p3 p4
  generalize e.m.funcs.length = L at *
  generalize cutA ak s.length ck = aj at *
  generalize ck - s.length = cj at *
  generalize w.setCell ⟨e.b, 2, none⟩ (.slice ak s.length ck) = w1 at *
  generalize v.length = vl at *
  go_enter Tryz.func49, Tryz.ntmps49
  go_wp2_with fail
  refine hC.mono ?_
  rintro r w3 ⟨rfl, hw⟩
  subst hw
  clear hC
  go_wp2_with fail
  refine hCh.mono ?_
  rintro r w4 ⟨rfl, rfl⟩
  exact ⟨rfl, hfin.out⟩
set_option maxRecDepth 100000 in
set_option maxHeartbeats 4000000 in
theorem do_call {states : Int} {G : Nat} (hFn : FnOk e.m states G) {k : Nat} {f' : Fu} {H' : Nat → Option Int} {v : List V} {o : VOut} (h : LS e P ks loc (s ++ v) sts fl q false V.zero (.slice none 0 0) w) (hf' : e.m.funcs[k]? = some f') (hv : (v.length : Int) = f'.params) (hfl : ¬ fl < 1) (hfl2 : fl ≤ 4096) (hV : Vst e.m states k f' H' 0 (loc0 f' v) [] sts (fl - 1)) (hrun : vmRun it15 e.m G k 0 (loc0 f' v) [] sts (fl - 1) = some o) (hn : s.length + 1 ≤ 900000) : Calls Tryz.prog 49 #[.pointer (some ⟨e.b, 0, none⟩), .int .i64 (k : Int)] w (StP e w (callR o q loc s)) := by
  obtain ⟨ak, ck, hks, hck, hcm⟩ := h.sk.slice
  have hlen : (s ++ v).length = s.length + v.length := by simp
  rw [hlen] at hks hck
  subst hks
  have hC := fpops_any (d := v.length) (j := s.length) h.fr hck hcm rfl
  have hF1 : Fr (fun k => k ≠ e.b) w (w.setCell ⟨e.b, 2, none⟩ (.slice ak s.length ck)) := Fr.set (by simp) _ _
  have h1 := h.cut (j := s.length) (by simp) hF1 (h.fr.setK _)
  rw [List.take_left' rfl] at h1
  have hR0 := Rw.popped h.sk
  have hab : ∀ b, cutA ak s.length ck = some b → b.block ≠ e.b ∧ b.block ≠ e.p := fun b hb => by
    rcases ak with _ | ⟨g, o, sp⟩
    · unfold cutA at hb; split at hb <;> cases hb
    · have hg : (Value.slice (some ⟨g, o, sp⟩) (s.length + v.length) ck).ownBlock = some g := rfl
      have e1 : b.block = g := by
        unfold cutA at hb
        split at hb
        · cases hb; rfl
        · simp [Addr.add] at hb; subst hb; split <;> rfl
      have := h.lk g hg
      have hpl := h.pl
      exact ⟨by rw [e1]; exact this.2.1, by rw [e1]; omega⟩
  have hR1 := hR0.since hF1 h.nb (fun b hb => (hab b hb).1)
  have hF2 : Fr (fun k => k ≠ e.p) (w.setCell ⟨e.b, 2, none⟩ (.slice ak s.length ck)) ((w.setCell ⟨e.b, 2, none⟩ (.slice ak s.length ck)).setCell ⟨e.p, 4, none⟩ (.int .i64 (fl - 1))) := Fr.set (by simp) _ _
  have h2 := h1.fuel hF2 (h1.mc.set (fl - 1))
  have hR2 := hR1.since hF2 h.np (fun b hb => (hab b hb).2)
  have hFnC := hFn _ _ _ _ _ _ _ _ k f' H' v sts _ _ (fl - 1) o _ h2.out hR2 hv hV (by omega) hrun
  obtain ⟨af, cf, hfs, hcf1, hcf2⟩ := h.md.fun_.slice
  have hfun := h.md.fun_
  rw [hfs] at hfun
  obtain ⟨g, oo, ac, cc, rfl, -, hg, p0, p1, p2, p3, p4, -⟩ := hfun.get hf'
  obtain ⟨b0, -⟩ := h.fr.cells
  obtain ⟨-, m1, -⟩ := cells_k5 h.mc
  rw [hfs] at m1
  rw [← hv] at p0
  have hlt := (List.getElem?_eq_some_iff.1 hf').1
  have hI : (k : Int) < (e.m.funcs.length : Int) := by omega
  have hI0 : (0 : Int) ≤ (k : Int) := by omega
  have hbl := h.fr.lt
  have hml := h.mc.lt
  obtain ⟨c0, -⟩ := h1.fr.cells
  have hbl1 := h1.fr.lt
  obtain ⟨d0, -⟩ := h2.fr.cells
  have hbl2 := h2.fr.lt
  have hCh := charge_ok h1.mc (n := 1) hfl (by omega) hfl2
  have HX : Hid (Fx e w ((w.setCell ⟨e.b, 2, none⟩ (.slice ak s.length ck)).setCell ⟨e.p, 4, none⟩ (.int .i64 (fl - 1)))) := (h.fxb hF1).trans (h1.fxp hF2)
  have Hpl : Hid (e.p < e.lo ∧ ∀ k, e.ss.ownBlock = some k → k < e.lo) := ⟨h.pl, fun k e1 => (h.bs k e1).2.1⟩
  have H2 : Hid _ := h2
  clear h h1 h2 hfun hF1 hF2 hf' hlen hlt hR0 hR1 hR2 hab hV hrun hFn hv hck hcf1 hcf2 p1 p2 p3 p4 hfs
  generalize e.m.funcs.length = L at *
  generalize cutA ak s.length ck = aj at *
  generalize ck - s.length = cj at *
  generalize (w.setCell ⟨e.b, 2, none⟩ (.slice ak s.length ck)).setCell ⟨e.p, 4, none⟩ (.int .i64 (fl - 1)) = w2 at *
  generalize w.setCell ⟨e.b, 2, none⟩ (.slice ak s.length ck) = w1 at *
  generalize v.length = vl at *
  go_enter Tryz.func49, Tryz.ntmps49
  go_wp2_with fail
  refine hC.mono ?_
  rintro r w3 ⟨rfl, hw⟩
  subst hw
  clear hC
  go_wp2_with fail
  refine hCh.mono ?_
  rintro r w4 ⟨rfl, hw⟩
  subst hw
  clear hCh
  go_wp2_with fail
  refine hFnC.mono ?_
  rintro r w5 ⟨hp1, hp2, hp3⟩
  clear hFnC
  have hfx : Fx e w w5 := HX.out.trans (hp3.mono (fun k hk => hk.2))
  by_cases ht : o.trap = 0
  · obtain ⟨ax, cx, rfl, hx5, hLO⟩ := hp1 ht
    have h5 := H2.out.back hp3 hLO
    have hP := fpush_any h5 hx5 hn
    have HP : ∀ r w', _ → StP e w (callR o q loc s) r w' := fun r w' hp => by
      unfold callR
      rw [if_neg (by simp [ht])]
      exact StP.push h5 hfx hp
    replace HP : Hid _ := HP
    clear hp1 hp2 hp3 hfx h5 hLO hx5 HX H2 Hpl ht
    go_wp2_with fail
    refine hP.mono ?_
    rintro r w6 hp
    have hfin := HP.out r w6 hp
    obtain ⟨rfl, -⟩ := hp
    clear hP HP
    go_wp2_with fail
    go_end0
    exact hfin
  · obtain ⟨rfl, hm⟩ := hp2 ht
    exact ⟨rfl, by unfold callR; rw [if_pos ht]; exact ⟨rfl, hm, hfx⟩⟩
end
end Go.Proofs.YtnijcolomoobnaaGreatDoor
namespace Go.Proofs.YtnijcolomoobnaaGreatDoor
set_option linter.unusedVariables false
set_option linter.unusedSimpArgs false

theorem con_snd {m : Md} {states : Int} (h : Run m states) : Snds m.consts := fun v hv => by
  obtain ⟨h1, h2, T, h3⟩ := ctype_shp (h.con v hv)
  refine ⟨h2, ?_⟩
  obtain ⟨k, n, t, l⟩ := v
  rw [sd_iff]
  have h1' : l = [] := h1
  subst h1'
  have hr : Rise [] := fun i a b ha hb => by simp at ha
  cases T with
  | int => obtain ⟨a, b, c⟩ := h3; obtain rfl : k = 1 := a; obtain rfl : t = [] := b; exact ⟨by omega, by omega, fun _ => rfl, by omega, fun _ => rfl, by omega, by omega, by omega, by omega, by simp⟩
  | bool => obtain ⟨a, b, c, d⟩ := h3; obtain rfl : k = 2 := a; obtain rfl : t = [] := b; exact ⟨by omega, by omega, fun _ => rfl, by omega, fun _ => rfl, by omega, fun _ => d, by omega, by omega, by simp⟩
  | text => obtain ⟨a, b, c, d⟩ := h3; obtain rfl : k = 3 := a; obtain rfl : n = 0 := b; exact ⟨by omega, by omega, by omega, fun _ => rfl, fun _ => rfl, by omega, by omega, fun _ => d, by omega, by simp⟩
  | list T => obtain ⟨a, b, c, d⟩ := h3; obtain rfl : k = 4 := a; obtain rfl : n = 0 := b; obtain rfl : t = [] := c; exact ⟨by omega, by omega, fun _ => rfl, fun _ => rfl, fun _ => rfl, by omega, by omega, by omega, by simp, by simp⟩
  | map kb T => obtain ⟨a, b, c, d⟩ := h3; obtain rfl : k = 5 := a; obtain rfl : n = 0 := b; obtain rfl : t = [] := c; exact ⟨by omega, by omega, fun _ => rfl, fun _ => rfl, fun _ => rfl, fun _ => ⟨hr, by simp, by simp⟩, by omega, by omega, by omega, by simp⟩
structure VOk (m : Md) (states : List V) (n : Int) (args : List V) : Prop where
  run : Run m (states.length : Int)
  lo : 0 ≤ n
  hi : n < m.funcs.length
  par : ∀ f, m.funcs[n.toNat]? = some f → (args.length : Int) = f.params
  st : Snds states
  ar : Snds args
def cl15 (fuel : Int) : Int := if fuel < 0 then 0 else if fuel > 4096 then 4096 else fuel
theorem cl15_r (x : Int) : 0 ≤ cl15 x ∧ cl15 x ≤ 4096 := by unfold cl15; split <;> (try split) <;> omega
def RunIs (m : Md) (states : List V) (n : Int) (args : List V) (fuel : Int) (S : List V) (v : V) (e fl : Int) : Prop :=
  (¬ VOk m states n args ∧ S = [] ∧ v = V.zero ∧ e = 40 ∧ fl = 0) ∨
  (VOk m states n args ∧ ∃ f g o, m.funcs[n.toNat]? = some f ∧ vmRun it15 m g n.toNat 0 (loc0 f args) [] states (cl15 fuel) = some o ∧ ((o.trap ≠ 0 ∧ S = states ∧ v = V.zero ∧ e = o.trap ∧ fl = o.fuel) ∨ (o.trap = 0 ∧ S = o.sts ∧ v = o.val ∧ e = 0 ∧ fl = o.fuel)))
theorem RunIs.one {m : Md} {states : List V} {n : Int} {args : List V} {fuel : Int} {S S' : List V} {v v' : V} {e e' fl fl' : Int} (h : RunIs m states n args fuel S v e fl) (h' : RunIs m states n args fuel S' v' e' fl') : S = S' ∧ v = v' ∧ e = e' ∧ fl = fl' := by
  rcases h with ⟨h0, rfl, rfl, rfl, rfl⟩ | ⟨h0, f, g, o, hf, hg, h1⟩
  · rcases h' with ⟨-, rfl, rfl, rfl, rfl⟩ | ⟨h0', -⟩
    · exact ⟨rfl, rfl, rfl, rfl⟩
    · exact absurd h0' h0
  · rcases h' with ⟨h0', -⟩ | ⟨-, f', g', o', hf', hg', h1'⟩
    · exact absurd h0 h0'
    · obtain rfl : f = f' := Option.some.inj (hf.symm.trans hf')
      have e1 := vm_le (Nat.le_max_left g g') hg
      have e2 := vm_le (Nat.le_max_right g g') hg'
      obtain rfl : o = o' := Option.some.inj (e1.symm.trans e2)
      rcases h1 with ⟨t, rfl, rfl, rfl, rfl⟩ | ⟨t, rfl, rfl, rfl, rfl⟩ <;> rcases h1' with ⟨t', rfl, rfl, rfl, rfl⟩ | ⟨t', rfl, rfl, rfl, rfl⟩
      · exact ⟨rfl, rfl, rfl, rfl⟩
      · exact absurd t' t
      · exact absurd t t'
      · exact ⟨rfl, rfl, rfl, rfl⟩
theorem VOk.begin {m : Md} {states : List V} {n : Int} {args : List V} (h : VOk m states n args) (fuel : Int) : ∃ f H g o, m.funcs[n.toNat]? = some f ∧ Vst m (states.length : Int) n.toNat f H 0 (loc0 f args) [] states (cl15 fuel) ∧ (args.length : Int) = f.params ∧ vmRun it15 m g n.toNat 0 (loc0 f args) [] states (cl15 fuel) = some o := by
  have hlt : n.toNat < m.funcs.length := by have := h.lo; have := h.hi; omega
  have hf : m.funcs[n.toNat]? = some m.funcs[n.toNat] := List.getElem?_eq_getElem hlt
  have hp := h.par _ hf
  have hnum := (h.run.fun_ _ _ hf).num
  unfold NumOk at hnum
  obtain ⟨H, hH⟩ := (h.run.fun_ _ _ hf).walk
  obtain ⟨c1, c2⟩ := cl15_r fuel
  have hl : Snds (loc0 m.funcs[n.toNat] args) := fun x hx => by
    unfold loc0 at hx
    rcases List.mem_append.1 hx with hx | hx
    · exact h.ar x hx
    · rw [(List.mem_replicate.1 hx).2]; exact snd_n 0
  have hll : ((loc0 m.funcs[n.toNat] args).length : Int) = (m.funcs[n.toNat]).locals := by unfold loc0; simp; omega
  obtain ⟨g, o, ho⟩ := vm_ends (it := it15) h.run _ _ hf H hH (cl15 fuel).toNat _ 0 (loc0 m.funcs[n.toNat] args) [] states (cl15 fuel) c1 (Nat.le_refl _) (Nat.le_refl _) hH.zero
  exact ⟨_, H, g, o, hf, ⟨hf, hH, hH.zero, c1, hl, hll, fun x hx => by simp at hx, h.st, rfl, by simp⟩, hp, ho⟩
end Go.Proofs.YtnijcolomoobnaaGreatDoor
