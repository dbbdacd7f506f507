/- Texts of ours, joined: Se. -/
import Derived.Test.YtnijcolomoobnaaGreatDoorK22
import Derived.Test.YtnijcolomoobnaaGreatDoorK23
namespace Go.Proofs.YtnijcolomoobnaaGreatDoor
open Go.RowKit
set_option linter.unusedVariables false
set_option linter.unusedSimpArgs false
attribute [local go_sem ↓] Go.wp_at_zero Go.wp_at_succ

inductive Rs where
  | go (q : Nat) (loc stk sts : List V) (fl : Int)
  | ret (v : V) (sts : List V) (fl : Int)
  | trap (t fl : Int)
def StP (e : En) (w : World) : Rs → Ending → World → Prop
  | .go q loc stk sts fl, r, w' => r = .returned (.tuple #[]) ∧ (∃ P ks, LS e P ks loc stk sts fl q false V.zero (.slice none 0 0) w') ∧ Fx e w w'
  | .ret v sts fl, r, w' => r = .returned (.tuple #[]) ∧ (∃ P ks loc stk q ax cx, LS e P ks loc stk sts fl q true v (.slice ax v.l.length cx) w' ∧ IsW P w' v (.slice ax v.l.length cx)) ∧ Fx e w w'
  | .trap t fl, r, w' => r = .panicked (thrownT t) ∧ Lm e.p w' e.cs e.fs e.ds e.ss fl ∧ Fx e w w'
section
variable {e : En} {P : Nat → Prop} {ks : Value} {loc stk sts s : List V} {fl : Int} {q : Nat} {dn : Bool} {x y z : V} {xs : Value} {w w' w2 : World} {q' : Int}
theorem LS.fxb (h : LS e P ks loc stk sts fl q' dn x xs w) (hf : Fr (fun k => k ≠ e.b) w w') : Fx e w w' := hf.mono (fun k hk => by have := h.lb; have := hk.1; show k ≠ _; omega)
theorem LS.fxp (h : LS e P ks loc stk sts fl q' dn x xs w) (hf : Fr (fun k => k ≠ e.p) w w') : Fx e w w' := hf.mono (fun k hk => hk.2.1)
theorem LS.fxk (h : LS e P ks loc stk sts fl q' dn x xs w) (hf : Fr (fun k => ks.ownBlock ≠ some k ∧ k ≠ e.b) w w') : Fx e w w' := hf.mono (fun k hk => ⟨fun e1 => by have := (h.lk _ e1).1; have := hk.1; omega, by have := h.lb; have := hk.1; omega⟩)
theorem LS.fxl {gl n cap : Nat} (he : e.ls = .slice (some ⟨gl, 0, none⟩) n cap) (h : LS e P ks loc stk sts fl q' dn x xs w) (i : Nat) (x0 x1 x2 x3 : Value) : Fx e w (set4At w gl i x0 x1 x2 x3) := by
  have h1 := (h.ll gl (by rw [he]; rfl)).1
  have hg : ∀ {wx : World} {o : Nat} {v : Value}, Fx e wx (World.setCell wx ⟨gl, o, none⟩ v) := fun {wx o v} => Fr.set (fun hk => by have := hk.1; omega) _ _
  exact ((hg.trans hg).trans hg).trans hg
theorem LS.fxs {gl n cap : Nat} (he : e.ss = .slice (some ⟨gl, 0, none⟩) n cap) (i : Nat) (x0 x1 x2 x3 : Value) : Fx e w (set4At w gl i x0 x1 x2 x3) := by
  have hg : ∀ {wx : World} {o : Nat} {v : Value}, Fx e wx (World.setCell wx ⟨gl, o, none⟩ v) := fun {wx o v} => Fr.set (fun hk => hk.2.2 (by rw [he]; rfl)) _ _
  exact ((hg.trans hg).trans hg).trans hg
theorem StP.push {r : Ending} (h : LS e P ks loc stk sts fl q false V.zero (.slice none 0 0) w) (hw : Fx e w2 w) (hp : r = .returned (.tuple #[]) ∧ (∃ P' ks', (∀ k, P' k → P k) ∧ LS e P' ks' loc (stk ++ [y]) sts fl q false V.zero (.slice none 0 0) w') ∧ Fr (fun k => ks.ownBlock ≠ some k ∧ k ≠ e.b) w w') : StP e w2 (.go q loc (stk ++ [y]) sts fl) r w' := by
  obtain ⟨rfl, ⟨P', ks', -, h1⟩, hf⟩ := hp
  exact ⟨rfl, ⟨P', ks', h1⟩, hw.trans (h.fxk hf)⟩
set_option maxRecDepth 100000 in
set_option maxHeartbeats 2000000 in
theorem do_const {i : Nat} {c : V} (h : LS e P ks loc stk sts fl q false V.zero (.slice none 0 0) w) (hc : e.m.consts[i]? = some c) (hn : stk.length + 1 ≤ 900000) : Calls Tryz.prog 39 #[.pointer (some ⟨e.b, 0, none⟩), .int .i64 (i : Int)] w (StP e w (.go q loc (stk ++ [c]) sts fl)) := by
  obtain ⟨ac, cc, hcs, hcl, hcm⟩ := h.md.con.slice
  have hcon := h.md.con
  rw [hcs] at hcon
  have hlt := (List.getElem?_eq_some_iff.1 hc).1
  obtain ⟨g, o, ax, cx, rfl, _, hg, c0, c1, c2, c3, hw⟩ := hcon.get hc
  obtain ⟨b0, -⟩ := h.fr.cells
  obtain ⟨m0, -⟩ := cells_k5 h.mc
  rw [hcs] at m0
  have hbl := h.fr.lt
  have hml := h.mc.lt
  have hI : (i : Int) < (e.m.consts.length : Int) := by omega
  have hI0 : (0 : Int) ≤ (i : Int) := by omega
  have HP : ∀ r w', _ → StP e w (.go q loc (stk ++ [c]) sts fl) r w' := fun r w' hp => StP.push h (Fr.refl _ _) hp
  replace HP : Hid _ := HP
  have hC := fpush_any h hw hn
  clear h hc hw hcon hcs hlt
  generalize e.m.consts.length = L at *
  go_enter Tryz.func39, Tryz.ntmps39
  go_wp2_with fail
  refine hC.mono ?_
  rintro r w1 hp
  have hfin := HP.out r w1 hp
  obtain ⟨rfl, -⟩ := hp
  clear hC HP
  go_wp2_with fail
  go_end0
  exact hfin
set_option maxRecDepth 100000 in
set_option maxHeartbeats 2000000 in
theorem do_load {i : Nat} {c : V} (h : LS e P ks loc stk sts fl q false V.zero (.slice none 0 0) w) (hc : loc[i]? = some c) (hn : stk.length + 1 ≤ 900000) : Calls Tryz.prog 41 #[.pointer (some ⟨e.b, 0, none⟩), .int .i64 (i : Int)] w (StP e w (.go q loc (stk ++ [c]) sts fl)) := by
  obtain ⟨ac, cc, hcs, hcl, hcm⟩ := h.lc.slice
  have hcon := h.lc
  rw [hcs] at hcon
  have hlt := (List.getElem?_eq_some_iff.1 hc).1
  obtain ⟨g, ax, cx, e1, hg, -, c0, c1, c2, c3, -, -, -, -, hw⟩ := Gv.get hcon hc
  subst e1
  obtain ⟨-, b1, -⟩ := h.fr.cells
  rw [hcs] at b1
  have hbl := h.fr.lt
  have hI : (i : Int) < (loc.length : Int) := by omega
  have hI0 : (0 : Int) ≤ (i : Int) := by omega
  have HP : ∀ r w', _ → StP e w (.go q loc (stk ++ [c]) sts fl) r w' := fun r w' hp => StP.push h (Fr.refl _ _) hp
  replace HP : Hid _ := HP
  have hC := fpush_any h (hw.base (B' := P) (fun k hk _ => by rcases hk.1 with h | h; exact h; exact absurd h hk.2)) hn
  clear h hc hw hcon hcs hlt
  go_enter Tryz.func41, Tryz.ntmps41
  go_wp2_with fail
  refine hC.mono ?_
  rintro r w1 hp
  have hfin := HP.out r w1 hp
  obtain ⟨rfl, -⟩ := hp
  clear hC HP
  go_wp2_with fail
  go_end0
  exact hfin
set_option maxRecDepth 100000 in
set_option maxHeartbeats 2000000 in
theorem do_get {i : Nat} {c : V} (h : LS e P ks loc stk sts fl q false V.zero (.slice none 0 0) w) (hc : sts[i]? = some c) (hn : stk.length + 1 ≤ 900000) : Calls Tryz.prog 44 #[.pointer (some ⟨e.b, 0, none⟩), .int .i64 (i : Int)] w (StP e w (.go q loc (stk ++ [c]) sts fl)) := by
  obtain ⟨ac, cc, hcs, hcl, hcm⟩ := h.st.slice
  have hcon := h.st
  rw [hcs] at hcon
  have hlt := (List.getElem?_eq_some_iff.1 hc).1
  obtain ⟨g, ax, cx, e1, hg, -, c0, c1, c2, c3, -, -, -, -, hw⟩ := Gv.get hcon hc
  subst e1
  obtain ⟨b0, -⟩ := h.fr.cells
  obtain ⟨-, -, -, m3, -⟩ := cells_k5 h.mc
  rw [hcs] at m3
  have hbl := h.fr.lt
  have hml := h.mc.lt
  have hI : (i : Int) < (sts.length : Int) := by omega
  have hI0 : (0 : Int) ≤ (i : Int) := by omega
  have HP : ∀ r w', _ → StP e w (.go q loc (stk ++ [c]) sts fl) r w' := fun r w' hp => StP.push h (Fr.refl _ _) hp
  replace HP : Hid _ := HP
  have hC := fpush_any h (hw.base (B' := P) (fun k hk _ => by rcases hk.1 with h | h; exact h; exact absurd h hk.2)) hn
  clear h hc hw hcon hcs hlt
  go_enter Tryz.func44, Tryz.ntmps44
  go_wp2_with fail
  refine hC.mono ?_
  rintro r w1 hp
  have hfin := HP.out r w1 hp
  obtain ⟨rfl, -⟩ := hp
  clear hC HP
  go_wp2_with fail
  go_end0
  exact hfin
set_option maxRecDepth 100000 in
set_option maxHeartbeats 2000000 in
theorem do_pop (a : Int) (h : LS e P ks loc (s ++ [y]) sts fl q false V.zero (.slice none 0 0) w) : Calls Tryz.prog 46 #[.pointer (some ⟨e.b, 0, none⟩), .int .i64 a] w (StP e w (.go q loc s sts fl)) := by
  have hC := fpop_any h
  have HF : Hid (∀ w', Fr (fun k => k ≠ e.b) w w' → Fx e w w') := fun w' hf => h.fxb hf
  clear h
  go_enter Tryz.func46, Tryz.ntmps46
  go_wp2_with fail
  refine hC.mono ?_
  rintro r w1 ⟨⟨ay, cy, rfl, -⟩, ⟨ks', h1⟩, hf1⟩
  have hfin : Hid (StP e w (.go q loc s sts fl) (.returned (.tuple #[])) w1) := ⟨rfl, ⟨P, ks', h1⟩, HF.out _ hf1⟩
  clear hC HF h1 hf1
  go_wp2_with fail
  go_end0
  exact hfin.out
def jmpR (q tt : Nat) (loc stk sts : List V) (fl : Int) : Rs := if tt < q then (if fl < 1 then .trap 54 0 else .go tt loc stk sts (fl - 1)) else .go tt loc stk sts fl
set_option maxRecDepth 100000 in
set_option maxHeartbeats 2000000 in
theorem do_jump {tt : Nat} (h : LS e P ks loc stk sts fl q false V.zero (.slice none 0 0) w) (hfl : fl ≤ 4096) : Calls Tryz.prog 47 #[.pointer (some ⟨e.b, 0, none⟩), .int .i64 (tt : Int)] w (StP e w (jmpR q tt loc stk sts fl)) := by
  obtain ⟨b0, b1, b2, b3, b4⟩ := h.fr.cells
  have f3 := h.fr.open_ 3
  have hbl := h.fr.lt
  have hml := h.mc.lt
  unfold jmpR
  by_cases hq : tt < q
  · have hqI : (tt : Int) < (q : Int) := by omega
    rw [if_pos hq]
    by_cases hf : fl < 1
    · rw [if_pos hf]
      have hC := charge_few h.mc (n := 1) hf
      have hfin : Hid (StP e w (.trap 54 0) (.panicked (thrownT 54)) (w.setCell ⟨e.p, 4, none⟩ (.int .i64 0))) := ⟨rfl, h.mc.set 0, h.fxp (Fr.set (by simp) _ _)⟩
      clear h hf hq
      go_enter Tryz.func47, Tryz.ntmps47
      go_wp2_with fail
      refine hC.mono ?_
      rintro r w1 ⟨rfl, rfl⟩
      exact ⟨rfl, hfin.out⟩
    · rw [if_neg hf]
      have hC := charge_ok h.mc (n := 1) hf (by omega) hfl
      have hpb : e.p ≠ e.b := by have := h.pl; have := h.lb; omega
      have h1 := h.fuel (Fr.set (w := w) (g := e.p) (by simp) 4 (.int .i64 (fl - 1))) (h.mc.set (fl - 1))
      have h2 := h1.frame (Fr.set (by simp) 3 (.int .i64 (tt : Int))) (h1.fr.setQ (tt : Int))
      have hfin : Hid (StP e w (.go tt loc stk sts (fl - 1)) (.returned (.tuple #[])) ((w.setCell ⟨e.p, 4, none⟩ (.int .i64 (fl - 1))).setCell ⟨e.b, 3, none⟩ (.int .i64 (tt : Int)))) := ⟨rfl, ⟨P, ks, h2⟩, (h.fxp (Fr.set (by simp) _ _)).trans (h1.fxb (Fr.set (by simp) _ _))⟩
      obtain ⟨d0, d1, d2, d3, d4⟩ := h1.fr.cells
      have f3' := h1.fr.open_ 3
      have hbl' := h1.fr.lt
      clear h h1 h2 hf hq
      generalize w.setCell ⟨e.p, 4, none⟩ (.int .i64 (fl - 1)) = w1 at *
      go_enter Tryz.func47, Tryz.ntmps47
      go_wp2_with fail
      refine hC.mono ?_
      rintro r w3 ⟨rfl, hw⟩
      subst hw
      go_wp2_with fail
      go_end0
      exact hfin.out
  · have hqI : ¬ (tt : Int) < (q : Int) := by omega
    rw [if_neg hq]
    have h2 := h.frame (Fr.set (by simp) 3 (.int .i64 (tt : Int))) (h.fr.setQ (tt : Int))
    have hfin : Hid (StP e w (.go tt loc stk sts fl) (.returned (.tuple #[])) (w.setCell ⟨e.b, 3, none⟩ (.int .i64 (tt : Int)))) := ⟨rfl, ⟨P, ks, h2⟩, h.fxb (Fr.set (by simp) _ _)⟩
    clear h h2 hq
    go_enter Tryz.func47, Tryz.ntmps47
    go_wp2_with fail
    go_end0
    exact hfin.out
theorem StP.fx {R : Rs} {r : Ending} (hw : Fx e w2 w) (h : StP e w R r w') : StP e w2 R r w' := by
  cases R
  · exact ⟨h.1, h.2.1, hw.trans h.2.2⟩
  · exact ⟨h.1, h.2.1, hw.trans h.2.2⟩
  · exact ⟨h.1, h.2.1, hw.trans h.2.2⟩
noncomputable def unlR (y : V) (q tt : Nat) (loc stk sts : List V) (fl : Int) : Rs := if y.k ≠ 2 then .trap 40 fl else if (y.n == 1) = true then .go q loc stk sts fl else jmpR q tt loc stk sts fl
set_option maxRecDepth 100000 in
set_option maxHeartbeats 2000000 in
theorem do_unless {tt : Nat} (h : LS e P ks loc (s ++ [y]) sts fl q false V.zero (.slice none 0 0) w) (hfl : fl ≤ 4096) : Calls Tryz.prog 48 #[.pointer (some ⟨e.b, 0, none⟩), .int .i64 (tt : Int)] w (StP e w (unlR y q tt loc s sts fl)) := by
  unfold unlR
  have HF : Hid (∀ w', Fr (fun k => k ≠ e.b) w w' → Fx e w w') := fun w' hf => h.fxb hf
  by_cases hk : y.k ≠ 2
  · rw [if_pos hk]
    have hC := ftruth_no h hk
    have hm := h.mc
    have hpb : e.p ≠ e.b := by have := h.pl; have := h.lb; omega
    have Hm : Hid (∀ w', Fr (fun k => k ≠ e.b) w w' → Lm e.p w' e.cs e.fs e.ds e.ss fl) := fun w' hf => hm.keep (hf.block _ hpb hm.lt)
    clear h hk hm
    go_enter Tryz.func48, Tryz.ntmps48
    go_wp2_with fail
    refine hC.mono ?_
    rintro r w1 ⟨rfl, hf1⟩
    exact ⟨rfl, rfl, Hm.out _ hf1, HF.out _ hf1⟩
  · rw [if_neg hk]
    have hC := ftruth_yes h (Classical.not_not.1 hk)
    clear h hk
    rcases hb : (y.n == 1) with _ | _
    · rw [if_neg (by simp)]
      rw [hb] at hC
      clear hb
      go_enter Tryz.func48, Tryz.ntmps48
      go_wp2_with fail
      refine hC.mono ?_
      rintro r w1 ⟨rfl, ⟨ks', h1⟩, hf1⟩
      have hJ := do_jump (tt := tt) h1 hfl
      have hfx := HF.out _ hf1
      clear hC HF hf1 h1
      go_wp2_with fail
      refine hJ.mono ?_
      intro r w3 hr
      have hS := StP.fx hfx hr
      unfold jmpR at hr hS ⊢
      clear hJ
      split at hr
      · split at hr
        · obtain ⟨rfl, -⟩ := hr
          exact ⟨rfl, hS⟩
        · obtain ⟨rfl, -⟩ := hr
          have HS : Hid _ := hS
          clear hS
          go_wp2_with fail
          go_end0
          exact HS.out
      · obtain ⟨rfl, -⟩ := hr
        have HS : Hid _ := hS
        clear hS
        go_wp2_with fail
        go_end0
        exact HS.out
    · rw [if_pos rfl]
      rw [hb] at hC
      clear hb
      go_enter Tryz.func48, Tryz.ntmps48
      go_wp2_with fail
      refine hC.mono ?_
      rintro r w1 ⟨rfl, ⟨ks', h1⟩, hf1⟩
      have hfin : Hid (StP e w (.go q loc s sts fl) (.returned (.tuple #[])) w1) := ⟨rfl, ⟨P, ks', h1⟩, HF.out _ hf1⟩
      clear hC HF h1 hf1
      go_wp2_with fail
      go_end0
      exact hfin.out
set_option maxRecDepth 100000 in
set_option maxHeartbeats 2000000 in
theorem do_ret (a : Int) (h : LS e P ks loc (s ++ [y]) sts fl q false V.zero (.slice none 0 0) w) : Calls Tryz.prog 50 #[.pointer (some ⟨e.b, 0, none⟩), .int .i64 a] w (StP e w (.ret y sts fl)) := by
  have hC := fpop_any h
  have HF : Hid (∀ w', Fr (fun k => k ≠ e.b) w w' → Fx e w w') := fun w' hf => h.fxb hf
  clear h
  go_enter Tryz.func50, Tryz.ntmps50
  go_wp2_with fail
  refine hC.mono ?_
  rintro r w1 ⟨⟨ay, cy, rfl, hy⟩, ⟨ks', h1⟩, hf1⟩
  have hl1 := h1.fr.setA y (.slice ay y.l.length cy)
  obtain ⟨a5, a6, a7, a8⟩ := h1.fr.ans
  have f5 := h1.fr.open_ 5
  have f6 := h1.fr.open_ 6
  have f7 := h1.fr.open_ 7
  have f8 := h1.fr.open_ 8
  have hbl := h1.fr.lt
  have hFA : Fr (fun k => k ≠ e.b) w1 (set4At w1 e.b 5 (.int .i64 y.k) (.int .i64 y.n) (.string ⟨y.t.toArray⟩) (.slice ay y.l.length cy)) := (((Fr.set (by simp) _ _).trans (Fr.set (by simp) _ _)).trans (Fr.set (by simp) _ _)).trans (Fr.set (by simp) _ _)
  have h2 := h1.frame hFA hl1
  obtain ⟨w2, hW2⟩ : ∃ w2, set4At w1 e.b 5 (.int .i64 y.k) (.int .i64 y.n) (.string ⟨y.t.toArray⟩) (.slice ay y.l.length cy) = w2 := ⟨_, rfl⟩
  rw [hW2] at h2 hFA
  unfold set4At at hW2
  have hFB : Fr (fun k => k ≠ e.b) w2 (w2.setCell ⟨e.b, 4, none⟩ (.bool true)) := Fr.set (by simp) _ _
  have h3 := h2.frame hFB (h2.fr.setD true)
  have hfin : Hid (StP e w (.ret y sts fl) (.returned (.tuple #[])) (w2.setCell ⟨e.b, 4, none⟩ (.bool true))) := ⟨rfl, ⟨P, ks', loc, s, q, ay, cy, h3, hy.since ⟨(hFA.trans hFB).size, fun k hk hl => (hFA.trans hFB).block k (fun e1 => h1.nb (e1 ▸ hk)) hl⟩⟩, HF.out _ ((hf1.trans hFA).trans hFB)⟩
  obtain ⟨-, -, -, -, d4⟩ := h2.fr.cells
  have f4 := h2.fr.open_ 4
  have hbl2 := h2.fr.lt
  clear hC HF h1 hf1 h2 h3 hFA hFB hy hl1
  go_wp2_with fail
  go_end0
  exact hfin.out
end
end Go.Proofs.YtnijcolomoobnaaGreatDoor
