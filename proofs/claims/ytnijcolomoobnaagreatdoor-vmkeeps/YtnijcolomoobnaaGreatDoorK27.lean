/- Texts of ours, joined: Sg. -/
import Derived.Test.YtnijcolomoobnaaGreatDoorK26
namespace Go.Proofs.YtnijcolomoobnaaGreatDoor
open Go.RowKit
set_option linter.unusedVariables false
set_option linter.unusedSimpArgs false
attribute [local go_sem ↓] Go.wp_at_zero Go.wp_at_succ

section
variable {e : En} {P : Nat → Prop} {ks : Value} {loc stk sts s : List V} {fl : Int} {q : Nat} {dn : Bool} {x y z u : V} {xs : Value} {w w' w2 : World} {q' : Int}
theorem leaf_isW {B : Nat → Prop} {v : V} (hl : v.l = []) (ht : v.t.length ≤ maxLen) (hk : InR v.k) (hn : InR v.n) : IsW B w v (.slice none 0 0) := ⟨ht, hk, hn, by rw [hl]; exact IsVs.nil⟩
theorem bool_isW {B : Nat → Prop} (b : Bool) : IsW B w (bV' b) (.slice none 0 0) := leaf_isW rfl (by unfold maxLen; simp [V.t]) (by unfold InR; show (-9223372036854775808 : Int) ≤ 2 ∧ (2 : Int) ≤ _; omega) (by
  unfold InR
  show (-9223372036854775808 : Int) ≤ (if b then 1 else 0) ∧ (if b then 1 else 0) ≤ (9223372036854775807 : Int)
  cases b <;> simp)
set_option maxRecDepth 100000 in
set_option maxHeartbeats 2000000 in
theorem do_not (a : Int) (h : LS e P ks loc (s ++ [y]) sts fl q false V.zero (.slice none 0 0) w) (sy : Snd y) (hn : s.length + 1 ≤ 900000) : Calls Tryz.prog 55 #[.pointer (some ⟨e.b, 0, none⟩), .int .i64 a] w (StP e w (opR (bV' (decide (y.n = 0)), if y.k = 2 then 0 else 40) q loc s sts fl)) := by
  have HF : Hid (∀ w', Fr (fun k => k ≠ e.b) w w' → Fx e w w') := fun w' hf => h.fxb hf
  by_cases hk : y.k = 2
  · have hC := ftruth_yes h hk
    have hnn : (!(y.n == 1)) = decide (y.n = 0) := by
      obtain ⟨k, n, t, l⟩ := y
      obtain rfl : k = 2 := hk
      have h2 := (sd_2.1 sy.2).1
      show (!(n == 1)) = decide (n = 0)
      rcases h2 with rfl | rfl <;> rfl
    rw [if_pos hk]
    obtain ⟨b, hb⟩ : ∃ b, (y.n == 1) = b := ⟨_, rfl⟩
    rw [hb] at hC hnn
    rw [← hnn]
    have HM := fun (ks' : Value) (wq w3 : World) (h1 : LS e P ks' loc s sts fl q false V.zero (.slice none 0 0) wq) => LS.made (o := (bV' (!b), 0)) (w3 := w3) (ao := none) (cap := 0) (w2 := w) h1 (bool_isW _)
    replace HM : Hid _ := HM
    clear h hk sy hnn hb
    go_enter Tryz.func55, Tryz.ntmps55
    go_wp2_with fail
    refine hC.mono ?_
    rintro r w1 ⟨rfl, ⟨ks', h1⟩, hf1⟩
    have HM1 := fun w3 hb => (HM.out ks' w1 w3 h1 hb (HF.out _ hf1) hn).1 (by simp)
    replace HM1 : Hid _ := HM1
    have hB := bool_any (!b) w1
    clear hC HF h1 hf1 HM
    go_wp2_with fail
    refine hB.mono ?_
    rintro r w3 ⟨rfl, hb3⟩
    have hP := HM1.out w3 hb3 w3 (Below.refl _ _)
    simp only [V.k, V.n, V.t, V.l, List.length_nil] at hP
    clear hB HM1
    generalize (if (!b) = true then (1 : Int) else 0) = bn at *
    go_wp2_with fail
    refine hP.mono ?_
    rintro r w5 ⟨rfl, hp⟩
    have HP : Hid _ := hp
    clear hP hp
    go_wp2_with fail
    go_end0
    exact HP.out
  · rw [if_neg hk]
    have hC := ftruth_no h hk
    have hm := h.mc
    have hpb : e.p ≠ e.b := by have := h.pl; have := h.lb; omega
    have HP : Hid (∀ w', Fr (fun k => k ≠ e.b) w w' → StP e w (opR (bV' (decide (y.n = 0)), 40) q loc s sts fl) (.panicked (thrownT 40)) w') := fun w' hf => by
      unfold opR
      rw [if_pos (by simp)]
      exact ⟨rfl, hm.keep (hf.block _ hpb hm.lt), h.fxb hf⟩
    clear h hk hm sy
    go_enter Tryz.func55, Tryz.ntmps55
    go_wp2_with fail
    refine hC.mono ?_
    rintro r w1 ⟨rfl, hf1⟩
    exact ⟨rfl, HP.out _ hf1⟩
set_option maxRecDepth 100000 in
set_option maxHeartbeats 2000000 in
theorem do_len (a : Int) (h : LS e P ks loc (s ++ [y]) sts fl q false V.zero (.slice none 0 0) w) (sy : Snd y) (hn : s.length + 1 ≤ 900000) : Calls Tryz.prog 56 #[.pointer (some ⟨e.b, 0, none⟩), .int .i64 a] w (StP e w (opR (nV (lenV y).1, (lenV y).2) q loc s sts fl)) := by
  have HF : Hid (∀ w', Fr (fun k => k ≠ e.b) w w' → Fx e w w') := fun w' hf => h.fxb hf
  have hC := fpop_any h
  have hL := fun (ay : Option Addr) (cy : Nat) (wq : World) (hy : IsW P wq y (.slice ay y.l.length cy)) => len_any hy
  replace hL : Hid _ := hL
  have hlr : InR ((lenV y).1 : Int) := by
    have h1 := sy.txt
    have h2 := wt_eq y
    have h3 := wts_len y.l
    have h4 := sy.1
    unfold lenV InR
    split
    · show (-9223372036854775808 : Int) ≤ (y.t.length : Nat) ∧ _; omega
    split
    · show (-9223372036854775808 : Int) ≤ (y.l.length : Nat) ∧ _; omega
    split
    · show (-9223372036854775808 : Int) ≤ (y.l.length / 2 : Nat) ∧ _; omega
    · show (-9223372036854775808 : Int) ≤ (0 : Nat) ∧ _; omega
  have HM := fun (ks' : Value) (wq w3 : World) (h1 : LS e P ks' loc s sts fl q false V.zero (.slice none 0 0) wq) => LS.made (o := (nV (lenV y).1, (lenV y).2)) (w3 := w3) (ao := none) (cap := 0) (w2 := w) h1 (leaf_isW rfl (by unfold maxLen; simp [V.t]) (by unfold InR; show (-9223372036854775808 : Int) ≤ 1 ∧ (1 : Int) ≤ _; omega) hlr)
  replace HM : Hid _ := HM
  clear h sy hlr
  go_enter Tryz.func56, Tryz.ntmps56
  go_wp2_with fail
  refine hC.mono ?_
  rintro r w1 ⟨⟨ay, cy, rfl, hy⟩, ⟨ks', h1⟩, hf1⟩
  have hl := hL.out ay cy w1 hy
  have HM1 := fun w3 hb => HM.out ks' w1 w3 h1 hb (HF.out _ hf1) hn
  replace HM1 : Hid _ := HM1
  clear hC HF h1 hf1 HM hL hy
  go_wp2_with fail
  refine hl.mono ?_
  rintro r w2 ⟨rfl, hb2⟩
  clear hl
  by_cases h0 : (lenV y).2 = 0
  · have HM2 := fun w3 (hb : Below w2.heap.size w2 w3) => (HM1.out w3 (hb2.trans (hb.mono hb2.size))).1 h0
    rw [h0]
    replace HM2 : Hid _ := HM2
    clear HM1 h0
    have hI := mustI_ok w2 ((lenV y).1 : Int)
    generalize (lenV y).1 = ln at *
    go_wp2_with fail
    refine hI.mono ?_
    rintro r w3 ⟨rfl, hb3⟩
    have hJ := int_any (ln : Int) w3
    clear hI
    go_wp2_with fail
    refine hJ.mono ?_
    rintro r w4 ⟨rfl, hb4⟩
    have hP := HM2.out w4 (hb3.trans (hb4.mono hb3.size)) w4 (Below.refl _ _)
    simp only [V.k, V.n, V.t, V.l, List.length_nil] at hP
    clear hJ HM2
    go_wp2_with fail
    refine hP.mono ?_
    rintro r w5 ⟨rfl, hp⟩
    have HP : Hid _ := hp
    clear hP hp
    go_wp2_with fail
    go_end0
    exact HP.out
  · have HM2 := fun w3 (hb : Below w2.heap.size w2 w3) => (HM1.out w3 (hb2.trans (hb.mono hb2.size))).2 h0 w3 (Below.refl _ _)
    replace HM2 : Hid _ := HM2
    clear HM1
    have hI := mustI_no w2 ((lenV y).1 : Int) h0
    go_wp2_with fail
    refine hI.mono ?_
    rintro r w3 ⟨rfl, hb3⟩
    exact ⟨rfl, HM2.out w3 hb3⟩
set_option maxRecDepth 100000 in
set_option maxHeartbeats 4000000 in
theorem do_store {i : Nat} (h : LS e P ks loc (s ++ [y]) sts fl q false V.zero (.slice none 0 0) w) (hi : i < loc.length) : Calls Tryz.prog 42 #[.pointer (some ⟨e.b, 0, none⟩), .int .i64 (i : Int)] w (StP e w (.go q (loc.set i y) s sts fl)) := by
  have hbd : Below w.heap.size w w.drew := below_drewN w 1
  have hd := h.keep hbd
  have hC := fpop_any hd
  obtain ⟨al, cl, hls, hcl, hcm⟩ := h.lc.slice
  have hrow := h.lc
  rw [hls] at hrow
  obtain ⟨g, y0, y1, y2, y3, e1, -, hg, -, -, -, -, -, -, -, -⟩ := hrow.cells hi
  subst e1
  obtain ⟨b0, b1, -⟩ := hd.fr.cells
  obtain ⟨-, -, -, m3, -⟩ := cells_k5 hd.mc
  rw [hls] at b1
  have hpb : e.p ≠ e.b := by have := h.pl; have := h.lb; omega
  have hbl := hd.fr.lt
  have hml := hd.mc.lt
  have HF : Hid (∀ wq, Fr (fun k => k ≠ e.b) w.drew wq → Fx e w wq) := fun wq hf => h.fxb ((Fr.of_below hbd).trans hf)
  have HL : Hid (e.ls = .slice (some ⟨g, 0, none⟩) loc.length cl) := hls
  have Hi : Hid (i < loc.length) := hi
  have hI : (i : Int) < (loc.length : Int) := by omega
  have hI0 : (0 : Int) ≤ (i : Int) := by omega
  have Hpb : Hid (e.p ≠ e.b) := hpb
  clear h hbd hd hls hrow hi hcl hpb
  go_enter Tryz.func42, Tryz.ntmps42
  go_wp2_with fail
  refine wpE_begin (S := fun w' => w'.cell? ⟨e.b, 1, none⟩ = some (.slice (some ⟨g, 0, none⟩) loc.length cl) ∧ True) (N := fun j => decide (j < 7)) (by kernel_rfl) ?_
  have hS0 : w.drew.cell? ⟨e.b, 1, none⟩ = some (.slice (some ⟨g, 0, none⟩) loc.length cl) ∧ True := ⟨b1, trivial⟩
  refine wpE_takeX (some 4) (fun j => [1, 2, 3, 7, 8].contains j) (i := 0) (v := .pointer (some ⟨e.b, 0, none⟩)) rfl rfl (by kernel_rfl) (by kernel_rfl) (by kernel_rfl) (by kernel_rfl) (fun j hj => by simp at hj; show j < 9; omega) (fun _ _ _ h => h) rfl (fun w' hS => by obtain ⟨g0, -⟩ := hS; go_simp) hS0 ?_
  try simp only [Act.put, List.setIfInBounds_toArray, List.set_cons_zero, List.set_cons_succ]
  refine wpE_takeX (some 5) (fun j => [2, 3, 7, 8].contains j) (i := 1) (v := .pointer (some ⟨e.b, 0, none⟩)) rfl rfl (by kernel_rfl) (by kernel_rfl) (by kernel_rfl) (by kernel_rfl) (fun j hj => by simp at hj; show j < 9; omega) (fun _ _ _ h => h) rfl (fun w' hS => by obtain ⟨g0, -⟩ := hS; go_simp) hS0 ?_
  try simp only [Act.put, List.setIfInBounds_toArray, List.set_cons_zero, List.set_cons_succ]
  refine wpE_takeX (some 6) (fun j => [3, 7, 8].contains j) (i := 2) (v := .pointer (some ⟨e.b, 1, none⟩)) rfl rfl (by kernel_rfl) (by kernel_rfl) (by kernel_rfl) (by kernel_rfl) (fun j hj => by simp at hj; show j < 9; omega) (fun _ _ _ h => h) rfl (fun w' hS => by obtain ⟨g0, -⟩ := hS; go_simp) hS0 ?_
  try simp only [Act.put, List.setIfInBounds_toArray, List.set_cons_zero, List.set_cons_succ]
  refine wpE_takeX (some 7) (fun j => [7, 8].contains j) (i := 3) (v := .slice (some ⟨g, 0, none⟩) loc.length cl) rfl rfl (by kernel_rfl) (by kernel_rfl) (by kernel_rfl) (by kernel_rfl) (fun j hj => by simp at hj; show j < 9; omega) (fun _ _ _ h => h) rfl (fun w' hS => by obtain ⟨g0, -⟩ := hS; go_simp) hS0 ?_
  try simp only [Act.put, List.setIfInBounds_toArray, List.set_cons_zero, List.set_cons_succ]
  refine wpE_takeX (some 8) (fun j => [7, 8].contains j) (i := 4) (v := .int .i64 (i : Int)) rfl rfl (by kernel_rfl) (by kernel_rfl) (by kernel_rfl) (by kernel_rfl) (fun j hj => by simp at hj; show j < 9; omega) (fun _ _ _ h => h) rfl (fun w' hS => by obtain ⟨g0, -⟩ := hS; go_simp) hS0 ?_
  try simp only [Act.put, List.setIfInBounds_toArray, List.set_cons_zero, List.set_cons_succ]
  refine wpE_takeX (some 9) (fun j => [6, 7, 8].contains j) (i := 5) (v := .pointer (some ⟨e.b, 0, none⟩)) rfl rfl (by kernel_rfl) (by kernel_rfl) (by kernel_rfl) (by kernel_rfl) (fun j hj => by simp at hj; show j < 9; omega) (fun _ _ _ h => h) rfl (fun w' hS => by obtain ⟨g0, -⟩ := hS; go_simp) hS0 ?_
  try simp only [Act.put, List.setIfInBounds_toArray, List.set_cons_zero, List.set_cons_succ]
  refine wpE_one (i := 6) (by kernel_rfl) rfl rfl (fun K hK => ?_)
  go_simp
  refine hC.mono ?_
  rintro r w2 ⟨⟨ay, cy, rfl, hy⟩, ⟨ks', h1⟩, hf1⟩
  have hS2 : w2.cell? ⟨e.b, 1, none⟩ = some (.slice (some ⟨g, 0, none⟩) loc.length cl) := by rw [h1.fr.cells.2.1, HL.out]
  have hrow2 := h1.lc
  rw [HL.out] at hrow2
  obtain ⟨g', z0, z1, z2, z3, e1, -, hg2, k0, k1, k2, k3, n0, n1, n2, n3⟩ := hrow2.cells (i := i) Hi.out
  simp only [Option.some.injEq, Addr.mk.injEq] at e1
  obtain ⟨rfl, -⟩ := e1
  have hfin : Hid (StP e w (.go q (loc.set i y) s sts fl) (.returned (.tuple #[])) (set4At w2 g (i * 4) (.int .i64 y.k) (.int .i64 y.n) (.string ⟨y.t.toArray⟩) (.slice ay y.l.length cy))) := ⟨rfl, ⟨P, ks', h1.setL HL.out Hi.out hy⟩, (HF.out _ hf1).trans (h1.fxl HL.out _ _ _ _ _)⟩
  clear hC HF HL h1 hf1 hy hrow2
  refine hK _ _ (fun _ => ⟨hS2, trivial⟩) ?_
  clear hK K
  try simp only [Act.put, List.setIfInBounds_toArray, List.set_cons_zero, List.set_cons_succ]
  refine wpE_one (i := 7) (by kernel_rfl) rfl rfl (fun K hK => ?_)
  go_simp
  refine hK _ _ (fun h => by cases h) ?_
  clear hK K
  try simp only [Act.put, List.setIfInBounds_toArray, List.set_cons_zero, List.set_cons_succ]
  refine wpE_one (i := 8) (by kernel_rfl) rfl rfl (fun K hK => ?_)
  go_simp
  refine hK _ _ (fun h => by cases h) ?_
  clear hK K
  try simp only [Act.put, List.setIfInBounds_toArray, List.set_cons_zero, List.set_cons_succ]
  refine wpE_done (by kernel_rfl) ?_
  exact bodyPost_end (results_none rfl _ _ _) rfl hfin.out
set_option maxRecDepth 100000 in
set_option maxHeartbeats 4000000 in
theorem do_set {i : Nat} (h : LS e P ks loc (s ++ [y]) sts fl q false V.zero (.slice none 0 0) w) (hi : i < sts.length) : Calls Tryz.prog 45 #[.pointer (some ⟨e.b, 0, none⟩), .int .i64 (i : Int)] w (StP e w (.go q loc s (sts.set i y) fl)) := by
  have hbd : Below w.heap.size w w.drew := below_drewN w 1
  have hd := h.keep hbd
  have hC := fpop_any hd
  obtain ⟨al, cl, hls, hcl, hcm⟩ := h.st.slice
  have hrow := h.st
  rw [hls] at hrow
  obtain ⟨g, y0, y1, y2, y3, e1, -, hg, -, -, -, -, -, -, -, -⟩ := hrow.cells hi
  subst e1
  obtain ⟨b0, b1, -⟩ := hd.fr.cells
  obtain ⟨-, -, -, m3, -⟩ := cells_k5 hd.mc
  rw [hls] at m3
  have hpb : e.p ≠ e.b := by have := h.pl; have := h.lb; omega
  have hbl := hd.fr.lt
  have hml := hd.mc.lt
  have HF : Hid (∀ wq, Fr (fun k => k ≠ e.b) w.drew wq → Fx e w wq) := fun wq hf => h.fxb ((Fr.of_below hbd).trans hf)
  have HL : Hid (e.ss = .slice (some ⟨g, 0, none⟩) sts.length cl) := hls
  have Hi : Hid (i < sts.length) := hi
  have hI : (i : Int) < (sts.length : Int) := by omega
  have hI0 : (0 : Int) ≤ (i : Int) := by omega
  have Hpb : Hid (e.p ≠ e.b) := hpb
  clear h hbd hd hls hrow hi hcl hpb
  go_enter Tryz.func45, Tryz.ntmps45
  go_wp2_with fail
  refine wpE_begin (S := fun w' => w'.cell? ⟨e.b, 0, none⟩ = some (.pointer (some ⟨e.p, 0, none⟩)) ∧ w'.cell? ⟨e.p, 3, none⟩ = some (.slice (some ⟨g, 0, none⟩) sts.length cl)) (N := fun j => decide (j < 10)) (by kernel_rfl) ?_
  have hS0 : w.drew.cell? ⟨e.b, 0, none⟩ = some (.pointer (some ⟨e.p, 0, none⟩)) ∧ w.drew.cell? ⟨e.p, 3, none⟩ = some (.slice (some ⟨g, 0, none⟩) sts.length cl) := ⟨b0, m3⟩
  refine wpE_takeX (some 4) (fun j => [1, 2, 3, 4, 5, 6, 10, 11].contains j) (i := 0) (v := .pointer (some ⟨e.b, 0, none⟩)) rfl rfl (by kernel_rfl) (by kernel_rfl) (by kernel_rfl) (by kernel_rfl) (fun j hj => by simp at hj; show j < 12; omega) (fun _ _ _ h => h) rfl (fun w' hS => by obtain ⟨g0, g1⟩ := hS; go_simp) hS0 ?_
  try simp only [Act.put, List.setIfInBounds_toArray, List.set_cons_zero, List.set_cons_succ]
  refine wpE_takeX (some 5) (fun j => [2, 3, 4, 5, 6, 10, 11].contains j) (i := 1) (v := .pointer (some ⟨e.b, 0, none⟩)) rfl rfl (by kernel_rfl) (by kernel_rfl) (by kernel_rfl) (by kernel_rfl) (fun j hj => by simp at hj; show j < 12; omega) (fun _ _ _ h => h) rfl (fun w' hS => by obtain ⟨g0, g1⟩ := hS; go_simp) hS0 ?_
  try simp only [Act.put, List.setIfInBounds_toArray, List.set_cons_zero, List.set_cons_succ]
  refine wpE_takeX (some 6) (fun j => [3, 4, 5, 6, 10, 11].contains j) (i := 2) (v := .pointer (some ⟨e.b, 0, none⟩)) rfl rfl (by kernel_rfl) (by kernel_rfl) (by kernel_rfl) (by kernel_rfl) (fun j hj => by simp at hj; show j < 12; omega) (fun _ _ _ h => h) rfl (fun w' hS => by obtain ⟨g0, g1⟩ := hS; go_simp) hS0 ?_
  try simp only [Act.put, List.setIfInBounds_toArray, List.set_cons_zero, List.set_cons_succ]
  refine wpE_takeX (some 7) (fun j => [4, 5, 6, 10, 11].contains j) (i := 3) (v := .pointer (some ⟨e.p, 0, none⟩)) rfl rfl (by kernel_rfl) (by kernel_rfl) (by kernel_rfl) (by kernel_rfl) (fun j hj => by simp at hj; show j < 12; omega) (fun _ _ _ h => h) rfl (fun w' hS => by obtain ⟨g0, g1⟩ := hS; go_simp) hS0 ?_
  try simp only [Act.put, List.setIfInBounds_toArray, List.set_cons_zero, List.set_cons_succ]
  refine wpE_takeX (some 8) (fun j => [5, 6, 10, 11].contains j) (i := 4) (v := .pointer (some ⟨e.p, 0, none⟩)) rfl rfl (by kernel_rfl) (by kernel_rfl) (by kernel_rfl) (by kernel_rfl) (fun j hj => by simp at hj; show j < 12; omega) (fun _ _ _ h => h) rfl (fun w' hS => by obtain ⟨g0, g1⟩ := hS; go_simp) hS0 ?_
  try simp only [Act.put, List.setIfInBounds_toArray, List.set_cons_zero, List.set_cons_succ]
  refine wpE_takeX (some 9) (fun j => [6, 10, 11].contains j) (i := 5) (v := .pointer (some ⟨e.p, 3, none⟩)) rfl rfl (by kernel_rfl) (by kernel_rfl) (by kernel_rfl) (by kernel_rfl) (fun j hj => by simp at hj; show j < 12; omega) (fun _ _ _ h => h) rfl (fun w' hS => by obtain ⟨g0, g1⟩ := hS; go_simp) hS0 ?_
  try simp only [Act.put, List.setIfInBounds_toArray, List.set_cons_zero, List.set_cons_succ]
  refine wpE_takeX (some 10) (fun j => [10, 11].contains j) (i := 6) (v := .slice (some ⟨g, 0, none⟩) sts.length cl) rfl rfl (by kernel_rfl) (by kernel_rfl) (by kernel_rfl) (by kernel_rfl) (fun j hj => by simp at hj; show j < 12; omega) (fun _ _ _ h => h) rfl (fun w' hS => by obtain ⟨g0, g1⟩ := hS; go_simp) hS0 ?_
  try simp only [Act.put, List.setIfInBounds_toArray, List.set_cons_zero, List.set_cons_succ]
  refine wpE_takeX (some 11) (fun j => [10, 11].contains j) (i := 7) (v := .int .i64 (i : Int)) rfl rfl (by kernel_rfl) (by kernel_rfl) (by kernel_rfl) (by kernel_rfl) (fun j hj => by simp at hj; show j < 12; omega) (fun _ _ _ h => h) rfl (fun w' hS => by obtain ⟨g0, g1⟩ := hS; go_simp) hS0 ?_
  try simp only [Act.put, List.setIfInBounds_toArray, List.set_cons_zero, List.set_cons_succ]
  refine wpE_takeX (some 12) (fun j => [9, 10, 11].contains j) (i := 8) (v := .pointer (some ⟨e.b, 0, none⟩)) rfl rfl (by kernel_rfl) (by kernel_rfl) (by kernel_rfl) (by kernel_rfl) (fun j hj => by simp at hj; show j < 12; omega) (fun _ _ _ h => h) rfl (fun w' hS => by obtain ⟨g0, g1⟩ := hS; go_simp) hS0 ?_
  try simp only [Act.put, List.setIfInBounds_toArray, List.set_cons_zero, List.set_cons_succ]
  refine wpE_one (i := 9) (by kernel_rfl) rfl rfl (fun K hK => ?_)
  go_simp
  refine hC.mono ?_
  rintro r w2 ⟨⟨ay, cy, rfl, hy⟩, ⟨ks', h1⟩, hf1⟩
  have hS2 : w2.cell? ⟨e.b, 0, none⟩ = some (.pointer (some ⟨e.p, 0, none⟩)) ∧ w2.cell? ⟨e.p, 3, none⟩ = some (.slice (some ⟨g, 0, none⟩) sts.length cl) := by
    obtain ⟨-, -, -, m3', -⟩ := cells_k5 h1.mc
    rw [HL.out] at m3'
    exact ⟨h1.fr.cells.1, m3'⟩
  have hrow2 := h1.st
  rw [HL.out] at hrow2
  obtain ⟨g', z0, z1, z2, z3, e1, -, hg2, k0, k1, k2, k3, n0, n1, n2, n3⟩ := hrow2.cells (i := i) Hi.out
  simp only [Option.some.injEq, Addr.mk.injEq] at e1
  obtain ⟨rfl, -⟩ := e1
  have hfin : Hid (StP e w (.go q loc s (sts.set i y) fl) (.returned (.tuple #[])) (set4At w2 g (i * 4) (.int .i64 y.k) (.int .i64 y.n) (.string ⟨y.t.toArray⟩) (.slice ay y.l.length cy))) := ⟨rfl, ⟨P, ks', h1.setS HL.out Hi.out hy⟩, (HF.out _ hf1).trans (LS.fxs HL.out _ _ _ _ _)⟩
  clear hC HF HL h1 hf1 hy hrow2
  refine hK _ _ (fun _ => hS2) ?_
  clear hK K
  try simp only [Act.put, List.setIfInBounds_toArray, List.set_cons_zero, List.set_cons_succ]
  refine wpE_one (i := 10) (by kernel_rfl) rfl rfl (fun K hK => ?_)
  go_simp
  refine hK _ _ (fun h => by cases h) ?_
  clear hK K
  try simp only [Act.put, List.setIfInBounds_toArray, List.set_cons_zero, List.set_cons_succ]
  refine wpE_one (i := 11) (by kernel_rfl) rfl rfl (fun K hK => ?_)
  go_simp
  refine hK _ _ (fun h => by cases h) ?_
  clear hK K
  try simp only [Act.put, List.setIfInBounds_toArray, List.set_cons_zero, List.set_cons_succ]
  refine wpE_done (by kernel_rfl) ?_
  exact bodyPost_end (results_none rfl _ _ _) rfl hfin.out
end
end Go.Proofs.YtnijcolomoobnaaGreatDoor
