/- Texts of ours, joined: Sf. -/
import Derived.Test.YtnijcolomoobnaaGreatDoorK24
import Derived.Test.YtnijcolomoobnaaGreatDoorK25
namespace Go.Proofs.YtnijcolomoobnaaGreatDoor
open Go.RowKit
set_option linter.unusedVariables false
set_option linter.unusedSimpArgs false
attribute [local go_sem ↓] Go.wp_at_zero Go.wp_at_succ

def opR (o : V × Int) (q : Nat) (loc s sts : List V) (fl : Int) : Rs := if o.2 ≠ 0 then .trap o.2 fl else .go q loc (s ++ [o.1]) sts fl
section
variable {e : En} {P : Nat → Prop} {ks : Value} {loc stk sts s : List V} {fl : Int} {q : Nat} {dn : Bool} {x y z u : V} {xs : Value} {w w' w2 : World} {q' : Int}
theorem LS.two (h : LS e P ks loc (s ++ [y, z]) sts fl q false V.zero (.slice none 0 0) w) : ∃ g ck w1 ay cy az cz, ks = .slice (some ⟨g, 0, none⟩) (s.length + 2) ck ∧ w.setCell ⟨e.b, 2, none⟩ (.slice (some ⟨g, 0, none⟩) s.length ck) = w1 ∧
    Calls Tryz.prog 80 #[.pointer (some ⟨e.b, 0, none⟩), .int .i64 2] w (fun r w' => r = .returned (.slice (some ⟨g, s.length * 4, none⟩) 2 (ck - s.length)) ∧ w' = w1) ∧ LS e P (.slice (some ⟨g, 0, none⟩) s.length ck) loc s sts fl q false V.zero (.slice none 0 0) w1 ∧ Fx e w w1 ∧ g < w1.heap.size ∧
    w1.cell? ⟨g, s.length * 4, none⟩ = some (.int .i64 y.k) ∧ w1.cell? ⟨g, s.length * 4 + 1, none⟩ = some (.int .i64 y.n) ∧ w1.cell? ⟨g, s.length * 4 + 2, none⟩ = some (.string ⟨y.t.toArray⟩) ∧ w1.cell? ⟨g, s.length * 4 + 3, none⟩ = some (.slice ay y.l.length cy) ∧
    w1.cell? ⟨g, s.length * 4 + 4, none⟩ = some (.int .i64 z.k) ∧ w1.cell? ⟨g, s.length * 4 + 5, none⟩ = some (.int .i64 z.n) ∧ w1.cell? ⟨g, s.length * 4 + 6, none⟩ = some (.string ⟨z.t.toArray⟩) ∧ w1.cell? ⟨g, s.length * 4 + 7, none⟩ = some (.slice az z.l.length cz) ∧
    IsW P w1 y (.slice ay y.l.length cy) ∧ IsW P w1 z (.slice az z.l.length cz) := by
  obtain ⟨ak, ck, hks, hck, hcm⟩ := h.sk.slice
  have hlen : (s ++ [y, z]).length = s.length + 2 := by simp
  rw [hlen] at hks hck
  subst hks
  obtain ⟨g, ay, cy, e1, hg, -, c0, c1, c2, c3, -, -, -, -, hwy⟩ := h.sk.get (i := s.length) (x := y) (by simp)
  subst e1
  obtain ⟨g', az, cz, e1, -, -, d0, d1, d2, d3, -, -, -, -, hwz⟩ := h.sk.get (i := s.length + 1) (x := z) (by simp [List.getElem?_append])
  simp only [Option.some.injEq, Addr.mk.injEq] at e1
  obtain ⟨rfl, -⟩ := e1
  have hf1 : Fr (fun k => k ≠ e.b) w (w.setCell ⟨e.b, 2, none⟩ (.slice (some ⟨g, 0, none⟩) s.length ck)) := Fr.set (by simp) _ _
  have hgb : g ≠ e.b := (h.lk g rfl).2.1
  have hcell : ∀ j, (w.setCell ⟨e.b, 2, none⟩ (.slice (some ⟨g, 0, none⟩) s.length ck)).cell? ⟨g, j, none⟩ = w.cell? ⟨g, j, none⟩ := fun j => World.cell?_of_block (hf1.block g hgb hg)
  have hW : ∀ {v : V} {sv : Value}, IsW (fun k => (P k ∨ (Value.slice (some ⟨g, 0, none⟩) (s.length + 2) ck).ownBlock = some k) ∧ (Value.slice (some ⟨g, 0, none⟩) (s.length + 2) ck).ownBlock ≠ some k) w v sv → IsW P (w.setCell ⟨e.b, 2, none⟩ (.slice (some ⟨g, 0, none⟩) s.length ck)) v sv := fun {v sv} hv => (hv.base (B' := P) (fun k hk _ => by rcases hk.1 with h | h; exact h; exact absurd h hk.2)).since ⟨hf1.size, fun k hk hl => hf1.block k (fun e1 => h.nb (e1 ▸ hk)) hl⟩
  have hL := h.cut (j := s.length) (by simp) hf1 (h.fr.setK _)
  rw [List.take_left' rfl] at hL
  have hC := fpops_any (d := 2) (j := s.length) h.fr hck hcm rfl
  rw [cutA_some (by omega)] at hC
  exact ⟨g, ck, _, ay, cy, az, cz, rfl, rfl, hC, hL, h.fxb hf1, Nat.lt_of_lt_of_le hg hf1.size, (hcell _).trans c0, (hcell _).trans c1, (hcell _).trans c2, (hcell _).trans c3, (hcell _).trans (by rw [show s.length * 4 + 4 = (s.length + 1) * 4 by omega]; exact d0), (hcell _).trans (by rw [show s.length * 4 + 5 = (s.length + 1) * 4 + 1 by omega]; exact d1), (hcell _).trans (by rw [show s.length * 4 + 6 = (s.length + 1) * 4 + 2 by omega]; exact d2), (hcell _).trans (by rw [show s.length * 4 + 7 = (s.length + 1) * 4 + 3 by omega]; exact d3), hW hwy, hW hwz⟩
theorem LS.made {o : V × Int} {w3 : World} {ao : Option Addr} {cap : Nat} (h : LS e P ks loc s sts fl q false V.zero (.slice none 0 0) w) (hx : IsW (From w.heap.size) w3 o.1 (.slice ao o.1.l.length cap)) (hb : Below w.heap.size w w3) (hw : Fx e w2 w) (hn : s.length + 1 ≤ 900000) :
    (o.2 = 0 → ∀ w4, Below w3.heap.size w3 w4 → Calls Tryz.prog 40 #[.pointer (some ⟨e.b, 0, none⟩), .agg #[.int .i64 o.1.k, .int .i64 o.1.n, .string ⟨o.1.t.toArray⟩, .slice ao o.1.l.length cap]] w4 (fun r w' => r = .returned (.tuple #[]) ∧ StP e w2 (opR o q loc s sts fl) r w')) ∧ (o.2 ≠ 0 → ∀ w4, Below w3.heap.size w3 w4 → StP e w2 (opR o q loc s sts fl) (.panicked (thrownT o.2)) w4) := by
  constructor
  · intro h0 w4 hb4
    have hB : Below w.heap.size w w4 := hb.trans (hb4.mono hb.size)
    have h4 := h.keep hB
    refine (fpush_any h4 ((hx.below hb4).base (fun k hk _ => h.hi k hk)) hn).mono ?_
    intro r w' hp
    have := StP.push h4 (hw.trans (Fr.of_below hB)) hp
    unfold opR
    rw [if_neg (by simp [h0])]
    exact ⟨hp.1, this⟩
  · intro h0 w4 hb4
    have hB : Below w.heap.size w w4 := hb.trans (hb4.mono hb.size)
    unfold opR
    rw [if_pos h0]
    exact ⟨rfl, (h.keep hB).mc, hw.trans (Fr.of_below hB)⟩
set_option maxRecDepth 100000 in
set_option maxHeartbeats 4000000 in
theorem do_binary {a : Int} (h : LS e P ks loc (s ++ [y, z]) sts fl q false V.zero (.slice none 0 0) w) (sy : Snd y) (sz : Snd z) (hn : s.length + 1 ≤ 900000) : Calls Tryz.prog 52 #[.pointer (some ⟨e.b, 0, none⟩), .int .i64 a] w (StP e w (opR (binV a y z) q loc s sts fl)) := by
  obtain ⟨g, ck, w1, ay, cy, az, cz, rfl, hW1, hC, h1, hfx, hg, c0, c1, c2, c3, d0, d1, d2, d3, hy, hz⟩ := h.two
  have hO : ∀ wx, Below w1.heap.size w1 wx → Calls Tryz.prog 83 #[.int .i64 a, .agg #[.int .i64 y.k, .int .i64 y.n, .string ⟨y.t.toArray⟩, .slice ay y.l.length cy], .agg #[.int .i64 z.k, .int .i64 z.n, .string ⟨z.t.toArray⟩, .slice az z.l.length cz]] wx fun r w' => OutV wx (binV a y z) r w' := fun wx hb => (binary_any a (hy.below hb) (hz.below hb) (by have := sy.txt; omega) (by have := sz.txt; omega)).mono (fun r w' hr => by obtain ⟨q1, q2, q3, q4⟩ := binV_w (op := a) hy.nr hz.nr sy.txt sz.txt; exact hr.out q1 q2 q3 q4)
  obtain ⟨O, hOO⟩ : ∃ O : V × Int, (binV a y z) = O := ⟨_, rfl⟩
  rw [hOO] at hO ⊢
  have HM := fun (w3 : World) (ao : Option Addr) (cap : Nat) => LS.made (o := O) (w3 := w3) (ao := ao) (cap := cap) (w2 := w) h1
  replace HM : Hid _ := HM
  have HX : Hid (Fx e w w1) := hfx
  clear h sy sz hy hz hOO hfx h1 hW1
  go_enter Tryz.func52, Tryz.ntmps52
  go_wp2_with fail
  refine hC.mono ?_
  rintro r w2 ⟨rfl, hw2⟩
  subst hw2
  clear hC
  go_wp2_with fail
  have hSk : ∀ wx, Below w2.heap.size w2 wx → wx.cell? ⟨g, s.length * 4, none⟩ = some (.int .i64 y.k) ∧ wx.cell? ⟨g, s.length * 4 + 1, none⟩ = some (.int .i64 y.n) ∧ wx.cell? ⟨g, s.length * 4 + 2, none⟩ = some (.string ⟨y.t.toArray⟩) ∧ wx.cell? ⟨g, s.length * 4 + 3, none⟩ = some (.slice ay y.l.length cy) ∧ wx.cell? ⟨g, s.length * 4 + 4, none⟩ = some (.int .i64 z.k) ∧ wx.cell? ⟨g, s.length * 4 + 5, none⟩ = some (.int .i64 z.n) ∧ wx.cell? ⟨g, s.length * 4 + 6, none⟩ = some (.string ⟨z.t.toArray⟩) ∧ wx.cell? ⟨g, s.length * 4 + 7, none⟩ = some (.slice az z.l.length cz) := fun wx hb => by obtain ⟨fx, -⟩ := bcell hb; exact ⟨(fx _ _ hg).trans c0, (fx _ _ hg).trans c1, (fx _ _ hg).trans c2, (fx _ _ hg).trans c3, (fx _ _ hg).trans d0, (fx _ _ hg).trans d1, (fx _ _ hg).trans d2, (fx _ _ hg).trans d3⟩
  clear c0 c1 c2 c3 d0 d1 d2 d3
  refine wpE_begin (S := fun w' => w'.cell? ⟨g, s.length * 4, none⟩ = some (.int .i64 y.k) ∧ w'.cell? ⟨g, s.length * 4 + 1, none⟩ = some (.int .i64 y.n) ∧ w'.cell? ⟨g, s.length * 4 + 2, none⟩ = some (.string ⟨y.t.toArray⟩) ∧ w'.cell? ⟨g, s.length * 4 + 3, none⟩ = some (.slice ay y.l.length cy) ∧ w'.cell? ⟨g, s.length * 4 + 4, none⟩ = some (.int .i64 z.k) ∧ w'.cell? ⟨g, s.length * 4 + 5, none⟩ = some (.int .i64 z.n) ∧ w'.cell? ⟨g, s.length * 4 + 6, none⟩ = some (.string ⟨z.t.toArray⟩) ∧ w'.cell? ⟨g, s.length * 4 + 7, none⟩ = some (.slice az z.l.length cz)) (N := fun j => decide (j < 12)) (by kernel_rfl) ?_
  have hS0 : w2.drew.cell? ⟨g, s.length * 4, none⟩ = some (.int .i64 y.k) ∧ w2.drew.cell? ⟨g, s.length * 4 + 1, none⟩ = some (.int .i64 y.n) ∧ w2.drew.cell? ⟨g, s.length * 4 + 2, none⟩ = some (.string ⟨y.t.toArray⟩) ∧ w2.drew.cell? ⟨g, s.length * 4 + 3, none⟩ = some (.slice ay y.l.length cy) ∧ w2.drew.cell? ⟨g, s.length * 4 + 4, none⟩ = some (.int .i64 z.k) ∧ w2.drew.cell? ⟨g, s.length * 4 + 5, none⟩ = some (.int .i64 z.n) ∧ w2.drew.cell? ⟨g, s.length * 4 + 6, none⟩ = some (.string ⟨z.t.toArray⟩) ∧ w2.drew.cell? ⟨g, s.length * 4 + 7, none⟩ = some (.slice az z.l.length cz) := hSk _ (below_drewN w2 1)
  refine wpE_takeX (some 7) (fun j => [12].contains j) (i := 0) (v := .pointer (some ⟨e.b, 0, none⟩)) rfl rfl (by kernel_rfl) (by kernel_rfl) (by kernel_rfl) (by kernel_rfl) (fun j hj => by simp at hj; show j < 13; omega) (fun _ _ _ h => h) rfl (fun w' hS => by obtain ⟨g0, g1, g2, g3, g4, g5, g6, g7⟩ := hS; go_simp) hS0 ?_
  try simp only [Act.put, List.setIfInBounds_toArray, List.set_cons_zero, List.set_cons_succ]
  refine wpE_takeX (some 8) (fun j => [8, 9, 10, 11, 12].contains j) (i := 1) (v := .int .i64 a) rfl rfl (by kernel_rfl) (by kernel_rfl) (by kernel_rfl) (by kernel_rfl) (fun j hj => by simp at hj; show j < 13; omega) (fun _ _ _ h => h) rfl (fun w' hS => by obtain ⟨g0, g1, g2, g3, g4, g5, g6, g7⟩ := hS; go_simp) hS0 ?_
  try simp only [Act.put, List.setIfInBounds_toArray, List.set_cons_zero, List.set_cons_succ]
  refine wpE_takeX (some 9) (fun j => [3, 4, 8, 9, 10, 11, 12].contains j) (i := 2) (v := .slice (some ⟨g, s.length * 4, none⟩) 2 (ck - s.length)) rfl rfl (by kernel_rfl) (by kernel_rfl) (by kernel_rfl) (by kernel_rfl) (fun j hj => by simp at hj; show j < 13; omega) (fun _ _ _ h => h) rfl (fun w' hS => by obtain ⟨g0, g1, g2, g3, g4, g5, g6, g7⟩ := hS; go_simp) hS0 ?_
  try simp only [Act.put, List.setIfInBounds_toArray, List.set_cons_zero, List.set_cons_succ]
  refine wpE_takeX (some 10) (fun j => [4, 8, 9, 10, 11, 12].contains j) (i := 3) (v := .pointer (some ⟨g, s.length * 4, none⟩)) rfl rfl (by kernel_rfl) (by kernel_rfl) (by kernel_rfl) (by kernel_rfl) (fun j hj => by simp at hj; show j < 13; omega) (fun _ _ _ h => h) rfl (fun w' hS => by obtain ⟨g0, g1, g2, g3, g4, g5, g6, g7⟩ := hS; go_simp) hS0 ?_
  try simp only [Act.put, List.setIfInBounds_toArray, List.set_cons_zero, List.set_cons_succ]
  refine wpE_takeX (some 11) (fun j => [8, 9, 10, 11, 12].contains j) (i := 4) (v := .agg #[.int .i64 y.k, .int .i64 y.n, .string ⟨y.t.toArray⟩, .slice ay y.l.length cy]) rfl rfl (by kernel_rfl) (by kernel_rfl) (by kernel_rfl) (by kernel_rfl) (fun j hj => by simp at hj; show j < 13; omega) (fun _ _ _ h => h) rfl (fun w' hS => by obtain ⟨g0, g1, g2, g3, g4, g5, g6, g7⟩ := hS; go_simp) hS0 ?_
  try simp only [Act.put, List.setIfInBounds_toArray, List.set_cons_zero, List.set_cons_succ]
  refine wpE_takeX (some 12) (fun j => [6, 7, 8, 9, 10, 11, 12].contains j) (i := 5) (v := .slice (some ⟨g, s.length * 4, none⟩) 2 (ck - s.length)) rfl rfl (by kernel_rfl) (by kernel_rfl) (by kernel_rfl) (by kernel_rfl) (fun j hj => by simp at hj; show j < 13; omega) (fun _ _ _ h => h) rfl (fun w' hS => by obtain ⟨g0, g1, g2, g3, g4, g5, g6, g7⟩ := hS; go_simp) hS0 ?_
  try simp only [Act.put, List.setIfInBounds_toArray, List.set_cons_zero, List.set_cons_succ]
  refine wpE_takeX (some 13) (fun j => [7, 8, 9, 10, 11, 12].contains j) (i := 6) (v := .pointer (some ⟨g, s.length * 4 + 4, none⟩)) rfl rfl (by kernel_rfl) (by kernel_rfl) (by kernel_rfl) (by kernel_rfl) (fun j hj => by simp at hj; show j < 13; omega) (fun _ _ _ h => h) rfl (fun w' hS => by obtain ⟨g0, g1, g2, g3, g4, g5, g6, g7⟩ := hS; go_simp) hS0 ?_
  try simp only [Act.put, List.setIfInBounds_toArray, List.set_cons_zero, List.set_cons_succ]
  refine wpE_takeX (some 14) (fun j => [8, 9, 10, 11, 12].contains j) (i := 7) (v := .agg #[.int .i64 z.k, .int .i64 z.n, .string ⟨z.t.toArray⟩, .slice az z.l.length cz]) rfl rfl (by kernel_rfl) (by kernel_rfl) (by kernel_rfl) (by kernel_rfl) (fun j hj => by simp at hj; show j < 13; omega) (fun _ _ _ h => h) rfl (fun w' hS => by obtain ⟨g0, g1, g2, g3, g4, g5, g6, g7⟩ := hS; go_simp) hS0 ?_
  try simp only [Act.put, List.setIfInBounds_toArray, List.set_cons_zero, List.set_cons_succ]
  refine wpE_one (i := 8) (by kernel_rfl) rfl rfl (fun K hK => ?_)
  go_simp
  refine (hO _ (below_drewN w2 1)).mono ?_
  rintro r w3 ⟨⟨ao, cap, rfl, hx3⟩, hb3⟩
  replace hb3 : Below w2.heap.size w2 w3 := below_undrew hb3
  replace hx3 : IsW (From w2.heap.size) w3 O.1 (.slice ao O.1.l.length cap) := hx3
  clear hO
  have hS3 := hSk w3 hb3
  refine hK _ _ (fun _ => hS3) ?_
  clear hK K
  try simp only [Act.put, List.setIfInBounds_toArray, List.set_cons_zero, List.set_cons_succ]
  refine wpE_takeX (some 16) (fun j => [11, 12].contains j) (i := 9) (v := .agg #[.int .i64 O.1.k, .int .i64 O.1.n, .string ⟨O.1.t.toArray⟩, .slice ao O.1.l.length cap]) rfl rfl (by kernel_rfl) (by kernel_rfl) (by kernel_rfl) (by kernel_rfl) (fun j hj => by simp at hj; show j < 13; omega) (fun _ _ _ h => h) rfl (fun w' hS => by obtain ⟨g0, g1, g2, g3, g4, g5, g6, g7⟩ := hS; go_simp) hS3 ?_
  try simp only [Act.put, List.setIfInBounds_toArray, List.set_cons_zero, List.set_cons_succ]
  refine wpE_takeX (some 17) (fun j => [11, 12].contains j) (i := 10) (v := .int .i64 O.2) rfl rfl (by kernel_rfl) (by kernel_rfl) (by kernel_rfl) (by kernel_rfl) (fun j hj => by simp at hj; show j < 13; omega) (fun _ _ _ h => h) rfl (fun w' hS => by obtain ⟨g0, g1, g2, g3, g4, g5, g6, g7⟩ := hS; go_simp) hS3 ?_
  try simp only [Act.put, List.setIfInBounds_toArray, List.set_cons_zero, List.set_cons_succ]
  by_cases h0 : O.2 = 0
  · have HP := (HM.out w3 ao cap hx3 hb3 HX.out hn).1 h0
    replace HP : Hid _ := HP
    rw [h0]
    clear HM h0
    refine wpE_one (i := 11) (by kernel_rfl) rfl rfl (fun K hK => ?_)
    go_simp
    refine (mustV_ok w3 O.1 ao _ cap).mono ?_
    rintro r w4 ⟨rfl, hb4⟩
    refine hK _ _ (fun _ => hSk w4 (hb3.trans (hb4.mono hb3.size))) ?_
    clear hK K
    try simp only [Act.put, List.setIfInBounds_toArray, List.set_cons_zero, List.set_cons_succ]
    refine wpE_one (i := 12) (by kernel_rfl) rfl rfl (fun K hK => ?_)
    go_simp
    refine (HP.out w4 hb4).mono ?_
    rintro r w5 ⟨rfl, hp⟩
    refine hK _ _ (fun h => by cases h) ?_
    clear hK K
    try simp only [Act.put, List.setIfInBounds_toArray, List.set_cons_zero, List.set_cons_succ]
    refine wpE_done (by kernel_rfl) ?_
    exact bodyPost_end (results_none rfl _ _ _) rfl hp
  · have HP := (HM.out w3 ao cap hx3 hb3 HX.out hn).2 h0
    replace HP : Hid _ := HP
    clear HM
    refine wpE_one (i := 11) (by kernel_rfl) rfl rfl (fun K hK => ?_)
    go_simp
    refine (mustV_no w3 O.1 ao _ cap h0).mono ?_
    rintro r w4 ⟨rfl, hb4⟩
    exact ⟨rfl, HP.out w4 hb4⟩
set_option maxRecDepth 100000 in
set_option maxHeartbeats 4000000 in
theorem do_two {a : Int} {KF : FuncId} {gc : Nat} {O : V × Int} (h : LS e P ks loc (s ++ [y, z]) sts fl q false V.zero (.slice none 0 0) w) (hK : Enters KF) (hgc : w.cell? ⟨gc, 0, none⟩ = some (.func (Fn.func KF) #[] #[])) (hgl : gc < w.heap.size) (hgb : gc ≠ e.b)
    (hOK : ∀ (wx : World) (ay : Option Addr) (cy : Nat) (az : Option Addr) (cz : Nat), IsW P wx y (.slice ay y.l.length cy) → IsW P wx z (.slice az z.l.length cz) → Calls Tryz.prog KF #[.agg #[.int .i64 y.k, .int .i64 y.n, .string ⟨y.t.toArray⟩, .slice ay y.l.length cy], .agg #[.int .i64 z.k, .int .i64 z.n, .string ⟨z.t.toArray⟩, .slice az z.l.length cz]] wx fun r w' => OutV wx O r w') (hn : s.length + 1 ≤ 900000) : Calls Tryz.prog 94 #[.pointer (some ⟨e.b, 0, none⟩), .int .i64 a, .pointer (some ⟨gc, 0, none⟩)] w (StP e w (opR O q loc s sts fl)) := by
  obtain ⟨g, ck, w1, ay, cy, az, cz, rfl, hW1, hC, h1, hfx, hg, c0, c1, c2, c3, d0, d1, d2, d3, hy, hz⟩ := h.two
  have hO : ∀ wx, Below w1.heap.size w1 wx → Calls Tryz.prog KF #[.agg #[.int .i64 y.k, .int .i64 y.n, .string ⟨y.t.toArray⟩, .slice ay y.l.length cy], .agg #[.int .i64 z.k, .int .i64 z.n, .string ⟨z.t.toArray⟩, .slice az z.l.length cz]] wx fun r w' => OutV wx O r w' := fun wx hb => hOK wx ay cy az cz (hy.below hb) (hz.below hb)
  have k0 : w1.cell? ⟨gc, 0, none⟩ = some (.func (Fn.func KF) #[] #[]) := by rw [← hW1, World.cell?_of_block (Below.heap_setCell _ _ _ _ hgb)]; exact hgc
  have hgl1 : gc < w1.heap.size := by rw [← hW1]; simpa [World.setCell] using hgl
  have HM := fun (w3 : World) (ao : Option Addr) (cap : Nat) => LS.made (o := O) (w3 := w3) (ao := ao) (cap := cap) (w2 := w) h1
  replace HM : Hid _ := HM
  have HX : Hid (Fx e w w1) := hfx
  unfold Enters at hK
  clear h hy hz hfx h1 hW1 hOK hgc hgl
  go_enter Tryz.func94, Tryz.ntmps94
  go_wp2_with fail
  refine hC.mono ?_
  rintro r w2 ⟨rfl, hw2⟩
  subst hw2
  clear hC
  go_wp2_with fail
  have hSk : ∀ wx, Below w2.heap.size w2 wx → wx.cell? ⟨g, s.length * 4, none⟩ = some (.int .i64 y.k) ∧ wx.cell? ⟨g, s.length * 4 + 1, none⟩ = some (.int .i64 y.n) ∧ wx.cell? ⟨g, s.length * 4 + 2, none⟩ = some (.string ⟨y.t.toArray⟩) ∧ wx.cell? ⟨g, s.length * 4 + 3, none⟩ = some (.slice ay y.l.length cy) ∧ wx.cell? ⟨g, s.length * 4 + 4, none⟩ = some (.int .i64 z.k) ∧ wx.cell? ⟨g, s.length * 4 + 5, none⟩ = some (.int .i64 z.n) ∧ wx.cell? ⟨g, s.length * 4 + 6, none⟩ = some (.string ⟨z.t.toArray⟩) ∧ wx.cell? ⟨g, s.length * 4 + 7, none⟩ = some (.slice az z.l.length cz) ∧ wx.cell? ⟨gc, 0, none⟩ = some (.func (Fn.func KF) #[] #[]) := fun wx hb => by obtain ⟨fx, -⟩ := bcell hb; exact ⟨(fx _ _ hg).trans c0, (fx _ _ hg).trans c1, (fx _ _ hg).trans c2, (fx _ _ hg).trans c3, (fx _ _ hg).trans d0, (fx _ _ hg).trans d1, (fx _ _ hg).trans d2, (fx _ _ hg).trans d3, (fx _ _ hgl1).trans k0⟩
  clear c0 c1 c2 c3 d0 d1 d2 d3 k0
  refine wpE_begin (S := fun w' => w'.cell? ⟨g, s.length * 4, none⟩ = some (.int .i64 y.k) ∧ w'.cell? ⟨g, s.length * 4 + 1, none⟩ = some (.int .i64 y.n) ∧ w'.cell? ⟨g, s.length * 4 + 2, none⟩ = some (.string ⟨y.t.toArray⟩) ∧ w'.cell? ⟨g, s.length * 4 + 3, none⟩ = some (.slice ay y.l.length cy) ∧ w'.cell? ⟨g, s.length * 4 + 4, none⟩ = some (.int .i64 z.k) ∧ w'.cell? ⟨g, s.length * 4 + 5, none⟩ = some (.int .i64 z.n) ∧ w'.cell? ⟨g, s.length * 4 + 6, none⟩ = some (.string ⟨z.t.toArray⟩) ∧ w'.cell? ⟨g, s.length * 4 + 7, none⟩ = some (.slice az z.l.length cz) ∧ w'.cell? ⟨gc, 0, none⟩ = some (.func (Fn.func KF) #[] #[])) (N := fun j => decide (j < 12)) (by kernel_rfl) ?_
  have hS0 : w2.drew.cell? ⟨g, s.length * 4, none⟩ = some (.int .i64 y.k) ∧ w2.drew.cell? ⟨g, s.length * 4 + 1, none⟩ = some (.int .i64 y.n) ∧ w2.drew.cell? ⟨g, s.length * 4 + 2, none⟩ = some (.string ⟨y.t.toArray⟩) ∧ w2.drew.cell? ⟨g, s.length * 4 + 3, none⟩ = some (.slice ay y.l.length cy) ∧ w2.drew.cell? ⟨g, s.length * 4 + 4, none⟩ = some (.int .i64 z.k) ∧ w2.drew.cell? ⟨g, s.length * 4 + 5, none⟩ = some (.int .i64 z.n) ∧ w2.drew.cell? ⟨g, s.length * 4 + 6, none⟩ = some (.string ⟨z.t.toArray⟩) ∧ w2.drew.cell? ⟨g, s.length * 4 + 7, none⟩ = some (.slice az z.l.length cz) ∧ w2.drew.cell? ⟨gc, 0, none⟩ = some (.func (Fn.func KF) #[] #[]) := hSk _ (below_drewN w2 1)
  refine wpE_takeX (some 8) (fun j => [12].contains j) (i := 0) (v := .pointer (some ⟨e.b, 0, none⟩)) rfl rfl (by kernel_rfl) (by kernel_rfl) (by kernel_rfl) (by kernel_rfl) (fun j hj => by simp at hj; show j < 13; omega) (fun _ _ _ h => h) rfl (fun w' hS => by obtain ⟨g0, g1, g2, g3, g4, g5, g6, g7, g8⟩ := hS; go_simp) hS0 ?_
  try simp only [Act.put, List.setIfInBounds_toArray, List.set_cons_zero, List.set_cons_succ]
  refine wpE_takeX (some 9) (fun j => [8, 9, 10, 11, 12].contains j) (i := 1) (v := .func (Fn.func KF) #[] #[]) rfl rfl (by kernel_rfl) (by kernel_rfl) (by kernel_rfl) (by kernel_rfl) (fun j hj => by simp at hj; show j < 13; omega) (fun _ _ _ h => h) rfl (fun w' hS => by obtain ⟨g0, g1, g2, g3, g4, g5, g6, g7, g8⟩ := hS; go_simp) hS0 ?_
  try simp only [Act.put, List.setIfInBounds_toArray, List.set_cons_zero, List.set_cons_succ]
  refine wpE_takeX (some 10) (fun j => [3, 4, 8, 9, 10, 11, 12].contains j) (i := 2) (v := .slice (some ⟨g, s.length * 4, none⟩) 2 (ck - s.length)) rfl rfl (by kernel_rfl) (by kernel_rfl) (by kernel_rfl) (by kernel_rfl) (fun j hj => by simp at hj; show j < 13; omega) (fun _ _ _ h => h) rfl (fun w' hS => by obtain ⟨g0, g1, g2, g3, g4, g5, g6, g7, g8⟩ := hS; go_simp) hS0 ?_
  try simp only [Act.put, List.setIfInBounds_toArray, List.set_cons_zero, List.set_cons_succ]
  refine wpE_takeX (some 11) (fun j => [4, 8, 9, 10, 11, 12].contains j) (i := 3) (v := .pointer (some ⟨g, s.length * 4, none⟩)) rfl rfl (by kernel_rfl) (by kernel_rfl) (by kernel_rfl) (by kernel_rfl) (fun j hj => by simp at hj; show j < 13; omega) (fun _ _ _ h => h) rfl (fun w' hS => by obtain ⟨g0, g1, g2, g3, g4, g5, g6, g7, g8⟩ := hS; go_simp) hS0 ?_
  try simp only [Act.put, List.setIfInBounds_toArray, List.set_cons_zero, List.set_cons_succ]
  refine wpE_takeX (some 12) (fun j => [8, 9, 10, 11, 12].contains j) (i := 4) (v := .agg #[.int .i64 y.k, .int .i64 y.n, .string ⟨y.t.toArray⟩, .slice ay y.l.length cy]) rfl rfl (by kernel_rfl) (by kernel_rfl) (by kernel_rfl) (by kernel_rfl) (fun j hj => by simp at hj; show j < 13; omega) (fun _ _ _ h => h) rfl (fun w' hS => by obtain ⟨g0, g1, g2, g3, g4, g5, g6, g7, g8⟩ := hS; go_simp) hS0 ?_
  try simp only [Act.put, List.setIfInBounds_toArray, List.set_cons_zero, List.set_cons_succ]
  refine wpE_takeX (some 13) (fun j => [6, 7, 8, 9, 10, 11, 12].contains j) (i := 5) (v := .slice (some ⟨g, s.length * 4, none⟩) 2 (ck - s.length)) rfl rfl (by kernel_rfl) (by kernel_rfl) (by kernel_rfl) (by kernel_rfl) (fun j hj => by simp at hj; show j < 13; omega) (fun _ _ _ h => h) rfl (fun w' hS => by obtain ⟨g0, g1, g2, g3, g4, g5, g6, g7, g8⟩ := hS; go_simp) hS0 ?_
  try simp only [Act.put, List.setIfInBounds_toArray, List.set_cons_zero, List.set_cons_succ]
  refine wpE_takeX (some 14) (fun j => [7, 8, 9, 10, 11, 12].contains j) (i := 6) (v := .pointer (some ⟨g, s.length * 4 + 4, none⟩)) rfl rfl (by kernel_rfl) (by kernel_rfl) (by kernel_rfl) (by kernel_rfl) (fun j hj => by simp at hj; show j < 13; omega) (fun _ _ _ h => h) rfl (fun w' hS => by obtain ⟨g0, g1, g2, g3, g4, g5, g6, g7, g8⟩ := hS; go_simp) hS0 ?_
  try simp only [Act.put, List.setIfInBounds_toArray, List.set_cons_zero, List.set_cons_succ]
  refine wpE_takeX (some 15) (fun j => [8, 9, 10, 11, 12].contains j) (i := 7) (v := .agg #[.int .i64 z.k, .int .i64 z.n, .string ⟨z.t.toArray⟩, .slice az z.l.length cz]) rfl rfl (by kernel_rfl) (by kernel_rfl) (by kernel_rfl) (by kernel_rfl) (fun j hj => by simp at hj; show j < 13; omega) (fun _ _ _ h => h) rfl (fun w' hS => by obtain ⟨g0, g1, g2, g3, g4, g5, g6, g7, g8⟩ := hS; go_simp) hS0 ?_
  try simp only [Act.put, List.setIfInBounds_toArray, List.set_cons_zero, List.set_cons_succ]
  refine wpE_one (i := 8) (by kernel_rfl) rfl rfl (fun K hK => ?_)
  go_simp
  refine (hO _ (below_drewN w2 1)).mono ?_
  rintro r w3 ⟨⟨ao, cap, rfl, hx3⟩, hb3⟩
  replace hb3 : Below w2.heap.size w2 w3 := below_undrew hb3
  replace hx3 : IsW (From w2.heap.size) w3 O.1 (.slice ao O.1.l.length cap) := hx3
  clear hO
  have hS3 := hSk w3 hb3
  refine hK _ _ (fun _ => hS3) ?_
  clear hK K
  try simp only [Act.put, List.setIfInBounds_toArray, List.set_cons_zero, List.set_cons_succ]
  refine wpE_takeX (some 17) (fun j => [11, 12].contains j) (i := 9) (v := .agg #[.int .i64 O.1.k, .int .i64 O.1.n, .string ⟨O.1.t.toArray⟩, .slice ao O.1.l.length cap]) rfl rfl (by kernel_rfl) (by kernel_rfl) (by kernel_rfl) (by kernel_rfl) (fun j hj => by simp at hj; show j < 13; omega) (fun _ _ _ h => h) rfl (fun w' hS => by obtain ⟨g0, g1, g2, g3, g4, g5, g6, g7, g8⟩ := hS; go_simp) hS3 ?_
  try simp only [Act.put, List.setIfInBounds_toArray, List.set_cons_zero, List.set_cons_succ]
  refine wpE_takeX (some 18) (fun j => [11, 12].contains j) (i := 10) (v := .int .i64 O.2) rfl rfl (by kernel_rfl) (by kernel_rfl) (by kernel_rfl) (by kernel_rfl) (fun j hj => by simp at hj; show j < 13; omega) (fun _ _ _ h => h) rfl (fun w' hS => by obtain ⟨g0, g1, g2, g3, g4, g5, g6, g7, g8⟩ := hS; go_simp) hS3 ?_
  try simp only [Act.put, List.setIfInBounds_toArray, List.set_cons_zero, List.set_cons_succ]
  by_cases h0 : O.2 = 0
  · have HP := (HM.out w3 ao cap hx3 hb3 HX.out hn).1 h0
    replace HP : Hid _ := HP
    rw [h0]
    clear HM h0
    refine wpE_one (i := 11) (by kernel_rfl) rfl rfl (fun K hK => ?_)
    go_simp
    refine (mustV_ok w3 O.1 ao _ cap).mono ?_
    rintro r w4 ⟨rfl, hb4⟩
    refine hK _ _ (fun _ => hSk w4 (hb3.trans (hb4.mono hb3.size))) ?_
    clear hK K
    try simp only [Act.put, List.setIfInBounds_toArray, List.set_cons_zero, List.set_cons_succ]
    refine wpE_one (i := 12) (by kernel_rfl) rfl rfl (fun K hK => ?_)
    go_simp
    refine (HP.out w4 hb4).mono ?_
    rintro r w5 ⟨rfl, hp⟩
    refine hK _ _ (fun h => by cases h) ?_
    clear hK K
    try simp only [Act.put, List.setIfInBounds_toArray, List.set_cons_zero, List.set_cons_succ]
    refine wpE_done (by kernel_rfl) ?_
    exact bodyPost_end (results_none rfl _ _ _) rfl hp
  · have HP := (HM.out w3 ao cap hx3 hb3 HX.out hn).2 h0
    replace HP : Hid _ := HP
    clear HM
    refine wpE_one (i := 11) (by kernel_rfl) rfl rfl (fun K hK => ?_)
    go_simp
    refine (mustV_no w3 O.1 ao _ cap h0).mono ?_
    rintro r w4 ⟨rfl, hb4⟩
    exact ⟨rfl, HP.out w4 hb4⟩
set_option maxRecDepth 100000 in
set_option maxHeartbeats 4000000 in
theorem do_one {a : Int} {KF : FuncId} {gc : Nat} {O : V × Int} (h : LS e P ks loc (s ++ [y]) sts fl q false V.zero (.slice none 0 0) w) (hK : Enters KF) (hgc : w.cell? ⟨gc, 0, none⟩ = some (.func (Fn.func KF) #[] #[])) (hgl : gc < w.heap.size) (hgb : gc ≠ e.b)
    (hOK : ∀ (wx : World) (ay : Option Addr) (cy : Nat), e.base ≤ wx.heap.size → Tb15 e.base wx → IsW P wx y (.slice ay y.l.length cy) → Calls Tryz.prog KF #[.agg #[.int .i64 y.k, .int .i64 y.n, .string ⟨y.t.toArray⟩, .slice ay y.l.length cy]] wx fun r w' => OutV wx O r w') (hn : s.length + 1 ≤ 900000) : Calls Tryz.prog 84 #[.pointer (some ⟨e.b, 0, none⟩), .int .i64 a, .pointer (some ⟨gc, 0, none⟩)] w (StP e w (opR O q loc s sts fl)) := by
  have hbd : Below w.heap.size w w.drew := below_drewN w 1
  have hC := fpop_any (h.keep hbd)
  have HM := fun (ks' : Value) (wq w3 : World) (ao : Option Addr) (cap : Nat) (h1 : LS e P ks' loc s sts fl q false V.zero (.slice none 0 0) wq) => LS.made (o := O) (w3 := w3) (ao := ao) (cap := cap) (w2 := w) h1
  replace HM : Hid _ := HM
  have HF : Hid (∀ wq, Fr (fun k => k ≠ e.b) w.drew wq → Fx e w wq) := fun wq hf => h.fxb ((Fr.of_below hbd).trans hf)
  have HO : Hid _ := hOK
  unfold Enters at hK
  clear h hOK hbd
  go_enter Tryz.func84, Tryz.ntmps84
  go_wp2_with fail
  refine wpE_begin (S := fun w' => w'.cell? ⟨gc, 0, none⟩ = some (.func (Fn.func KF) #[] #[]) ∧ True) (N := fun j => decide (j < 8)) (by kernel_rfl) ?_
  have hS0 : w.drew.cell? ⟨gc, 0, none⟩ = some (.func (Fn.func KF) #[] #[]) ∧ True := ⟨hgc, trivial⟩
  refine wpE_takeX (some 5) (fun j => [8].contains j) (i := 0) (v := .pointer (some ⟨e.b, 0, none⟩)) rfl rfl (by kernel_rfl) (by kernel_rfl) (by kernel_rfl) (by kernel_rfl) (fun j hj => by simp at hj; show j < 9; omega) (fun _ _ _ h => h) rfl (fun w' hS => by obtain ⟨g0, -⟩ := hS; go_simp) hS0 ?_
  try simp only [Act.put, List.setIfInBounds_toArray, List.set_cons_zero, List.set_cons_succ]
  refine wpE_takeX (some 6) (fun j => [4, 5, 6, 7, 8].contains j) (i := 1) (v := .func (Fn.func KF) #[] #[]) rfl rfl (by kernel_rfl) (by kernel_rfl) (by kernel_rfl) (by kernel_rfl) (fun j hj => by simp at hj; show j < 9; omega) (fun _ _ _ h => h) rfl (fun w' hS => by obtain ⟨g0, -⟩ := hS; go_simp) hS0 ?_
  try simp only [Act.put, List.setIfInBounds_toArray, List.set_cons_zero, List.set_cons_succ]
  refine wpE_takeX (some 7) (fun j => [3, 4, 5, 6, 7, 8].contains j) (i := 2) (v := .pointer (some ⟨e.b, 0, none⟩)) rfl rfl (by kernel_rfl) (by kernel_rfl) (by kernel_rfl) (by kernel_rfl) (fun j hj => by simp at hj; show j < 9; omega) (fun _ _ _ h => h) rfl (fun w' hS => by obtain ⟨g0, -⟩ := hS; go_simp) hS0 ?_
  try simp only [Act.put, List.setIfInBounds_toArray, List.set_cons_zero, List.set_cons_succ]
  refine wpE_one (i := 3) (by kernel_rfl) rfl rfl (fun K hK => ?_)
  go_simp
  refine hC.mono ?_
  rintro r w2 ⟨⟨ay, cy, rfl, hy⟩, ⟨ks', h1⟩, hf1⟩
  have k2 : w2.cell? ⟨gc, 0, none⟩ = some (.func (Fn.func KF) #[] #[]) := (World.cell?_of_block (hf1.block gc hgb hgl)).trans hS0.1
  have hg2 : gc < w2.heap.size := Nat.lt_of_lt_of_le hgl hf1.size
  have hSk : ∀ wx, Below w2.heap.size w2 wx → wx.cell? ⟨gc, 0, none⟩ = some (.func (Fn.func KF) #[] #[]) ∧ True := fun wx hb => ⟨((bcell hb).1 _ _ hg2).trans k2, trivial⟩
  have hO : ∀ wx, Below w2.heap.size w2 wx → Calls Tryz.prog KF #[.agg #[.int .i64 y.k, .int .i64 y.n, .string ⟨y.t.toArray⟩, .slice ay y.l.length cy]] wx fun r w' => OutV wx O r w' := fun wx hb => HO.out wx ay cy (h1.keep hb).le (h1.keep hb).tb (hy.below hb)
  have HM2 := fun (w3 : World) (ao : Option Addr) (cap : Nat) => HM.out ks' w2 w3 ao cap h1
  replace HM2 : Hid _ := HM2
  have HX : Hid (Fx e w w2) := HF.out _ hf1
  clear hC HM HF HO hy h1 hf1
  refine hK _ _ (fun _ => ⟨k2, trivial⟩) ?_
  clear hK K
  try simp only [Act.put, List.setIfInBounds_toArray, List.set_cons_zero, List.set_cons_succ]
  have HM : Hid _ := HM2
  clear HM2
  refine wpE_one (i := 4) (by kernel_rfl) rfl rfl (fun K hK => ?_)
  go_simp
  refine (hO _ (Below.refl _ _)).mono ?_
  rintro r w3 ⟨⟨ao, cap, rfl, hx3⟩, hb3⟩
  replace hx3 : IsW (From w2.heap.size) w3 O.1 (.slice ao O.1.l.length cap) := hx3
  clear hO
  have hS3 := hSk w3 hb3
  refine hK _ _ (fun _ => hS3) ?_
  clear hK K
  try simp only [Act.put, List.setIfInBounds_toArray, List.set_cons_zero, List.set_cons_succ]
  refine wpE_takeX (some 10) (fun j => [7, 8].contains j) (i := 5) (v := .agg #[.int .i64 O.1.k, .int .i64 O.1.n, .string ⟨O.1.t.toArray⟩, .slice ao O.1.l.length cap]) rfl rfl (by kernel_rfl) (by kernel_rfl) (by kernel_rfl) (by kernel_rfl) (fun j hj => by simp at hj; show j < 9; omega) (fun _ _ _ h => h) rfl (fun w' hS => by obtain ⟨g0, -⟩ := hS; go_simp) hS3 ?_
  try simp only [Act.put, List.setIfInBounds_toArray, List.set_cons_zero, List.set_cons_succ]
  refine wpE_takeX (some 11) (fun j => [7, 8].contains j) (i := 6) (v := .int .i64 O.2) rfl rfl (by kernel_rfl) (by kernel_rfl) (by kernel_rfl) (by kernel_rfl) (fun j hj => by simp at hj; show j < 9; omega) (fun _ _ _ h => h) rfl (fun w' hS => by obtain ⟨g0, -⟩ := hS; go_simp) hS3 ?_
  try simp only [Act.put, List.setIfInBounds_toArray, List.set_cons_zero, List.set_cons_succ]
  by_cases h0 : O.2 = 0
  · have HP := (HM.out w3 ao cap hx3 hb3 HX.out hn).1 h0
    replace HP : Hid _ := HP
    rw [h0]
    clear HM h0
    refine wpE_one (i := 7) (by kernel_rfl) rfl rfl (fun K hK => ?_)
    go_simp
    refine (mustV_ok w3 O.1 ao _ cap).mono ?_
    rintro r w4 ⟨rfl, hb4⟩
    refine hK _ _ (fun _ => hSk w4 (hb3.trans (hb4.mono hb3.size))) ?_
    clear hK K
    try simp only [Act.put, List.setIfInBounds_toArray, List.set_cons_zero, List.set_cons_succ]
    refine wpE_one (i := 8) (by kernel_rfl) rfl rfl (fun K hK => ?_)
    go_simp
    refine (HP.out w4 hb4).mono ?_
    rintro r w5 ⟨rfl, hp⟩
    refine hK _ _ (fun h => by cases h) ?_
    clear hK K
    try simp only [Act.put, List.setIfInBounds_toArray, List.set_cons_zero, List.set_cons_succ]
    refine wpE_done (by kernel_rfl) ?_
    exact bodyPost_end (results_none rfl _ _ _) rfl hp
  · have HP := (HM.out w3 ao cap hx3 hb3 HX.out hn).2 h0
    replace HP : Hid _ := HP
    clear HM
    refine wpE_one (i := 7) (by kernel_rfl) rfl rfl (fun K hK => ?_)
    go_simp
    refine (mustV_no w3 O.1 ao _ cap h0).mono ?_
    rintro r w4 ⟨rfl, hb4⟩
    exact ⟨rfl, HP.out w4 hb4⟩
end
end Go.Proofs.YtnijcolomoobnaaGreatDoor
