/- Texts of ours, joined: Sp. -/
import Derived.Test.YtnijcolomoobnaaGreatDoorK21
import Derived.Test.YtnijcolomoobnaaGreatDoorK12
namespace Go.Proofs.YtnijcolomoobnaaGreatDoor
open Go.RowKit
set_option linter.unusedVariables false
set_option linter.unusedSimpArgs false
attribute [local go_sem ↓] Go.wp_at_zero Go.wp_at_succ

theorem wpE_takeLX {P : Program} {ops : Array Oper} {Q : Exit → Act → World → Prop} {md : Region.Mode} {S : World → Prop} {N : Nat → Bool} {i : Nat} {oi : Oper} {v : Value} {f : Nat} {listed : Array Bool} {a : Act} {w : World} (d : Option Tmp) (hi : ops[i]? = some oi) (hd : oi.dst = d) (hs : Region.noSelect ops = true) (hf : Region.free md ops listed i = true) (hr : (Region.ready md ops listed).contains i = true) (hN : N i = false)
    (hQ : ∀ c a w, Q (.panic c) (a.put oi.dst v) w → Q (.panic c) a w) (hw : Region.wanted oi (yielded ops a.tmps) = true) (hy : ∀ w, (execOp a.eval oi).run P w = .ok (.value v) w) (h : wpE P md ops Q S N f (listed.setIfInBounds i true) (a.put d v) w) : wpE P md ops Q S N (f + 1) listed a w := wpE_takeL hi hs hf hr hN hQ hw hy (by rw [hd]; exact h)
theorem zpush_run {P : Nat → Prop} {w : World} {ks : Value} {acc : List V} (h : Rw P w ks acc) (hnk : ∀ k, ks.ownBlock = some k → ¬ P k) (hn : acc.length + 1 ≤ 900000) (hP : ∀ k, w.heap.size ≤ k → P k) :
    ∃ wa g cap w', w.alloc (.cells #[.int .i64 0, .int .i64 0, .string ⟨#[]⟩, .slice none 0 0] 31) = wa ∧ (Builtin.append_ #[22, 22] 22 #[ks, .slice (some ⟨w.heap.size, 0, none⟩) 1 1]).run Tryz.prog wa = .ok (.slice (some ⟨g, 0, none⟩) (acc.length + 1) cap) w' ∧ Rw (fun k => P k ∧ k ≠ g) w' (.slice (some ⟨g, 0, none⟩) (acc.length + 1) cap) (acc ++ [V.zero]) ∧ Fr (fun k => ks.ownBlock ≠ some k) w w' ∧ (ks.ownBlock = some g ∨ w.heap.size ≤ g) := by
  obtain ⟨wa, hWa⟩ : ∃ wa, w.alloc (.cells #[.int .i64 0, .int .i64 0, .string ⟨#[]⟩, .slice none 0 0] 31) = wa := ⟨_, rfl⟩
  have hba : Below w.heap.size w wa := by rw [← hWa]; exact (Below.refl _ _).alloc (Nat.le_refl _) _
  have hsa : wa.heap.size = w.heap.size + 1 := by rw [← hWa]; simp
  have hblk : wa.heap[w.heap.size]? = some (.cells #[.int .i64 0, .int .i64 0, .string ⟨#[]⟩, .slice none 0 0] 31) := by rw [← hWa]; exact heap_new _ _
  obtain ⟨row, hown, hPo, hall⟩ := h.below hba
  have hone : AllV (fun k => P k ∧ k < wa.heap.size) wa [V.zero] [.int .i64 0, .int .i64 0, .string ⟨#[]⟩, .slice none 0 0] := AllV.one (isV_iff.2 ⟨.slice none 0 0, rfl, zero_isW⟩)
  obtain ⟨ao, cap, w', hr, ho, hb, hg, hat⟩ := app_run_at Tryz.underlying22 valInfo rfl (by decide) 22 (m := 1) (c := 1) (ad := some ⟨w.heap.size, 0, none⟩) hown (fun h => by cases h) (by simp) (fun b hb j u hu => by
    obtain rfl := Option.some.inj hb
    exact World.news_of_block hblk j u hu) hone.ones (by omega) (by decide) (Nat.zero_le _)
  have hown' : ∀ k, (Value.slice ao (acc.length + 1) cap).ownBlock = some k → ks.ownBlock = some k ∨ wa.heap.size = k := fun k hk => by
    rcases hat with e | e
    · exact Or.inl (e ▸ hk)
    · rw [e] at hk; exact Or.inr (Option.some.inj hk)
  obtain ⟨g, rfl⟩ : ∃ g, ao = some ⟨g, 0, none⟩ := by
    rcases ho.2 with ⟨e, h3⟩ | ⟨g, cap', cur, e, -⟩
    · omega
    · simp only [Value.slice.injEq] at e
      exact ⟨g, e.1⟩
  have hgo := hown' g rfl
  refine ⟨wa, g, cap, w', hWa, hr, ⟨row ++ [.int .i64 0, .int .i64 0, .string ⟨#[]⟩, .slice none 0 0], by simpa using ho, fun k hk => Or.inr hk, ?_⟩, ?_, ?_⟩
  · refine (((hall.base (B' := fun k => P k ∧ k < wa.heap.size) (fun k h1 h2 => ⟨by
      rcases h1.1 with h | h
      · exact h
      · exact absurd h h1.2, h2⟩)).append hone).since ⟨hg.size, fun k h1 h2 => hg.block k h2 (fun e => hnk k e.symm h1.1)⟩).base (fun k h1 _ => ?_)
    have hk : k ≠ g := by
      rintro rfl
      rcases hgo with e | e
      · exact hnk k e h1.1
      · have := h1.2; omega
    exact ⟨Or.inl ⟨h1.1, hk⟩, fun e => hk (Option.some.inj e).symm⟩
  · exact ⟨hg.os.trans hba.os, hg.tape.trans hba.tape, hg.output.trans hba.output, Nat.le_trans hba.size hg.size, fun k h1 h2 => (hg.block k (Nat.lt_of_lt_of_le h2 hba.size) (fun e => h1 e.symm)).trans (hba.block k h2)⟩
  · rcases hgo with e | e
    · exact Or.inl e
    · exact Or.inr (by omega)
section
variable {e : En} {P : Nat → Prop} {ks : Value} {loc stk sts : List V} {fl q : Int} {dn : Bool} {x : V} {xs : Value} {w w' : World}
theorem LS.pushed {y : V} {ys : Value} {g cap : Nat} {w8 w9 : World} (h : LS e P ks loc stk sts fl q dn x xs w) (hy : IsW P w y ys) (hR : Rw (fun k => P k ∧ k ≠ g) w8 (.slice (some ⟨g, 0, none⟩) (stk.length + 1) cap) (stk ++ [V.zero])) (hf8 : Fr (fun k => ks.ownBlock ≠ some k) w w8) (hgo : ks.ownBlock = some g ∨ w.heap.size ≤ g)
    (h9 : w9 = set4At (w8.setCell ⟨e.b, 2, none⟩ (.slice (some ⟨g, 0, none⟩) (stk.length + 1) cap)) g (stk.length * 4) (.int .i64 y.k) (.int .i64 y.n) (.string ⟨y.t.toArray⟩) ys ∨ w9 = (set4At w8 g (stk.length * 4) (.int .i64 y.k) (.int .i64 y.n) (.string ⟨y.t.toArray⟩) ys).setCell ⟨e.b, 2, none⟩ (.slice (some ⟨g, 0, none⟩) (stk.length + 1) cap)) :
    LS e (fun k => P k ∧ k ≠ g) (.slice (some ⟨g, 0, none⟩) (stk.length + 1) cap) loc (stk ++ [y]) sts fl q dn x xs w9 ∧ Fr (fun k => ks.ownBlock ≠ some k ∧ k ≠ e.b) w w9 := by
  have hbw := h.fr.lt
  have hgb : g ≠ e.b := by
    rcases hgo with h1 | h1
    · exact (h.lk g h1).2.1
    · omega
  have hkb : ks.ownBlock ≠ some e.b := fun e1 => (h.lk _ e1).2.1 rfl
  have hsF : Fr (fun k => k ≠ g ∧ k ≠ e.b) w8 w9 := by
    have s4 : ∀ wx, Fr (fun k => k ≠ g ∧ k ≠ e.b) wx (set4At wx g (stk.length * 4) (.int .i64 y.k) (.int .i64 y.n) (.string ⟨y.t.toArray⟩) ys) := fun wx => (((Fr.set (by simp) _ _).trans (Fr.set (by simp) _ _)).trans (Fr.set (by simp) _ _)).trans (Fr.set (by simp) _ _)
    have s1 : ∀ wx v, Fr (fun k => k ≠ g ∧ k ≠ e.b) wx (World.setCell wx ⟨e.b, 2, none⟩ v) := fun wx v => Fr.set (by simp) _ _
    rcases h9 with rfl | rfl
    · exact (s1 _ _).trans (s4 _)
    · exact (s4 _).trans (s1 _ _)
  have hF : Fr (fun k => ks.ownBlock ≠ some k ∧ k ≠ e.b) w w9 := ⟨hsF.os.trans hf8.os, hsF.tape.trans hf8.tape, hsF.output.trans hf8.output, Nat.le_trans hf8.size hsF.size, fun k hk hl => (hsF.block k ⟨fun e1 => by
    rcases hgo with h1 | h1
    · exact hk.1 (e1 ▸ h1)
    · omega, hk.2⟩ (Nat.lt_of_lt_of_le hl hf8.size)).trans (hf8.block k hk.1 hl)⟩
  have hL8 : Lf e.b e.p w8 e.ls ks q dn x xs := h.fr.keep (hf8.block _ hkb hbw)
  have hL9 : Lf e.b e.p w9 e.ls (.slice (some ⟨g, 0, none⟩) (stk.length + 1) cap) q dn x xs := by
    rcases h9 with rfl | rfl
    · exact (hL8.setK _).keep (set4At_other hgb.symm _ _ _ _ _)
    · exact (hL8.keep (set4At_other hgb.symm _ _ _ _ _)).setK _
  have hy8 : IsW (fun k => P k ∧ k ≠ g) w8 y ys := (hy.base (B' := fun k => P k ∧ k ≠ g) (fun k hk hl => ⟨hk, fun e1 => by
    rcases hgo with h1 | h1
    · exact h.nk g h1 (e1 ▸ hk)
    · omega⟩)).since ⟨hf8.size, fun k hk hl => hf8.block k (fun e1 => h.nk k e1 hk.1) hl⟩
  have hset : ∀ wx, Rw (fun k => P k ∧ k ≠ g) wx (.slice (some ⟨g, 0, none⟩) (stk.length + 1) cap) (stk ++ [V.zero]) → IsW (fun k => P k ∧ k ≠ g) wx y ys → Rw (fun k => P k ∧ k ≠ g) (set4At wx g (stk.length * 4) (.int .i64 y.k) (.int .i64 y.n) (.string ⟨y.t.toArray⟩) ys) (.slice (some ⟨g, 0, none⟩) (stk.length + 1) cap) (stk ++ [y]) := fun wx h1 h2 => by
    have h3 := h1.set (i := stk.length) (x := y) (by simp) (isV_iff.2 ⟨ys, rfl, h2.base (fun k hk _ => ⟨Or.inl hk, hk.2⟩)⟩)
    rw [set_split (by simp)] at h3
    have e1 : (stk ++ [V.zero]).set stk.length y = stk ++ [y] := by simp
    rw [e1] at h3
    exact h3
  have hbs : ∀ {wx : World} {v : Value}, Fr (fun k => k ≠ e.b) wx (World.setCell wx ⟨e.b, 2, none⟩ v) := fun {wx v} => Fr.set (by simp) _ _
  have hstep : ∀ {wx : World} {v : Value} {l : List V}, Rw (fun k => P k ∧ k ≠ g) wx (.slice (some ⟨g, 0, none⟩) (stk.length + 1) cap) l → Rw (fun k => P k ∧ k ≠ g) (World.setCell wx ⟨e.b, 2, none⟩ v) (.slice (some ⟨g, 0, none⟩) (stk.length + 1) cap) l := fun {wx v l} h1 => h1.since ⟨hbs.size, fun k hk hl => hbs.block k (by
    rcases hk with hk | hk
    · exact fun e1 => h.nb (e1 ▸ hk.1)
    · exact fun e1 => hgb ((Option.some.inj hk).trans e1)) hl⟩
  have hk9 : Rw (fun k => P k ∧ k ≠ g) w9 (.slice (some ⟨g, 0, none⟩) (stk.length + 1) cap) (stk ++ [y]) := by
    rcases h9 with rfl | rfl
    · exact hset _ (hstep hR) (hy8.since ⟨hbs.size, fun k hk hl => hbs.block k (fun e1 => h.nb (e1 ▸ hk.1)) hl⟩)
    · exact hstep (hset _ hR hy8)
  refine ⟨h.grown hF hL9 (fun k hk => hk.1) (fun k hk hl => ⟨hk, fun e1 => by
    rcases hgo with h1 | h1
    · exact h.nk g h1 (e1 ▸ hk)
    · omega⟩) hk9 (fun k e1 => ⟨fun hk => hk.2 (Option.some.inj e1).symm, by obtain rfl := Option.some.inj e1; exact hgo⟩) (fun k hk => ⟨h.hi k (Nat.le_trans hF.size hk), fun e1 => ?_⟩), hF⟩
  have := (hk9.lt (k := g) rfl).2
  omega
set_option maxRecDepth 100000 in
set_option maxHeartbeats 4000000 in
theorem fpush_any {y : V} {ay : Option Addr} {cy : Nat} (h : LS e P ks loc stk sts fl q dn x xs w) (hy : IsW P w y (.slice ay y.l.length cy)) (hn : stk.length + 1 ≤ 900000) : Calls Tryz.prog 40 #[.pointer (some ⟨e.b, 0, none⟩), .agg #[.int .i64 y.k, .int .i64 y.n, .string ⟨y.t.toArray⟩, .slice ay y.l.length cy]] w fun r w' => r = .returned (.tuple #[]) ∧ (∃ P' ks', (∀ k, P' k → P k) ∧ LS e P' ks' loc (stk ++ [y]) sts fl q dn x xs w') ∧ Fr (fun k => ks.ownBlock ≠ some k ∧ k ≠ e.b) w w' := by
  obtain ⟨ak, ck, hks, hck, hcm⟩ := h.sk.slice
  subst hks
  obtain ⟨w0, hW0, hb0, hsz, d0, d1, d2, d3⟩ := boxed w y (.slice ay y.l.length cy)
  have h0 := h.keep hb0
  have hbd : Below w0.heap.size w0 w0.drew := below_drewN w0 1
  have hB : Below w.heap.size w w0.drew := hb0.trans (hbd.mono hb0.size)
  obtain ⟨wa, g, cap, w8, hWa, hr8, hR8, hf8, hgo⟩ := zpush_run (h0.keep hbd).sk h.nk hn (h0.keep hbd).hi
  have hbw := h.fr.lt
  have hbb : w.heap.size < w0.heap.size := by omega
  obtain ⟨b0, b1, b2, b3, b4⟩ := h0.fr.cells
  have hgo' : (Value.slice ak stk.length ck).ownBlock = some g ∨ w.heap.size ≤ g := by
    rcases hgo with h1 | h1
    · exact Or.inl h1
    · have h2 : w0.heap.size ≤ g := h1
      exact Or.inr (by omega)
  have hf8' : Fr (fun k => (Value.slice ak stk.length ck).ownBlock ≠ some k) w w8 := ⟨hf8.os.trans hB.os, hf8.tape.trans hB.tape, hf8.output.trans hB.output, Nat.le_trans hB.size hf8.size, fun k hk hl => (hf8.block k hk (Nat.lt_of_lt_of_le hl hB.size)).trans (hB.block k hl)⟩
  have hgb : g ≠ e.b := by
    rcases hgo' with h1 | h1
    · exact (h.lk g h1).2.1
    · omega
  obtain ⟨g', u0, u1, u2, u3, e1, -, hg8, q0, q1, q2, q3, r0, r1, r2, r3⟩ := hR8.cells (i := stk.length) (by simp)
  simp only [Option.some.injEq, Addr.mk.injEq] at e1
  obtain ⟨rfl, -⟩ := e1
  have hkb : (Value.slice ak stk.length ck).ownBlock ≠ some e.b := fun e1 => (h.lk _ e1).2.1 rfl
  have hL8 : Lf e.b e.p w8 e.ls (.slice ak stk.length ck) q dn x xs := h.fr.keep (hf8'.block _ hkb hbw)
  obtain ⟨c0, c1, c2, c3, c4⟩ := hL8.cells
  have f2 := hL8.open_ 2
  have hl8 := hL8.lt
  have hbg : e.b ≠ g := fun e1 => hgb e1.symm
  have HP : ∀ w9, w9 = set4At (w8.setCell ⟨e.b, 2, none⟩ (.slice (some ⟨g, 0, none⟩) (stk.length + 1) cap)) g (stk.length * 4) (.int .i64 y.k) (.int .i64 y.n) (.string ⟨y.t.toArray⟩) (.slice ay y.l.length cy) ∨ w9 = (set4At w8 g (stk.length * 4) (.int .i64 y.k) (.int .i64 y.n) (.string ⟨y.t.toArray⟩) (.slice ay y.l.length cy)).setCell ⟨e.b, 2, none⟩ (.slice (some ⟨g, 0, none⟩) (stk.length + 1) cap) → (∃ P' ks', (∀ k, P' k → P k) ∧ LS e P' ks' loc (stk ++ [y]) sts fl q dn x xs w9) ∧ Fr (fun k => (Value.slice ak stk.length ck).ownBlock ≠ some k ∧ k ≠ e.b) w w9 := fun w9 h9 => by
    obtain ⟨h1, h2⟩ := h.pushed hy hR8 hf8' hgo' h9
    exact ⟨⟨_, _, fun k hk => hk.1, h1⟩, h2⟩
  replace HP : Hid _ := HP
  have hnI : (stk.length : Int) < ((stk.length + 1 : Nat) : Int) := by omega
  have hn0 : (0 : Int) ≤ (stk.length : Int) := by omega
  have hb8 : e.b < w0.heap.size := by have := hb0.size; omega
  clear h hy h0 hR8 hf8 hf8' hgo hgo' hL8 hB hsz hbd
  go_enter Tryz.func40, Tryz.ntmps40
  go_wp2_with fail
  refine wpE_begin (S := fun w' => w'.cell? ⟨e.b, 2, none⟩ = some (.slice ak stk.length ck) ∧ w'.cell? ⟨w.heap.size, 0, none⟩ = some (.int .i64 y.k) ∧ w'.cell? ⟨w.heap.size, 1, none⟩ = some (.int .i64 y.n) ∧ w'.cell? ⟨w.heap.size, 2, none⟩ = some (.string ⟨y.t.toArray⟩) ∧ w'.cell? ⟨w.heap.size, 3, none⟩ = some (.slice ay y.l.length cy)) (N := fun j => decide (j < 7)) (by kernel_rfl) ?_
  have hS0 : w0.drew.cell? ⟨e.b, 2, none⟩ = some (.slice ak stk.length ck) ∧ w0.drew.cell? ⟨w.heap.size, 0, none⟩ = some (.int .i64 y.k) ∧ w0.drew.cell? ⟨w.heap.size, 1, none⟩ = some (.int .i64 y.n) ∧ w0.drew.cell? ⟨w.heap.size, 2, none⟩ = some (.string ⟨y.t.toArray⟩) ∧ w0.drew.cell? ⟨w.heap.size, 3, none⟩ = some (.slice ay y.l.length cy) := ⟨b2, d0, d1, d2, d3⟩
  refine wpE_takeX (some 4) (fun j => [1, 2, 3, 5, 7, 8, 9, 10, 11, 12].contains j) (i := 0) (v := .pointer (some ⟨e.b, 0, none⟩)) rfl rfl (by kernel_rfl) (by kernel_rfl) (by kernel_rfl) (by kernel_rfl) (fun j hj => by simp at hj; show j < 13; omega) (fun _ _ _ h => h) rfl (fun w' hS => by obtain ⟨g0, g1, g2, g3, g4⟩ := hS; go_simp) hS0 ?_
  try simp only [Act.put, List.setIfInBounds_toArray, List.set_cons_zero, List.set_cons_succ]
  refine wpE_takeX (some 5) (fun j => [2, 3, 5, 7, 8, 9, 10, 11, 12].contains j) (i := 1) (v := .pointer (some ⟨e.b, 0, none⟩)) rfl rfl (by kernel_rfl) (by kernel_rfl) (by kernel_rfl) (by kernel_rfl) (fun j hj => by simp at hj; show j < 13; omega) (fun _ _ _ h => h) rfl (fun w' hS => by obtain ⟨g0, g1, g2, g3, g4⟩ := hS; go_simp) hS0 ?_
  try simp only [Act.put, List.setIfInBounds_toArray, List.set_cons_zero, List.set_cons_succ]
  refine wpE_takeX (some 6) (fun j => [3, 5, 7, 8, 9, 10, 11, 12].contains j) (i := 2) (v := .pointer (some ⟨e.b, 2, none⟩)) rfl rfl (by kernel_rfl) (by kernel_rfl) (by kernel_rfl) (by kernel_rfl) (fun j hj => by simp at hj; show j < 13; omega) (fun _ _ _ h => h) rfl (fun w' hS => by obtain ⟨g0, g1, g2, g3, g4⟩ := hS; go_simp) hS0 ?_
  try simp only [Act.put, List.setIfInBounds_toArray, List.set_cons_zero, List.set_cons_succ]
  refine wpE_takeX (some 7) (fun j => [5, 7, 8, 9, 10, 11, 12].contains j) (i := 3) (v := .slice ak stk.length ck) rfl rfl (by kernel_rfl) (by kernel_rfl) (by kernel_rfl) (by kernel_rfl) (fun j hj => by simp at hj; show j < 13; omega) (fun _ _ _ h => h) rfl (fun w' hS => by obtain ⟨g0, g1, g2, g3, g4⟩ := hS; go_simp) hS0 ?_
  try simp only [Act.put, List.setIfInBounds_toArray, List.set_cons_zero, List.set_cons_succ]
  refine wpE_takeX (some 8) (fun j => [7, 8, 9, 10, 11, 12].contains j) (i := 4) (v := .agg #[.int .i64 y.k, .int .i64 y.n, .string ⟨y.t.toArray⟩, .slice ay y.l.length cy]) rfl rfl (by kernel_rfl) (by kernel_rfl) (by kernel_rfl) (by kernel_rfl) (fun j hj => by simp at hj; show j < 13; omega) (fun _ _ _ h => h) rfl (fun w' hS => by obtain ⟨g0, g1, g2, g3, g4⟩ := hS; go_simp) hS0 ?_
  try simp only [Act.put, List.setIfInBounds_toArray, List.set_cons_zero, List.set_cons_succ]
  refine wpE_takeX (some 9) (fun j => [7, 8, 9, 10, 11, 12].contains j) (i := 5) (v := .int .i64 (stk.length : Int)) rfl rfl (by kernel_rfl) (by kernel_rfl) (by kernel_rfl) (by kernel_rfl) (fun j hj => by simp at hj; show j < 13; omega) (fun _ _ _ h => h) rfl (fun w' hS => by obtain ⟨g0, g1, g2, g3, g4⟩ := hS; go_simp) hS0 ?_
  try simp only [Act.put, List.setIfInBounds_toArray, List.set_cons_zero, List.set_cons_succ]
  refine wpE_one (i := 6) (by kernel_rfl) rfl rfl (fun K hK => ?_)
  go_simp
  refine hK _ _ (fun _ => by obtain ⟨g0, g1, g2, g3, g4⟩ := hS0; rw [← hWa]; have hbx : w.heap.size < w0.drew.heap.size := hbb; have hby : e.b < w0.drew.heap.size := hb8; obtain ⟨fx, -⟩ := bcell ((Below.refl w0.drew.heap.size w0.drew).alloc (Nat.le_refl _) (.cells #[.int .i64 0, .int .i64 0, .string ⟨#[]⟩, .slice none 0 0] 31)); exact ⟨(fx _ _ hby).trans g0, (fx _ _ hbx).trans g1, (fx _ _ hbx).trans g2, (fx _ _ hbx).trans g3, (fx _ _ hbx).trans g4⟩) ?_
  clear hK K
  try simp only [Act.put, List.setIfInBounds_toArray, List.set_cons_zero, List.set_cons_succ]
  refine wpE_one (i := 7) (by kernel_rfl) rfl rfl (fun K hK => ?_)
  refine wp_append_run _ _ 22 rfl _ _ rfl rfl _ _ hr8 ?_
  refine hK _ _ (fun h => by cases h) ?_
  clear hK K
  try simp only [Act.put, List.setIfInBounds_toArray, List.set_cons_zero, List.set_cons_succ]
  refine wpE_takeLX (some 12) (i := 8) (v := .pointer (some ⟨g, stk.length * 4, none⟩)) rfl rfl (by kernel_rfl) (by kernel_rfl) (by kernel_rfl) rfl (fun _ _ _ h => h) rfl (fun w' => by go_simp; intro hh; exfalso; omega) ?_
  try simp only [Act.put, List.setIfInBounds_toArray, List.set_cons_zero, List.set_cons_succ]
  refine wpE_takeLX (some 13) (i := 10) (v := .pointer (some ⟨e.b, 0, none⟩)) rfl rfl (by kernel_rfl) (by kernel_rfl) (by kernel_rfl) rfl (fun _ _ _ h => h) rfl (fun w' => by go_simp) ?_
  try simp only [Act.put, List.setIfInBounds_toArray, List.set_cons_zero, List.set_cons_succ]
  refine wpE_takeLX (some 14) (i := 11) (v := .pointer (some ⟨e.b, 2, none⟩)) rfl rfl (by kernel_rfl) (by kernel_rfl) (by kernel_rfl) rfl (fun _ _ _ h => h) rfl (fun w' => by go_simp) ?_
  try simp only [Act.put, List.setIfInBounds_toArray, List.set_cons_zero, List.set_cons_succ]
  refine wpE_two (i := 9) (j := 12) (by kernel_rfl) rfl rfl rfl rfl (fun K hK => ?_) (fun K hK => ?_)
  · go_simp
    refine hK _ _ (fun h => by cases h) ?_
    clear hK K
    try simp only [Act.put, List.setIfInBounds_toArray, List.set_cons_zero, List.set_cons_succ]
    refine wpE_one (i := 12) (by kernel_rfl) rfl rfl (fun K hK => ?_)
    go_simp
    refine hK _ _ (fun h => by cases h) ?_
    clear hK K
    try simp only [Act.put, List.setIfInBounds_toArray, List.set_cons_zero, List.set_cons_succ]
    refine wpE_done (by kernel_rfl) ?_
    exact bodyPost_end (results_none rfl _ _ _) rfl ⟨rfl, HP.out _ (Or.inr rfl)⟩
  · go_simp
    refine hK _ _ (fun h => by cases h) ?_
    clear hK K
    try simp only [Act.put, List.setIfInBounds_toArray, List.set_cons_zero, List.set_cons_succ]
    refine wpE_one (i := 9) (by kernel_rfl) rfl rfl (fun K hK => ?_)
    go_simp
    refine hK _ _ (fun h => by cases h) ?_
    clear hK K
    try simp only [Act.put, List.setIfInBounds_toArray, List.set_cons_zero, List.set_cons_succ]
    refine wpE_done (by kernel_rfl) ?_
    exact bodyPost_end (results_none rfl _ _ _) rfl ⟨rfl, HP.out _ (Or.inl rfl)⟩
end
end Go.Proofs.YtnijcolomoobnaaGreatDoor
