/- Texts of ours, joined: Oqa, Oxb. -/
import Derived.Test.YtnijcolomoobnaaGreatDoorK16
import Derived.Test.YtnijcolomoobnaaGreatDoorShelf
import Derived.Lib.ItoaLen
import Derived.Lib.AppendIntMem
namespace Go.Proofs.YtnijcolomoobnaaGreatDoor
open Go.RowKit
set_option linter.unusedVariables false
set_option linter.unusedSimpArgs false

def Tb15 (base : Nat) (w : World) : Prop := Lib.TabBelow Tryz.prog base w "internal/strconv.uint64pow10" .u64 Lib.pow10Tab
theorem Tb15.mono {base : Nat} {w w' : World} (h : Tb15 base w) (k : Below base w w') : Tb15 base w' := fun w2 h2 => h w2 (k.trans h2)
theorem Tb15.fr {base : Nat} {G : Nat → Prop} {w w' : World} (h : Tb15 base w) (k : Fr G w w') (hb : base ≤ w.heap.size) (hG : ∀ j, j < base → G j) : Tb15 base w' := h.mono (k.below hb hG)
open Classical in
noncomputable def it15 (n : Int) : List UInt8 := if InR n then Lib.itoa n else []
theorem it15_in {n : Int} (h : InR n) : it15 n = Lib.itoa n := by unfold it15; rw [if_pos h]
theorem it15_len (n : Int) : (it15 n).length ≤ 256 := by
  unfold it15
  split
  · rename_i h
    have := Lib.itoa_length_le n h.1 h.2
    omega
  · simp
theorem itoa15 {base : Nat} {n : Int} {w : World} (h : Tb15 base w) (hn : InR n) : Calls Tryz.prog 91 #[.int .i64 n] w fun r w' => r = .returned (.string ⟨(it15 n).toArray⟩) ∧ Below w.heap.size w w' := by
  refine (Tryz.strconv_Itoa n hn.1 hn.2 w h.here).mono ?_
  rintro r w' ⟨rfl, k, os, rfl⟩
  exact ⟨by rw [it15_in hn], Lib.below_grow _ _ (Nat.le_refl _) k os⟩
theorem str_any {base : Nat} {v : V} {sl : Value} {w : World} (hb : base ≤ w.heap.size) (h : Tb15 base w) (hn : InR v.n) : Calls Tryz.prog 57 #[.agg #[.int .i64 v.k, .int .i64 v.n, .string ⟨v.t.toArray⟩, sl]] w fun r w' => VTwo (strV (it15 v.n) v) w r w' := str_of (by have := it15_len v.n; omega) (fun w' hw => itoa15 (h.mono (hw.mono hb)) hn)
theorem strV_w (v : V) : (strV (it15 v.n) v).1.l = [] ∧ InR (strV (it15 v.n) v).1.k ∧ InR (strV (it15 v.n) v).1.n ∧ (strV (it15 v.n) v).1.t.length ≤ maxLen := by
  have hr : ∀ n : Int, 0 ≤ n → n ≤ 100 → InR n := fun n h1 h2 => by unfold InR; omega
  unfold strV
  split
  · refine ⟨rfl, hr 3 (by omega) (by omega), hr 0 (by omega) (by omega), ?_⟩
    show (it15 v.n).length ≤ maxLen
    have := it15_len v.n
    unfold maxLen
    omega
  · exact ⟨rfl, hr 0 (by omega) (by omega), hr 0 (by omega) (by omega), by unfold maxLen; simp [V.t]⟩
end Go.Proofs.YtnijcolomoobnaaGreatDoor
namespace Go.Proofs.YtnijcolomoobnaaGreatDoor
open Go.RowKit
set_option linter.unusedVariables false
set_option linter.unusedSimpArgs false

def Bq (A : Nat → Prop) (ls : Value) : Nat → Prop := fun k => A k ∧ ls.ownBlock ≠ some k
structure VmO (base p : Nat) (A : Nat → Prop) (m : Md) (cs fs ss : Value) (sts : List V) (fl tr : Int) (w : World) : Prop where
  mc : Mc p w cs fs ss fl tr
  md : IsMd A w m cs fs
  st : Gv (fun k => A k ∨ ss.ownBlock = some k) w ss sts
  tb : Tb15 base w
  bp : base ≤ p
  bs : ∀ k, ss.ownBlock = some k → base ≤ k
  np : ¬ A p
  ns : ∀ k, ss.ownBlock = some k → ¬ A k
  sp : ss.ownBlock ≠ some p
  hi : ∀ k, w.heap.size ≤ k → A k
structure VmS (base p : Nat) (A : Nat → Prop) (m : Md) (cs fs ss ls : Value) (loc sts : List V) (fl tr : Int) (w : World) : Prop where
  mc : Mc p w cs fs ss fl tr
  md : IsMd (Bq A ls) w m cs fs
  st : Gv (fun k => Bq A ls k ∨ ss.ownBlock = some k) w ss sts
  lc : Gv A w ls loc
  tb : Tb15 base w
  bp : base ≤ p
  bs : ∀ k, ss.ownBlock = some k → base ≤ k
  bl : ∀ k, ls.ownBlock = some k → base ≤ k
  np : ¬ A p
  ns : ∀ k, ss.ownBlock = some k → ¬ A k
  sp : ss.ownBlock ≠ some p
  hi : ∀ k, w.heap.size ≤ k → A k
theorem Gv.lt {P : Nat → Prop} {w : World} {sl : Value} {acc : List V} (h : Gv P w sl acc) {k : Nat} (hk : sl.ownBlock = some k) : P k ∧ k < w.heap.size := by
  obtain ⟨row, h1, h2, h3⟩ := h
  exact ⟨h2 k hk, (h1.lt k hk).2⟩
theorem Gv.elems {P : Nat → Prop} {w : World} {sl : Value} {acc : List V} (h : Gv P w sl acc) : ∃ row, w.ownsRow 0 31 4 sl acc.length row ∧ AllV (fun k => P k ∧ sl.ownBlock ≠ some k) w acc row := by
  obtain ⟨row, h1, h2, h3⟩ := h
  exact ⟨row, h1, h3⟩
section
variable {base p : Nat} {A : Nat → Prop} {m : Md} {cs fs ss ls : Value} {loc sts : List V} {fl tr : Int} {w w' : World}
theorem VmS.bq (h : VmS base p A m cs fs ss ls loc sts fl tr w) {k : Nat} (hk : w.heap.size ≤ k) : Bq A ls k := ⟨h.hi k hk, fun e => by have := (h.lc.lt e).2; omega⟩
theorem VmS.le (h : VmS base p A m cs fs ss ls loc sts fl tr w) : base ≤ w.heap.size := by have := h.mc.lt; have := h.bp; omega
theorem VmO.le (h : VmO base p A m cs fs ss sts fl tr w) : base ≤ w.heap.size := by have := h.mc.lt; have := h.bp; omega
theorem VmO.keep (h : VmO base p A m cs fs ss sts fl tr w) (hb : Below w.heap.size w w') : VmO base p A m cs fs ss sts fl tr w' :=
  ⟨h.mc.below hb, h.md.below hb, h.st.below hb, h.tb.mono (hb.mono h.le), h.bp, h.bs, h.np, h.ns, h.sp, fun k hk => h.hi k (Nat.le_trans hb.size hk)⟩
theorem VmS.keep (h : VmS base p A m cs fs ss ls loc sts fl tr w) (hb : Below w.heap.size w w') : VmS base p A m cs fs ss ls loc sts fl tr w' :=
  ⟨h.mc.below hb, h.md.below hb, h.st.below hb, h.lc.below hb, h.tb.mono (hb.mono h.le), h.bp, h.bs, h.bl, h.np, h.ns, h.sp, fun k hk => h.hi k (Nat.le_trans hb.size hk)⟩
theorem VmS.box {fl' tr' : Int} (h : VmS base p A m cs fs ss ls loc sts fl tr w) (hf : Fr (fun k => k ≠ p) w w') (hm : Mc p w' cs fs ss fl' tr') : VmS base p A m cs fs ss ls loc sts fl' tr' w' := by
  have hA : ∀ k, A k → k ≠ p := fun k hk e => h.np (e ▸ hk)
  exact ⟨hm, h.md.since ⟨hf.size, fun k hk hl => hf.block k (hA k hk.1) hl⟩, h.st.since ⟨hf.size, fun k hk hl => hf.block k (by
    rcases hk with hk | hk
    · exact hA k hk.1
    · rintro rfl; exact h.sp hk) hl⟩, h.lc.since ⟨hf.size, fun k hk hl => hf.block k (hA k hk) hl⟩, h.tb.fr hf h.le (fun j hj => by have := h.bp; show j ≠ p; omega), h.bp, h.bs, h.bl, h.np, h.ns, h.sp, fun k hk => h.hi k (Nat.le_trans hf.size hk)⟩
theorem set_split {l : List V} {i : Nat} {x : V} (hi : i < l.length) : l.take i ++ [x] ++ l.drop (i + 1) = l.set i x := by
  rw [List.set_eq_take_append_cons_drop, if_pos hi]
  simp
theorem own_ne {g n cap : Nat} {k : Nat} (hk : (Value.slice (some ⟨g, 0, none⟩) n cap).ownBlock ≠ some k) : k ≠ g := fun e => hk (by rw [e]; rfl)
theorem VmS.setL {gl n cap : Nat} (h : VmS base p A m cs fs ss (.slice (some ⟨gl, 0, none⟩) n cap) loc sts fl tr w) {i : Nat} (hi : i < loc.length) {x : V} {xs : Value} (hx : IsW (Bq A (.slice (some ⟨gl, 0, none⟩) n cap)) w x xs) : VmS base p A m cs fs ss (.slice (some ⟨gl, 0, none⟩) n cap) (loc.set i x) sts fl tr (set4At w gl (i * 4) (.int .i64 x.k) (.int .i64 x.n) (.string ⟨x.t.toArray⟩) xs) := by
  have hgl := h.lc.lt (k := gl) rfl
  have hs : ∀ {P : Nat → Prop}, (¬ P gl) → Since P w (set4At w gl (i * 4) (.int .i64 x.k) (.int .i64 x.n) (.string ⟨x.t.toArray⟩) xs) := fun {P} h => since_set4At h _ _ _ _ _
  have hb : Below gl w (set4At w gl (i * 4) (.int .i64 x.k) (.int .i64 x.n) (.string ⟨x.t.toArray⟩) xs) := below_set4At (Below.refl _ _) (Nat.le_refl _) _ _ _ _ _
  refine ⟨h.mc.keep ?_, h.md.since (hs (fun hk => own_ne hk.2 rfl)), h.st.since (hs ?_), ?_, h.tb.mono (hb.mono (h.bl gl rfl)), h.bp, h.bs, h.bl, h.np, h.ns, h.sp, fun k hk => h.hi k (Nat.le_trans hb.size hk)⟩
  · exact (hs (P := fun k => k ≠ gl) (by simp)).block p (fun e => h.np (e ▸ hgl.1)) h.mc.lt
  · rintro (hk | hk)
    · exact own_ne hk.2 rfl
    · exact h.ns gl hk hgl.1
  · rw [← set_split hi]
    exact h.lc.set hi (isV_iff.2 ⟨xs, rfl, hx.base (fun k hk _ => ⟨hk.1, own_ne hk.2⟩)⟩)
theorem VmS.setS {gs n cap : Nat} (h : VmS base p A m cs fs (.slice (some ⟨gs, 0, none⟩) n cap) ls loc sts fl tr w) {i : Nat} (hi : i < sts.length) {x : V} {xs : Value} (hx : IsW (Bq A ls) w x xs) : VmS base p A m cs fs (.slice (some ⟨gs, 0, none⟩) n cap) ls loc (sts.set i x) fl tr (set4At w gs (i * 4) (.int .i64 x.k) (.int .i64 x.n) (.string ⟨x.t.toArray⟩) xs) := by
  have hgs := h.st.lt (k := gs) rfl
  have hnA := h.ns gs rfl
  have hs : ∀ {P : Nat → Prop}, (¬ P gs) → Since P w (set4At w gs (i * 4) (.int .i64 x.k) (.int .i64 x.n) (.string ⟨x.t.toArray⟩) xs) := fun {P} h => since_set4At h _ _ _ _ _
  have hb : Below gs w (set4At w gs (i * 4) (.int .i64 x.k) (.int .i64 x.n) (.string ⟨x.t.toArray⟩) xs) := below_set4At (Below.refl _ _) (Nat.le_refl _) _ _ _ _ _
  refine ⟨h.mc.keep ?_, h.md.since (hs (fun hk => hnA hk.1)), ?_, h.lc.since (hs hnA), h.tb.mono (hb.mono (h.bs gs rfl)), h.bp, h.bs, h.bl, h.np, h.ns, h.sp, fun k hk => h.hi k (Nat.le_trans hb.size hk)⟩
  · exact (hs (P := fun k => k ≠ gs) (by simp)).block p (fun e => h.sp (by rw [e]; rfl)) h.mc.lt
  · rw [← set_split hi]
    exact h.st.set hi (isV_iff.2 ⟨xs, rfl, hx.base (fun k hk _ => ⟨Or.inl hk, fun e => hnA (e ▸ hk.1)⟩)⟩)
theorem VmO.enter (h : VmO base p A m cs fs ss sts fl tr w) (hb : Below w.heap.size w w') (hl : Gv A w' ls loc) (hn : ∀ k, ls.ownBlock = some k → w.heap.size ≤ k) : VmS base p A m cs fs ss ls loc sts fl tr w' := by
  have hne : ∀ k, k < w.heap.size → ls.ownBlock ≠ some k := fun k hk e => by have := hn k e; omega
  have hle := h.le
  exact ⟨h.mc.below hb, (h.md.base (fun k hk hlt => ⟨hk, hne k hlt⟩)).below hb, (h.st.base (fun k hk hlt => by
    rcases hk with hk | hk
    · exact Or.inl ⟨hk, hne k hlt⟩
    · exact Or.inr hk)).below hb, hl, h.tb.mono (hb.mono hle), h.bp, h.bs, fun k e => by have := hn k e; omega, h.np, h.ns, h.sp, fun k hk => h.hi k (Nat.le_trans hb.size hk)⟩
theorem VmS.call (h : VmS base p A m cs fs ss ls loc sts fl tr w) : VmO base p (Bq A ls) m cs fs ss sts fl tr w :=
  ⟨h.mc, h.md, h.st, h.tb, h.bp, h.bs, fun hk => h.np hk.1, fun k e hk => h.ns k e hk.1, h.sp, fun k hk => h.bq hk⟩
theorem VmS.back {sts' : List V} {fl' tr' : Int} (h : VmS base p A m cs fs ss ls loc sts fl tr w) (hf : Fr (fun k => k ≠ p ∧ ss.ownBlock ≠ some k) w w') (ho : VmO base p (Bq A ls) m cs fs ss sts' fl' tr' w') : VmS base p A m cs fs ss ls loc sts' fl' tr' w' :=
  ⟨ho.mc, ho.md, ho.st, h.lc.since ⟨hf.size, fun k hk hl => hf.block k ⟨fun e => h.np (e ▸ hk), fun e => h.ns k e hk⟩ hl⟩, ho.tb, h.bp, h.bs, h.bl, h.np, h.ns, h.sp, fun k hk => h.hi k (Nat.le_trans hf.size hk)⟩
end
theorem Gv.get {P : Nat → Prop} {w : World} {ao : Option Addr} {n cap : Nat} {acc : List V} (h : Gv P w (.slice ao n cap) acc) {i : Nat} {x : V} (hi : acc[i]? = some x) : ∃ g ax cx, ao = some ⟨g, 0, none⟩ ∧ g < w.heap.size ∧ n = acc.length ∧ w.cell? ⟨g, i * 4, none⟩ = some (.int .i64 x.k) ∧ w.cell? ⟨g, i * 4 + 1, none⟩ = some (.int .i64 x.n) ∧ w.cell? ⟨g, i * 4 + 2, none⟩ = some (.string ⟨x.t.toArray⟩) ∧ w.cell? ⟨g, i * 4 + 3, none⟩ = some (.slice ax x.l.length cx) ∧
    w.frozen? ⟨g, i * 4, none⟩ = false ∧ w.frozen? ⟨g, i * 4 + 1, none⟩ = false ∧ w.frozen? ⟨g, i * 4 + 2, none⟩ = false ∧ w.frozen? ⟨g, i * 4 + 3, none⟩ = false ∧ IsW (fun k => P k ∧ (Value.slice ao n cap).ownBlock ≠ some k) w x (.slice ax x.l.length cx) := by
  have hlt := (List.getElem?_eq_some_iff.1 hi).1
  obtain ⟨row, h1, h0, h2⟩ := h
  obtain ⟨cs, hc, hj⟩ := AllV.get h2 hi
  obtain ⟨sl, rfl, hw⟩ := isV_iff.1 hc
  obtain ⟨ax, cx, rfl, -, -⟩ := hw.vs.slice
  rcases h1.2 with ⟨e, h3⟩ | ⟨g, cap', cur, e, hb, hg, hn, hm, hsz, ht⟩
  · omega
  · simp only [Value.slice.injEq] at e
    obtain ⟨rfl, rfl, rfl⟩ := e
    have hcell : ∀ j u, j < 4 → row[i * 4 + j]? = some u → w.cell? ⟨g, i * 4 + j, none⟩ = some u := fun j u h4 hu => by
      rw [cell_block hg]
      rw [← ht, List.getElem?_take] at hu
      split at hu
      · simpa using hu
      · cases hu
    refine ⟨g, ax, cx, rfl, (Array.getElem?_eq_some_iff.1 hg).1, rfl, hcell 0 _ (by omega) (by rw [hj 0 (by omega)]; rfl), hcell 1 _ (by omega) (by rw [hj 1 (by omega)]; rfl), hcell 2 _ (by omega) (by rw [hj 2 (by omega)]; rfl), hcell 3 _ (by omega) (by rw [hj 3 (by omega)]; rfl), frozen_block hg _, frozen_block hg _, frozen_block hg _, frozen_block hg _, hw⟩
theorem resC {wq : World} {y0 y1 y2 y3 : Value} {T : TypeId} {g : Nat} (hx : wq.heap[g]? = some (.cells #[y0, y1, y2, y3] T (0, 0))) (x0 x1 x2 x3 : Value) : ∃ wN, (((wq.setCell ⟨g, 0, none⟩ x0).setCell ⟨g, 1, none⟩ x1).setCell ⟨g, 2, none⟩ x2).setCell ⟨g, 3, none⟩ x3 = wN ∧ wN.heap[g]? = some (.cells #[x0, x1, x2, x3] T (0, 0)) ∧ Fr (fun k => k ≠ g) wq wN ∧ wN.heap.size = wq.heap.size :=
  ⟨_, rfl, by simp [World.setCell, Array.getElem?_modify, hx], (((Fr.set (by simp) _ _).trans (Fr.set (by simp) _ _)).trans (Fr.set (by simp) _ _)).trans (Fr.set (by simp) _ _), by simp [World.setCell]⟩
end Go.Proofs.YtnijcolomoobnaaGreatDoor
