import Derived.Test.YtifebbdjdllfpaaGreatDoorPsB
/- An expression of a statement: the parser's reading. -/
namespace Go.Proofs.YtifebbdjdllfpaaGreatDoor
open Go.RowKit
set_option linter.unusedSimpArgs false
set_option linter.unusedVariables false

abbrev sO (k : Nat) (nm : Lx.B) (es b1 b2 : Value) (pl : Nat) : Obj := .cells #[.int .i64 k, .string ⟨nm.toArray⟩, .int .i64 0, .bool false, .int .i64 0, es, b1, b2, .int .i64 pl] 41 (0, 0)
abbrev feObj (gs gp gd : Nat) : Obj := .cells #[.func (.func 126) #[] #[.pointer (some ⟨gs, 0, none⟩), .pointer (some ⟨gp, 0, none⟩), .pointer (some ⟨gd, 0, none⟩)]] 1 (0, 0)
/-- At gx lies a statement whose expressions so far are acc; at ge the function that takes one. -/
structure PStBox (b gp gd gx ge d k : Nat) (nm : Lx.B) (b1 b2 : Value) (pl : Nat) (acc : List Px.Ex) (w : World) : Prop where
  ptr : w.heap[gp]? = some (ptrObj b)
  dep : w.heap[gd]? = some (depObj d)
  fe : w.heap[ge]? = some (feObj gx gp gd)
  box : ∃ sl, w.heap[gx]? = some (sO k nm sl b1 b2 pl) ∧ Gath (ge + 1) w sl acc
theorem PStBox.fo {b gp gd gx ge d k : Nat} {nm : Lx.B} {b1 b2 : Value} {pl : Nat} {acc : List Px.Ex} {w w' : World} (h : PStBox b gp gd gx ge d k nm b1 b2 pl acc w) (f : Fo b w.heap.size w w') (h1 : b < gp) (h2 : gp < gd) (h3 : gd < gx) (h4 : gx < ge) : PStBox b gp gd gx ge d k nm b1 b2 pl acc w' := by
  obtain ⟨hp, hd, he, sl, hx, hg⟩ := h
  exact ⟨(f.block gp (Array.getElem?_eq_some_iff.1 hp).1 (by omega)).trans hp, (f.block gd (Array.getElem?_eq_some_iff.1 hd).1 (by omega)).trans hd, (f.block ge (Array.getElem?_eq_some_iff.1 he).1 (by omega)).trans he, sl, (f.block gx (Array.getElem?_eq_some_iff.1 hx).1 (by omega)).trans hx, hg.fo f (by omega)⟩

set_option maxRecDepth 100000 in
set_option maxHeartbeats 8000000 in
theorem pstex_any {b ga n gp gd gx ge d : Nat} {k0 : Nat} {nm : Lx.B} {b1 b2 : Value} {pl : Nat} {q : Px.P Px.Ex} (hd : d ≤ 30) (hexp : ExprOk (d + 1) q) (h1 : b < gp) (h2 : gp < gd) (h3 : gd < gx) (h5 : gx < ge) (hga : ga < gp) (hng : n ≤ gx) (acc : List Px.Ex) (l : List Lx.Tok) (w : World) (h : Ps b ga l w) (hi : PStBox b gp gd gx ge d k0 nm b1 b2 pl acc w) (hn : n ≤ w.heap.size) (hal : acc.length + l.length ≤ 4096) :
    Calls Tryz.prog 126 #[.pointer (some ⟨gx, 0, none⟩), .pointer (some ⟨gp, 0, none⟩), .pointer (some ⟨gd, 0, none⟩)] w fun e w' => PartPost b ga n (PStBox b gp gd gx ge d k0 nm b1 b2 pl) acc w (q l) e w' := by
  obtain ⟨i0, hi0, hz0, hz1, hz2⟩ := info_parts exprInfo
  obtain ⟨hp, hdp, hfe, sl, hx, row, hown, hall⟩ := hi
  have hle : ge < w.heap.size := (Array.getElem?_eq_some_iff.1 hfe).1
  have hlp : gp < w.heap.size := (Array.getElem?_eq_some_iff.1 hp).1
  have hld : gd < w.heap.size := (Array.getElem?_eq_some_iff.1 hdp).1
  have hlx : gx < w.heap.size := (Array.getElem?_eq_some_iff.1 hx).1
  have c0 := cell_of_one hp
  have d0 := cell_of_one hdp
  have c6 : w.cell? ⟨gx, 5, none⟩ = some sl := by simp [World.cell?, hx]
  have k6 : w.frozen? ⟨gx, 5, none⟩ = false := by simp [World.frozen?, hx]
  obtain ⟨ao, cap, rfl⟩ := slice_of hown
  have hC : ∀ w', Ps b ga l w' → Calls Tryz.prog 127 #[.pointer (some ⟨b, 0, none⟩), .int .i64 ((d : Int) + 1)] w' fun e w'' => ExPost b ga w' (q l) e w'' := fun w' h' => hexp b ga l w' h'
  have hdI : (d : Int) ≤ 30 := by omega
  have hwr : IntKind.i64.wrap ((d : Int) + 1) = (d : Int) + 1 := IntWalk.i64_in _ (by omega)
  have hp1 : Ps b ga l w.drew := h.keep rfl rfl (Nat.le_refl _)
  have hp2 : ∀ o, Ps b ga l (w.alloc o).drew := fun o => (h.alloc o).keep rfl rfl (Nat.le_refl _)
  have hSd : ∀ o, (w.alloc o).drew.cell? ⟨gp, 0, none⟩ = some (.pointer (some ⟨b, 0, none⟩)) ∧ (w.alloc o).drew.cell? ⟨gd, 0, none⟩ = some (.int .i64 d) ∧ (w.alloc o).drew.cell? ⟨gx, 5, none⟩ = some (.slice ao acc.length cap) := fun o => ⟨(World.cell?_of_block (w := w) (heap_old hlp)).trans c0, (World.cell?_of_block (w := w) (heap_old hld)).trans d0, (World.cell?_of_block (w := w) (heap_old hlx)).trans c6⟩
  have hnlt : (acc.length : Int) < (acc.length : Int) + 1 := by omega
  have hn4 : acc.length ≤ 4096 := by omega
  rcases hq : q l with ⟨x, l'⟩ | ⟨a, er⟩
  · rw [hq] at hC
    have hC1 : Calls Tryz.prog 127 #[.pointer (some ⟨b, 0, none⟩), .int .i64 ((d : Int) + 1)] w.drew fun e w'' => ∃ k o nn t ao2 an2 ac2 p, e = .returned (eV k o nn t (.slice ao2 an2 ac2) p) ∧ IsEx (From w.heap.size) w'' x (eL k o nn t (.slice ao2 an2 ac2) p) ∧ Ps b ga l' w'' ∧ Fo b w.heap.size w w'' := by
      refine (hC _ hp1).mono ?_
      rintro e w'' ⟨v, rfl, ⟨k, o, nn, t, ao2, an2, ac2, p, rfl, hxx⟩, h4, fo4⟩
      exact ⟨k, o, nn, t, ao2, an2, ac2, p, rfl, hxx, h4, (Fo.drew b _ w).trans fo4⟩
    have hC2 : ∀ o, Calls Tryz.prog 127 #[.pointer (some ⟨b, 0, none⟩), .int .i64 ((d : Int) + 1)] (w.alloc o).drew fun e w'' => ∃ k o1 nn t ao2 an2 ac2 p, e = .returned (eV k o1 nn t (.slice ao2 an2 ac2) p) ∧ IsEx (From w.heap.size) w'' x (eL k o1 nn t (.slice ao2 an2 ac2) p) ∧ Ps b ga l' w'' ∧ Fo b w.heap.size w w'' ∧ w''.heap[w.heap.size]? = some o := by
      intro o
      refine (hC _ (hp2 o)).mono ?_
      rintro e w'' ⟨v, rfl, ⟨k, o1, nn, t, ao2, an2, ac2, p, rfl, hxx⟩, h4, fo4⟩
      have hsz : (w.alloc o).drew.heap.size = w.heap.size + 1 := by show (w.alloc o).heap.size = _; simp
      refine ⟨k, o1, nn, t, ao2, an2, ac2, p, rfl, hxx.base (from_mono (by omega)), h4, (((Fo.refl b _ w).alloc (Nat.le_refl _) o).trans (Fo.drew _ _ _)).trans (fo4.mono (by omega)), ?_⟩
      rw [fo4.block _ (by omega) (by have := h.there; omega)]
      exact heap_new w o
    have hfac : ∀ w4, Fo b w.heap.size w w4 → w4.cell? ⟨gp, 0, none⟩ = some (.pointer (some ⟨b, 0, none⟩)) ∧ w4.cell? ⟨gd, 0, none⟩ = some (.int .i64 d) ∧ w4.cell? ⟨gx, 5, none⟩ = some (.slice ao acc.length cap) ∧ ge < w4.heap.size ∧ w4.ownsRow (ge + 1) 24 8 (.slice ao acc.length cap) acc.length row := fun w4 f => ⟨(f.cell hlp (by omega)).trans c0, (f.cell hld (by omega)).trans d0, (f.cell hlx (by omega)).trans c6, Nat.lt_of_lt_of_le hle f.size, owns_fo hown f (by omega)⟩
    have hSal : ∀ (w4 : World) (o : Obj), Fo b w.heap.size w w4 → (w4.cell? ⟨gp, 0, none⟩ = some (.pointer (some ⟨b, 0, none⟩)) ∧ w4.cell? ⟨gd, 0, none⟩ = some (.int .i64 d) ∧ w4.cell? ⟨gx, 5, none⟩ = some (.slice ao acc.length cap)) → (w4.alloc o).cell? ⟨gp, 0, none⟩ = some (.pointer (some ⟨b, 0, none⟩)) ∧ (w4.alloc o).cell? ⟨gd, 0, none⟩ = some (.int .i64 d) ∧ (w4.alloc o).cell? ⟨gx, 5, none⟩ = some (.slice ao acc.length cap) := fun w4 o f hh => by
      have := f.size
      exact ⟨(World.cell?_of_block (w := w4) (heap_old (by show gp < _; omega))).trans hh.1, (World.cell?_of_block (w := w4) (heap_old (by show gd < _; omega))).trans hh.2.1, (World.cell?_of_block (w := w4) (heap_old (by show gx < _; omega))).trans hh.2.2⟩
    clear hC hq
    have hgrf : ∀ (w4 w5 : World) (g cap5 : Nat), Fo b w.heap.size w w4 → Grew w4 w5 (.slice ao acc.length cap) g → w5.ownsRow (ge + 1) 24 8 (.slice (some ⟨g, 0, none⟩) (acc.length + 1) cap5) (acc.length + 1) (row ++ zeroL) →
        w5.cell? ⟨gx, 5, none⟩ = some (.slice ao acc.length cap) ∧ w5.frozen? ⟨gx, 5, none⟩ = false ∧ gx < g ∧ g < w5.heap.size ∧ acc.length + 1 ≤ cap5 := by
      intro w4 w5 g cap5 f hG ho
      obtain ⟨f1, f2, f3, f4, f5⟩ := hfac w4 f
      have far : ∀ k, k ≤ gx → some k ≠ (Value.slice ao acc.length cap).ownBlock := fun k hk e => by have := (f5.lt k e.symm).1; omega
      have hbx : w5.heap[gx]? = w.heap[gx]? := (hG.block gx (by omega) (far gx (Nat.le_refl _))).trans (f.block gx hlx (by omega))
      have hlt := (ho.lt g rfl)
      refine ⟨(World.cell?_of_block (w := w) hbx).trans c6, (World.frozen?_of_block (w := w) hbx).trans k6, by omega, hlt.2, ?_⟩
      rcases ho.2 with ⟨hv, _⟩ | ⟨g', cap', cur, hv, _, _, hnn, _⟩
      · simp at hv
      · simp at hv; omega
    have hrl := hown.1
    have hrow8 : ∀ (w5 : World) (g cap5 : Nat), w5.ownsRow (ge + 1) 24 8 (.slice (some ⟨g, 0, none⟩) (acc.length + 1) cap5) (acc.length + 1) (row ++ zeroL) →
        w5.cell? ⟨g, acc.length * 8, none⟩ = some (.int .i64 0) ∧ w5.cell? ⟨g, acc.length * 8 + 1, none⟩ = some (.int .i64 0) ∧ w5.cell? ⟨g, acc.length * 8 + 2, none⟩ = some (.int .i64 0) ∧ w5.cell? ⟨g, acc.length * 8 + 3, none⟩ = some (.string ⟨#[]⟩) ∧ w5.cell? ⟨g, acc.length * 8 + 4, none⟩ = some (.int .i64 0) ∧ w5.cell? ⟨g, acc.length * 8 + 5, none⟩ = some (.string ⟨#[]⟩) ∧ w5.cell? ⟨g, acc.length * 8 + 6, none⟩ = some (.slice none 0 0) ∧ w5.cell? ⟨g, acc.length * 8 + 7, none⟩ = some (.int .i64 0) ∧ w5.frozen? ⟨g, acc.length * 8, none⟩ = false ∧ w5.frozen? ⟨g, acc.length * 8 + 1, none⟩ = false ∧ w5.frozen? ⟨g, acc.length * 8 + 2, none⟩ = false ∧ w5.frozen? ⟨g, acc.length * 8 + 3, none⟩ = false ∧ w5.frozen? ⟨g, acc.length * 8 + 4, none⟩ = false ∧ w5.frozen? ⟨g, acc.length * 8 + 5, none⟩ = false ∧ w5.frozen? ⟨g, acc.length * 8 + 6, none⟩ = false ∧ w5.frozen? ⟨g, acc.length * 8 + 7, none⟩ = false := by
      intro w5 g cap5 ho
      have o8 := owns_cell ho hrl
      exact ⟨(o8 0 _ rfl).1, (o8 1 _ rfl).1, (o8 2 _ rfl).1, (o8 3 _ rfl).1, (o8 4 _ rfl).1, (o8 5 _ rfl).1, (o8 6 _ rfl).1, (o8 7 _ rfl).1, (o8 0 _ rfl).2, (o8 1 _ rfl).2, (o8 2 _ rfl).2, (o8 3 _ rfl).2, (o8 4 _ rfl).2, (o8 5 _ rfl).2, (o8 6 _ rfl).2, (o8 7 _ rfl).2⟩
    have hfin : ∀ (w4 w5 w7 : World) (g cap5 k o nn : Nat) (t : Lx.B) (ao2 : Option Addr) (an2 ac2 p : Nat), IsEx (From w.heap.size) w4 x (eL k o nn t (.slice ao2 an2 ac2) p) → Ps b ga l' w4 → Fo b w.heap.size w w4 → Grew w4 w5 (.slice ao acc.length cap) g → w5.ownsRow (ge + 1) 24 8 (.slice (some ⟨g, 0, none⟩) (acc.length + 1) cap5) (acc.length + 1) (row ++ zeroL) →
        (w7 = (setN w5 g (acc.length * 8) (eL k o nn t (.slice ao2 an2 ac2) p)).setCell ⟨gx, 5, none⟩ (.slice (some ⟨g, 0, none⟩) (acc.length + 1) cap5) ∨ w7 = setN (w5.setCell ⟨gx, 5, none⟩ (.slice (some ⟨g, 0, none⟩) (acc.length + 1) cap5)) g (acc.length * 8) (eL k o nn t (.slice ao2 an2 ac2) p)) →
        PartPost b ga n (PStBox b gp gd gx ge d k0 nm b1 b2 pl) acc w (.inl (x, l')) (.returned (.tuple #[])) w7 := by
      intro w4 w5 w7 g cap5 k o nn t ao2 an2 ac2 p hxx h4 fo4 hG hown5 h7
      obtain ⟨r1, r2, r3, r4, r5⟩ := gath_end (O := fun v => sO k0 nm v b1 b2 pl) (F := 5) (n := n) (fun w' hw v => by simp [World.setCell, Array.getElem?_modify, hw]) (by omega) hle (by omega) (by omega) (by omega) hn hx hown hall hxx h4 fo4 hG hown5 h7
      exact ⟨rfl, ⟨(r5 gp (by omega) (by omega) (by omega)).trans hp, (r5 gd (by omega) (by omega) (by omega)).trans hdp, (r5 ge (by omega) (by omega) (by omega)).trans hfe, _, r2, r1⟩, r4, r3⟩
    go_enter Tryz.func126, Tryz.ntmps126
    go_wp2_with fail
    refine wpE_begin (S := fun w' => w'.cell? ⟨gp, 0, none⟩ = some (.pointer (some ⟨b, 0, none⟩)) ∧ w'.cell? ⟨gd, 0, none⟩ = some (.int .i64 d) ∧ w'.cell? ⟨gx, 5, none⟩ = some (.slice ao acc.length cap)) (N := fun j => decide (j < 8)) (by kernel_rfl) ?_
    have hS0 : w.drew.cell? ⟨gp, 0, none⟩ = some (.pointer (some ⟨b, 0, none⟩)) ∧ w.drew.cell? ⟨gd, 0, none⟩ = some (.int .i64 d) ∧ w.drew.cell? ⟨gx, 5, none⟩ = some (.slice ao acc.length cap) := ⟨c0, d0, c6⟩
    refine wpE_take (i := 0) (v := .pointer (some ⟨gx, 5, none⟩)) rfl (by kernel_rfl) (by kernel_rfl) (by kernel_rfl) (by kernel_rfl) (fun _ _ _ h => h) rfl (fun w' hS => by obtain ⟨s1, s2, s3⟩ := hS; go_simp) hS0 ?_
    try simp only [Act.put, List.setIfInBounds_toArray, List.set_cons_zero, List.set_cons_succ]
    refine wpE_take (i := 2) (v := .pointer (some ⟨b, 0, none⟩)) rfl (by kernel_rfl) (by kernel_rfl) (by kernel_rfl) (by kernel_rfl) (fun _ _ _ h => h) rfl (fun w' hS => by obtain ⟨s1, s2, s3⟩ := hS; go_simp) hS0 ?_
    try simp only [Act.put, List.setIfInBounds_toArray, List.set_cons_zero, List.set_cons_succ]
    refine wpE_take (i := 3) (v := .int .i64 d) rfl (by kernel_rfl) (by kernel_rfl) (by kernel_rfl) (by kernel_rfl) (fun _ _ _ h => h) rfl (fun w' hS => by obtain ⟨s1, s2, s3⟩ := hS; go_simp) hS0 ?_
    try simp only [Act.put, List.setIfInBounds_toArray, List.set_cons_zero, List.set_cons_succ]
    refine wpE_take (i := 1) (v := .slice ao acc.length cap) rfl (by kernel_rfl) (by kernel_rfl) (by kernel_rfl) (by kernel_rfl) (fun _ _ _ h => h) rfl (fun w' hS => by obtain ⟨s1, s2, s3⟩ := hS; go_simp) hS0 ?_
    try simp only [Act.put, List.setIfInBounds_toArray, List.set_cons_zero, List.set_cons_succ]
    refine wpE_take (i := 4) (v := .int .i64 ((d : Int) + 1)) rfl (by kernel_rfl) (by kernel_rfl) (by kernel_rfl) (by kernel_rfl) (fun _ _ _ h => h) rfl (fun w' hS => by obtain ⟨s1, s2, s3⟩ := hS; go_simp) hS0 ?_
    try simp only [Act.put, List.setIfInBounds_toArray, List.set_cons_zero, List.set_cons_succ]
    refine wpE_take (i := 6) (v := .int .i64 acc.length) rfl (by kernel_rfl) (by kernel_rfl) (by kernel_rfl) (by kernel_rfl) (fun _ _ _ h => h) rfl (fun w' hS => by obtain ⟨s1, s2, s3⟩ := hS; go_simp) hS0 ?_
    try simp only [Act.put, List.setIfInBounds_toArray, List.set_cons_zero, List.set_cons_succ]
    refine wpE_two (i := 5) (j := 7) (by kernel_rfl) rfl rfl rfl rfl (fun K hK => ?_) (fun K hK => ?_)
    · go_simp
      refine hC1.mono ?_
      rintro e w4 ⟨k, o, nn, t, ao2, an2, ac2, p, rfl, hxx, h4, fo4⟩
      obtain ⟨yp, yd, y6, hlx4, hown4⟩ := hfac w4 fo4
      refine hK _ _ (fun _ => ⟨yp, yd, y6⟩) ?_
      clear hK K
      try simp only [Act.put, List.setIfInBounds_toArray, List.set_cons_zero, List.set_cons_succ]
      refine wpE_one (i := 7) (by kernel_rfl) rfl rfl (fun K hK => ?_)
      go_simp
      refine hK _ _ (fun _ => hSal w4 _ fo4 ⟨yp, yd, y6⟩) ?_
      clear hK K
      try simp only [Act.put, List.setIfInBounds_toArray, List.set_cons_zero, List.set_cons_succ]
      refine wpE_one (i := 8) (by kernel_rfl) rfl rfl (fun K hK => ?_)
      refine wp_append_lies _ (.tmp 4) (.tmp 10) 22 rfl (ge + 1) 24 i0 _ 8 96 Tryz.underlying22 hi0 hz0 hz1 hz2 rfl (by omega) (.slice ao acc.length cap) acc.length row rfl (hown4.alloc _) ⟨w4.heap.size, 0, none⟩ 1 1 zeroL rfl rfl (World.news_of_block (heap_new w4 _)) (by simp [Value.oneCell']) (by omega) (by unfold maxLen; omega) (by omega) (by simp; omega) (w4.heap.size + 1) (by simp) ?_
      intro g cap5 w5 hown5 hgrow hat hlt5
      have hG := grewB hgrow hat
      obtain ⟨z6, zf, hgx, hgl, hcap⟩ := hgrf w4 w5 g cap5 fo4 hG hown5
      obtain ⟨q0, q1, q2, q3, q4, q5, q6, q7, r0, r1, r2, r3, r4, r5, r6, r7⟩ := hrow8 w5 g cap5 hown5
      refine hK _ _ (fun h => absurd h (by decide)) ?_
      clear hK K
      try simp only [Act.put, List.setIfInBounds_toArray, List.set_cons_zero, List.set_cons_succ]
      refine wpE_takeL (i := 9) (v := .pointer (some ⟨g, acc.length * 8, none⟩)) rfl (by kernel_rfl) (by kernel_rfl) (by kernel_rfl) rfl (fun _ _ _ h => h) rfl (fun w' => by go_simp) ?_
      try simp only [Act.put, List.setIfInBounds_toArray, List.set_cons_zero, List.set_cons_succ]
      refine wpE_takeL (i := 11) (v := .pointer (some ⟨gx, 5, none⟩)) rfl (by kernel_rfl) (by kernel_rfl) (by kernel_rfl) rfl (fun _ _ _ h => h) rfl (fun w' => by go_simp) ?_
      try simp only [Act.put, List.setIfInBounds_toArray, List.set_cons_zero, List.set_cons_succ]
      refine wpE_two (i := 10) (j := 12) (by kernel_rfl) rfl rfl rfl rfl (fun K hK => ?_) (fun K hK => ?_)
      · go_simp
        refine hK _ _ (fun h => absurd h (by decide)) ?_
        clear hK K
        refine wpE_one (i := 12) (by kernel_rfl) rfl rfl (fun K hK => ?_)
        go_simp
        refine hK _ _ (fun h => absurd h (by decide)) (wpE_done (by kernel_rfl) ?_)
        go_wp2
        go_end0
        exact hfin w4 w5 _ g cap5 k o nn t ao2 an2 ac2 p hxx h4 fo4 hG hown5 (Or.inl (by simp only [setN, Nat.add_assoc, Nat.reduceAdd]))
      · go_simp
        refine hK _ _ (fun h => absurd h (by decide)) ?_
        clear hK K
        refine wpE_one (i := 10) (by kernel_rfl) rfl rfl (fun K hK => ?_)
        go_simp
        refine hK _ _ (fun h => absurd h (by decide)) (wpE_done (by kernel_rfl) ?_)
        go_wp2
        go_end0
        exact hfin w4 w5 _ g cap5 k o nn t ao2 an2 ac2 p hxx h4 fo4 hG hown5 (Or.inr (by simp only [setN, Nat.add_assoc, Nat.reduceAdd]))
    · go_simp
      refine hK _ _ (fun _ => hSd _) ?_
      clear hK K
      try simp only [Act.put, List.setIfInBounds_toArray, List.set_cons_zero, List.set_cons_succ]
      refine wpE_one (i := 5) (by kernel_rfl) rfl rfl (fun K hK => ?_)
      go_simp
      refine (hC2 _).mono ?_
      rintro e w4 ⟨k, o, nn, t, ao2, an2, ac2, p, rfl, hxx, h4, fo4, hz4⟩
      obtain ⟨yp, yd, y6, hlx4, hown4⟩ := hfac w4 fo4
      refine hK _ _ (fun _ => ⟨yp, yd, y6⟩) ?_
      clear hK K
      try simp only [Act.put, List.setIfInBounds_toArray, List.set_cons_zero, List.set_cons_succ]
      refine wpE_one (i := 8) (by kernel_rfl) rfl rfl (fun K hK => ?_)
      refine wp_append_lies _ (.tmp 4) (.tmp 10) 22 rfl (ge + 1) 24 i0 _ 8 96 Tryz.underlying22 hi0 hz0 hz1 hz2 rfl (by omega) (.slice ao acc.length cap) acc.length row rfl hown4 ⟨w.heap.size, 0, none⟩ 1 1 zeroL rfl rfl (World.news_of_block hz4) (by simp [Value.oneCell']) (by omega) (by unfold maxLen; omega) (by omega) (by omega) w4.heap.size rfl ?_
      intro g cap5 w5 hown5 hgrow hat hlt5
      have hG := grewA hgrow hat
      obtain ⟨z6, zf, hgx, hgl, hcap⟩ := hgrf w4 w5 g cap5 fo4 hG hown5
      obtain ⟨q0, q1, q2, q3, q4, q5, q6, q7, r0, r1, r2, r3, r4, r5, r6, r7⟩ := hrow8 w5 g cap5 hown5
      refine hK _ _ (fun h => absurd h (by decide)) ?_
      clear hK K
      try simp only [Act.put, List.setIfInBounds_toArray, List.set_cons_zero, List.set_cons_succ]
      refine wpE_takeL (i := 9) (v := .pointer (some ⟨g, acc.length * 8, none⟩)) rfl (by kernel_rfl) (by kernel_rfl) (by kernel_rfl) rfl (fun _ _ _ h => h) rfl (fun w' => by go_simp) ?_
      try simp only [Act.put, List.setIfInBounds_toArray, List.set_cons_zero, List.set_cons_succ]
      refine wpE_takeL (i := 11) (v := .pointer (some ⟨gx, 5, none⟩)) rfl (by kernel_rfl) (by kernel_rfl) (by kernel_rfl) rfl (fun _ _ _ h => h) rfl (fun w' => by go_simp) ?_
      try simp only [Act.put, List.setIfInBounds_toArray, List.set_cons_zero, List.set_cons_succ]
      refine wpE_two (i := 10) (j := 12) (by kernel_rfl) rfl rfl rfl rfl (fun K hK => ?_) (fun K hK => ?_)
      · go_simp
        refine hK _ _ (fun h => absurd h (by decide)) ?_
        clear hK K
        refine wpE_one (i := 12) (by kernel_rfl) rfl rfl (fun K hK => ?_)
        go_simp
        refine hK _ _ (fun h => absurd h (by decide)) (wpE_done (by kernel_rfl) ?_)
        go_wp2
        go_end0
        exact hfin w4 w5 _ g cap5 k o nn t ao2 an2 ac2 p hxx h4 fo4 hG hown5 (Or.inl (by simp only [setN, Nat.add_assoc, Nat.reduceAdd]))
      · go_simp
        refine hK _ _ (fun h => absurd h (by decide)) ?_
        clear hK K
        refine wpE_one (i := 10) (by kernel_rfl) rfl rfl (fun K hK => ?_)
        go_simp
        refine hK _ _ (fun h => absurd h (by decide)) (wpE_done (by kernel_rfl) ?_)
        go_wp2
        go_end0
        exact hfin w4 w5 _ g cap5 k o nn t ao2 an2 ac2 p hxx h4 fo4 hG hown5 (Or.inr (by simp only [setN, Nat.add_assoc, Nat.reduceAdd]))
  · rw [hq] at hC
    replace hC : ∀ w', Ps b ga l w' → Calls Tryz.prog 127 #[.pointer (some ⟨b, 0, none⟩), .int .i64 ((d : Int) + 1)] w' fun e w'' => e = .panicked (thrownP a er) ∧ Fo b w'.heap.size w' w'' := hC
    clear hq
    go_enter Tryz.func126, Tryz.ntmps126
    go_wp2_with fail
    refine wpE_begin (S := fun w' => w'.cell? ⟨gp, 0, none⟩ = some (.pointer (some ⟨b, 0, none⟩)) ∧ w'.cell? ⟨gd, 0, none⟩ = some (.int .i64 d) ∧ w'.cell? ⟨gx, 5, none⟩ = some (.slice ao acc.length cap)) (N := fun j => decide (j < 8)) (by kernel_rfl) ?_
    have hS0 : w.drew.cell? ⟨gp, 0, none⟩ = some (.pointer (some ⟨b, 0, none⟩)) ∧ w.drew.cell? ⟨gd, 0, none⟩ = some (.int .i64 d) ∧ w.drew.cell? ⟨gx, 5, none⟩ = some (.slice ao acc.length cap) := ⟨c0, d0, c6⟩
    refine wpE_take (i := 0) (v := .pointer (some ⟨gx, 5, none⟩)) rfl (by kernel_rfl) (by kernel_rfl) (by kernel_rfl) (by kernel_rfl) (fun _ _ _ h => h) rfl (fun w' hS => by obtain ⟨s1, s2, s3⟩ := hS; go_simp) hS0 ?_
    try simp only [Act.put, List.setIfInBounds_toArray, List.set_cons_zero, List.set_cons_succ]
    refine wpE_take (i := 2) (v := .pointer (some ⟨b, 0, none⟩)) rfl (by kernel_rfl) (by kernel_rfl) (by kernel_rfl) (by kernel_rfl) (fun _ _ _ h => h) rfl (fun w' hS => by obtain ⟨s1, s2, s3⟩ := hS; go_simp) hS0 ?_
    try simp only [Act.put, List.setIfInBounds_toArray, List.set_cons_zero, List.set_cons_succ]
    refine wpE_take (i := 3) (v := .int .i64 d) rfl (by kernel_rfl) (by kernel_rfl) (by kernel_rfl) (by kernel_rfl) (fun _ _ _ h => h) rfl (fun w' hS => by obtain ⟨s1, s2, s3⟩ := hS; go_simp) hS0 ?_
    try simp only [Act.put, List.setIfInBounds_toArray, List.set_cons_zero, List.set_cons_succ]
    refine wpE_take (i := 1) (v := .slice ao acc.length cap) rfl (by kernel_rfl) (by kernel_rfl) (by kernel_rfl) (by kernel_rfl) (fun _ _ _ h => h) rfl (fun w' hS => by obtain ⟨s1, s2, s3⟩ := hS; go_simp) hS0 ?_
    try simp only [Act.put, List.setIfInBounds_toArray, List.set_cons_zero, List.set_cons_succ]
    refine wpE_take (i := 4) (v := .int .i64 ((d : Int) + 1)) rfl (by kernel_rfl) (by kernel_rfl) (by kernel_rfl) (by kernel_rfl) (fun _ _ _ h => h) rfl (fun w' hS => by obtain ⟨s1, s2, s3⟩ := hS; go_simp) hS0 ?_
    try simp only [Act.put, List.setIfInBounds_toArray, List.set_cons_zero, List.set_cons_succ]
    refine wpE_take (i := 6) (v := .int .i64 acc.length) rfl (by kernel_rfl) (by kernel_rfl) (by kernel_rfl) (by kernel_rfl) (fun _ _ _ h => h) rfl (fun w' hS => by obtain ⟨s1, s2, s3⟩ := hS; go_simp) hS0 ?_
    try simp only [Act.put, List.setIfInBounds_toArray, List.set_cons_zero, List.set_cons_succ]
    refine wpE_two (i := 5) (j := 7) (by kernel_rfl) rfl rfl rfl rfl (fun K hK => ?_) (fun K hK => ?_)
    · go_simp
      refine (hC _ hp1).mono ?_
      rintro e w4 ⟨rfl, fo4⟩
      exact ⟨rfl, rfl, (Fo.drew b n w).trans (fo4.mono hn)⟩
    · go_simp
      refine hK _ _ (fun _ => hSd _) ?_
      clear hK K
      try simp only [Act.put, List.setIfInBounds_toArray, List.set_cons_zero, List.set_cons_succ]
      refine wpE_one (i := 5) (by kernel_rfl) rfl rfl (fun K hK => ?_)
      go_simp
      refine (hC _ (hp2 _)).mono ?_
      rintro e w4 ⟨rfl, fo4⟩
      exact ⟨rfl, rfl, (((Fo.refl b n w).alloc hn _).trans (Fo.drew _ _ _)).trans (fo4.mono (by show n ≤ (w.alloc _).heap.size; simp; omega))⟩
end Go.Proofs.YtifebbdjdllfpaaGreatDoor
/- Names and calls: the parser's reading. -/
namespace Go.Proofs.YtifebbdjdllfpaaGreatDoor
open Go.RowKit
set_option linter.unusedSimpArgs false
set_option linter.unusedVariables false

/-- An expression is handed on by a box at gr, which is new. -/
theorem ex_ret' {b ga gr : Nat} {w w1 : World} {x : Px.Ex} {l' : List Lx.Tok} {k o n p : Nat} {t : Lx.B} {ao : Option Addr} {an ac : Nat} {B : Nat → Prop} (h1 : Ps b ga l' w1) (hF : Fo b w.heap.size w w1) (hr : w.heap.size ≤ gr) (hg : gr ≠ b) (hga : gr ≠ ga) (hx : IsEx B w1 x (eL k o n t (.slice ao an ac) p)) (hB : ∀ g, B g → w.heap.size ≤ g ∧ g ≠ gr) :
    ExPost b ga w (.inl (x, l')) (.returned (eV k o n t (.slice ao an ac) p)) (eS w1 gr k o n t (.slice ao an ac) p) :=
  ⟨_, rfl, ⟨k, o, n, t, ao, an, ac, p, rfl, (hx.since (Since.set8' (fun h => (hB _ h).2 rfl) _ _ _ _ _ _ _ _)).base (fun g h => (hB g h).1)⟩, h1.set8 hg hga _ _ _ _ _ _ _ _, hF.set8 hr _ _ _ _ _ _ _ _⟩
def namedR (e : Px.P Px.Ex) (l : List Lx.Tok) : Px.R Px.Ex := Px.bind (Px.name l) fun t l1 => if Px.sees 4 [40] l1 then Px.bind (Px.items e (l1.length + 1) 0 [] l1.tail) fun xs l2 => .inl (.mk 7 0 0 t.text xs t.place, l2) else .inl (.mk 6 0 0 t.text [] t.place, l1)
def NamedOk (d : Nat) (e : Px.P Px.Ex) : Prop := ∀ (b ga : Nat) (l : List Lx.Tok) (w : World), Ps b ga l w → Calls Tryz.prog 169 #[.pointer (some ⟨b, 0, none⟩), .int .i64 d] w fun r w' => ExPost b ga w (namedR e l) r w'
theorem eArg (args : Array Value) (w : World) : (callFunc 170 args).run Tryz.prog w = .ok (.enter 170 args) w := enters_of Tryz.func170 (by kernel_rfl) rfl args w
abbrev pboxes (w : World) (b d : Nat) (o : Obj) : World := ((w.alloc (ptrObj b)).alloc (depObj d)).alloc o
theorem boxes_ptr (w : World) (b d : Nat) (o : Obj) : (pboxes w b d o).heap[w.heap.size]? = some (ptrObj b) := by
  rw [heap_old (by simp; omega), heap_old (by simp)]; exact heap_new w _
theorem boxes_dep (w : World) (b d : Nat) (o : Obj) : (pboxes w b d o).heap[w.heap.size + 1]? = some (depObj d) := by
  rw [heap_old (by simp)]
  have := heap_new (w.alloc (ptrObj b)) (depObj d)
  simpa using this
theorem boxes_out (w : World) (b d : Nat) (o : Obj) : (pboxes w b d o).heap[w.heap.size + 1 + 1]? = some o := by
  have := heap_new ((w.alloc (ptrObj b)).alloc (depObj d)) o
  simpa using this
theorem boxes_size (w : World) (b d : Nat) (o : Obj) : (pboxes w b d o).heap.size = w.heap.size + 3 := by simp
theorem boxes_below (w : World) (b d : Nat) (o : Obj) : Below w.heap.size w (pboxes w b d o) := (((Below.refl _ _).alloc (Nat.le_refl _) _).alloc (by simp) _).alloc (by simp; omega) _
theorem isArgs {B : Nat → Prop} {w : World} {m : Nat} {nm : Lx.B} {pl : Nat} {sl : Value} {xs : List Px.Ex} (h : Gath m w sl xs) (hB : ∀ k, m ≤ k → k < w.heap.size → B k) : IsEx B w (.mk 7 0 0 nm xs pl) (eL 7 0 0 nm sl pl) := by
  obtain ⟨row, h1, h2⟩ := h.rows hB
  rw [IsEx]
  exact ⟨sl, row, rfl, h1, h2⟩

set_option maxRecDepth 100000 in
set_option maxHeartbeats 8000000 in
theorem pnamed_any {d : Nat} {e : Px.P Px.Ex} (hd : d ≤ 30) (hok : Px.Ok e) (hexp : ExprOk (d + 1) e) : NamedOk d e := by
  intro b ga l w h
  obtain ⟨res, hres⟩ : ∃ res, Aside (res = namedR e l) := ⟨_, rfl⟩
  rw [← hres.out]
  have hmf : ∀ (fn : Fn) (first cap : Array Value) (w : World), (Instr.makeFunc fn first cap).run Tryz.prog w = .ok (.func fn first cap) w := fun _ _ _ _ => rfl
  have hbt := h.there
  have hgt := h.gl
  have hB0 := boxes_below w b d zeroE
  have h0 := h.below hB0
  have p0 := boxes_ptr w b d zeroE
  have d0 := boxes_dep w b d zeroE
  have o0 := boxes_out w b d zeroE
  have z0 := boxes_size w b d zeroE
  have hF0 : Fo b w.heap.size w (pboxes w b d zeroE) := Fo.of_below hB0
  have c0 := cell_of_one p0
  go_enter Tryz.func169, Tryz.ntmps169
  go_upto_region 1 with fail
  generalize hw0 : ((w.alloc (ptrObj b)).alloc (depObj d)).alloc zeroE = w0
  replace hw0 : pboxes w b d zeroE = w0 := hw0
  rw [hw0] at hB0 h0 p0 d0 o0 z0 hF0 c0
  clear hw0
  have hwg : w.heap.size < w0.heap.size := by omega
  go_wp2_with fail
  refine (pname_any h0).mono ?_
  rcases hq : Px.name l with ⟨t, l1⟩ | ⟨a, er⟩
  · rintro r w1 ⟨v, rfl, rfl, h1, hf1⟩
    replace hres : Aside (res = if Px.sees 4 [40] l1 then Px.bind (Px.items e (l1.length + 1) 0 [] l1.tail) fun xs l2 => .inl (.mk 7 0 0 t.text xs t.place, l2) else .inl (.mk 6 0 0 t.text [] t.place, l1)) := by
      show _ = _
      rw [hres.out, namedR, hq]; rfl
    have p1 := (hf1.block _ (by omega) (by omega)).trans p0
    have d1 := (hf1.block _ (by omega) (by omega)).trans d0
    have o1 := (hf1.block _ (by omega) (by omega)).trans o0
    have hF1 := hF0.call hf1 hF0.size
    have hz1 := hf1.size
    clear hq p0 d0 o0 c0 hF0 h0 hf1
    -- the token's box and the expression's
    have hB3 : Below w1.heap.size w1 ((w1.alloc (tokB t)).alloc (eO 6 0 0 t.text (.slice none 0 0) t.place)) := ((Below.refl _ _).alloc (Nat.le_refl _) _).alloc (by simp) _
    have h3 := h1.below hB3
    have p3 := (hB3.block _ (by omega)).trans p1
    have d3 := (hB3.block _ (by omega)).trans d1
    have o3 := (hB3.block _ (by omega)).trans o1
    have hF3 := hF1.below hB3 (by omega)
    have x3 : ((w1.alloc (tokB t)).alloc (eO 6 0 0 t.text (.slice none 0 0) t.place)).heap[w1.heap.size + 1]? = some (eO 6 0 0 t.text (.slice none 0 0) t.place) := by
      have := heap_new (w1.alloc (tokB t)) (eO 6 0 0 t.text (.slice none 0 0) t.place)
      simpa using this
    have z3 : ((w1.alloc (tokB t)).alloc (eO 6 0 0 t.text (.slice none 0 0) t.place)).heap.size = w1.heap.size + 2 := by simp
    have c3 := cell_of_one p3
    go_upto_region 3 with fail
    generalize (w1.alloc (tokB t)).alloc (eO 6 0 0 t.text (.slice none 0 0) t.place) = w3 at *
    obtain ⟨gx, hgx⟩ : ∃ gx, gx = w1.heap.size + 1 := ⟨_, rfl⟩
    rw [← hgx] at x3 ⊢
    clear hB3 hF1 h1 p1 d1 o1
    go_wp2_with fail
    refine (pis_any h3 [40]).mono ?_
    rintro r w4 ⟨rfl, hb4⟩
    have h4 := h3.below hb4
    have p4 := (hb4.block _ (by omega)).trans p3
    have d4 := (hb4.block _ (by omega)).trans d3
    have o4 := (hb4.block _ (by omega)).trans o3
    have x4 := (hb4.block _ (by omega)).trans x3
    have hF4 := hF3.below hb4 (by omega)
    have z4 := hb4.size
    clear hb4 h3 p3 d3 o3 x3 hF3 c3
    have hz4 : w.heap.size + 4 ≤ w4.heap.size := by omega
    have hgl : gx < w4.heap.size := by omega
    have hgw : w.heap.size + 3 < gx := by omega
    clear z4 z3 hz1 hgx
    rcases hs : Px.sees 4 [40] l1 with _ | _
    · replace hres : Aside (res = .inl (.mk 6 0 0 t.text [] t.place, l1)) := by
        show _ = _
        rw [hres.out, if_neg (by rw [hs]; simp)]
      rw [show Px.sees (cls [40]) [40] l1 = false from hs]
      obtain ⟨y0, y1, y2, y3, y4, y5, y6, y7, _⟩ := cells_of8 x4
      obtain ⟨e0, e1, e2, e3, e4, e5, e6, e7, m0, m1, m2, m3, m4, m5, m6, m7⟩ := cells_of8 o4
      have hol : w.heap.size + 1 + 1 < w4.heap.size := by omega
      have hend := ex_ret' (gr := w.heap.size + 1 + 1) h4 hF4 (by omega) (by omega) (by omega) (ex_leaf (fun _ => False) w4 6 0 0 t.text t.place) (fun g hg => hg.elim)
      clear hs
      generalize w.heap.size + 1 + 1 = gr at *
      go_wp2
      rw [hres.out]
      exact bodyPost_ret (v := eV 6 0 0 t.text (.slice none 0 0) t.place) (by simp [results, Tryz.results169, go_sem, e0, e1, e2, e3, e4, e5, e6, e7]) rfl hend
    · rw [show Px.sees (cls [40]) [40] l1 = true from hs]
      have hfuel : Px.items e (l1.length + 1) 0 [] l1.tail = Px.items e (l1.tail.length + 1) 0 [] l1.tail := items_fuel hok _ _ _ _ _ (Px.sees4 hs h4.good).good (by have := (Px.sees4 hs h4.good).less; omega) (by omega)
      have hneed : (Px.bind (Px.need [40] l1) fun _ l2 => Px.items e (l2.length + 1) 0 [] l2) = Px.items e (l1.length + 1) 0 [] l1.tail := by
        rw [hfuel]; unfold Px.need Px.needK; rw [if_pos hs]; rfl
      replace hres : Aside (res = Px.bind (Px.items e (l1.length + 1) 0 [] l1.tail) fun xs l2 => .inl (.mk 7 0 0 t.text xs t.place, l2)) := by
        show _ = _
        rw [hres.out, if_pos hs]
      have x5 : (w4.setCell ⟨gx, 0, none⟩ (.int .i64 7)).heap[gx]? = some (eO 7 0 0 t.text (.slice none 0 0) t.place) := by simp [World.setCell, Array.getElem?_modify, x4]
      have oth : ∀ k, k ≠ gx → (w4.setCell ⟨gx, 0, none⟩ (.int .i64 7)).heap[k]? = w4.heap[k]? := fun k hk => Below.heap_setCell _ _ _ _ hk
      have h5 := h4.other (g := gx) 0 (.int .i64 7) (by omega) (by omega)
      have hF5 := hF4.fresh (g := gx) (by omega) 0 (.int .i64 7)
      have hA : ArgBox b w.heap.size (w.heap.size + 1) gx d t.text t.place [] (w4.setCell ⟨gx, 0, none⟩ (.int .i64 7)) := ⟨(oth _ (by omega)).trans p4, (oth _ (by omega)).trans d4, _, x5, Gath.nil _ _⟩
      have o5 := (oth (w.heap.size + 1 + 1) (by omega)).trans o4
      have z5 : (w4.setCell ⟨gx, 0, none⟩ (.int .i64 7)).heap.size = w4.heap.size := by simp [World.setCell]
      have hL := plisted_any (n := gx) (K := 170) (caps := #[.pointer (some ⟨gx, 0, none⟩), .pointer (some ⟨w.heap.size, 0, none⟩), .pointer (some ⟨w.heap.size + 1, 0, none⟩)]) (Inv := fun acc w' => ArgBox b w.heap.size (w.heap.size + 1) gx d t.text t.place acc w') h5 (by omega) hok eArg
        (fun acc la wa ha hia hna hla => parg_any hd hexp (by omega) (by omega) (by omega) (by omega) (Nat.le_refl _) acc la wa ha hia hna hla)
        (fun acc wa wb hia hf => hia.fo hf (by omega) (by omega) (by omega)) hA
      rw [hneed] at hL
      have c4 := cell_of_one p4
      have x40 := (cells_of8 x4).1
      have f40 := (cells_of8 x4).2.2.2.2.2.2.2.2.1
      have c5 : (w4.setCell ⟨gx, 0, none⟩ (.int .i64 7)).cell? ⟨w.heap.size, 0, none⟩ = some (.pointer (some ⟨b, 0, none⟩)) := cell_of_one hA.ptr
      have hwl : w.heap.size < w4.heap.size := by omega
      clear hneed hfuel hs x5 hA
      go_upto_region 5 with fail
      generalize w4.setCell ⟨gx, 0, none⟩ (.int .i64 7) = w5 at *
      go_wp2_with fail
      refine hL.mono ?_
      rcases hq : Px.items e (l1.length + 1) 0 [] l1.tail with ⟨xs, l2⟩ | ⟨a, er⟩
      · rintro r w6 ⟨rfl, hA6, h6, hf6⟩
        replace hres : Aside (res = .inl (.mk 7 0 0 t.text xs t.place, l2)) := by
          show _ = _
          rw [hres.out, hq]; rfl
        obtain ⟨p6, d6, sl, x6, hg6⟩ := hA6
        have o6 := (hf6.block (w.heap.size + 1 + 1) (by omega) (by omega)).trans o5
        have hF6 : Fo b w.heap.size w w6 := hF5.trans (hf6.mono (by omega))
        have hgl6 : gx < w6.heap.size := (Array.getElem?_eq_some_iff.1 x6).1
        have hol6 : w.heap.size + 1 + 1 < w6.heap.size := by omega
        obtain ⟨ao, ac, rfl⟩ := slice_of hg6.choose_spec.1
        have hend := ex_ret' (gr := w.heap.size + 1 + 1) (B := fun k => gx + 1 ≤ k) h6 hF6 (by omega) (by omega) (by omega) (isArgs (nm := t.text) (pl := t.place) hg6 (fun k hk _ => hk)) (fun g hg => by omega)
        obtain ⟨y0, y1, y2, y3, y4, y5, y6, y7, _⟩ := cells_of8 x6
        obtain ⟨e0, e1, e2, e3, e4, e5, e6, e7, m0, m1, m2, m3, m4, m5, m6, m7⟩ := cells_of8 o6
        clear hq hL
        generalize w.heap.size + 1 + 1 = gr at *
        go_wp2
        rw [hres.out]
        exact bodyPost_ret (v := eV 7 0 0 t.text (.slice ao xs.length ac) t.place) (by simp [results, Tryz.results169, go_sem, e0, e1, e2, e3, e4, e5, e6, e7]) rfl hend
      · rintro r w6 ⟨rfl, hf6⟩
        refine ⟨rfl, ?_⟩
        rw [hres.out, hq]
        exact ⟨rfl, hF5.trans (hf6.mono (by omega))⟩
  · rintro r w1 ⟨rfl, hf1⟩
    refine ⟨rfl, ?_⟩
    rw [hres.out, namedR, hq]
    exact ⟨rfl, hF0.call hf1 hF0.size⟩
end Go.Proofs.YtifebbdjdllfpaaGreatDoor
/- Primaries: the parser's reading. -/
namespace Go.Proofs.YtifebbdjdllfpaaGreatDoor
open Go.RowKit
set_option linter.unusedSimpArgs false
set_option linter.unusedVariables false

def PrimOk (d : Nat) (e : Px.P Px.Ex) : Prop := ∀ (b ga : Nat) (l : List Lx.Tok) (w : World), Ps b ga l w → Calls Tryz.prog 167 #[.pointer (some ⟨b, 0, none⟩), .int .i64 d] w fun r w' => ExPost b ga w (Px.primary e l) r w'
theorem primary_as (e : Px.P Px.Ex) (t : Lx.Tok) (r : List Lx.Tok) : Px.primary e (t :: r) =
    if t.kind = 2 then .inl (.mk 1 0 t.num [] [] t.place, r)
    else if t.kind = 3 then .inl (.mk 3 0 0 t.text [] t.place, r)
    else if Px.sees 1 [116, 114, 117, 101] (t :: r) then .inl (.mk 2 0 1 [] [] t.place, r)
    else if Px.sees 1 [102, 97, 108, 115, 101] (t :: r) then .inl (.mk 2 0 0 [] [] t.place, r)
    else if Px.sees 4 [40] (t :: r) then Px.bind (e r) fun x l1 => Px.bind (Px.need [41] l1) fun _ l2 => .inl (x, l2)
    else namedR e (t :: r) := rfl
set_option maxRecDepth 100000 in
set_option maxHeartbeats 8000000 in
theorem pprimary_any {d : Nat} {e : Px.P Px.Ex} (hd : d ≤ 30) (hok : Px.Ok e) (hexp : ExprOk (d + 1) e) : PrimOk d e := by
  intro b ga l w h
  have hname := pnamed_any hd hok hexp
  obtain ⟨t, r, rfl, _⟩ := h.head
  obtain ⟨res, hres⟩ : ∃ res, Aside (res = Px.primary e (t :: r)) := ⟨_, rfl⟩
  rw [← hres.out]
  replace hres : Aside (res = _) := hres.out.trans (primary_as e t r)
  have hwb : w.heap.size ≠ b := by have := h.there; omega
  have hwga : w.heap.size ≠ ga := by have := h.gl; omega
  have h0 := h.alloc zeroE
  have hs0 := zeroE_new w
  have hF0 : Fo b w.heap.size w (w.alloc zeroE) := (Fo.refl _ _ _).alloc (Nat.le_refl _) _
  have hl0 : w.heap.size < (w.alloc zeroE).heap.size := by simp
  have hC := pnext_any h0
  have hexp' : ∀ (l : List Lx.Tok) (w : World), Ps b ga l w → Calls Tryz.prog 127 #[.pointer (some ⟨b, 0, none⟩), .int .i64 ((d : Int) + 1)] w fun r w' => ExPost b ga w (e l) r w' := fun l w h => hexp b ga l w h
  have hdI : (d : Int) ≤ 30 := by omega
  go_enter Tryz.func167, Tryz.ntmps167
  go_wp2_with fail
  generalize w.alloc zeroE = w0 at *
  refine hC.mono ?_
  rintro r1 w1 ⟨rfl, hb1⟩
  have h2 := (h0.below hb1).alloc (tokB t)
  have hs2 : (w1.alloc (tokB t)).heap[w.heap.size]? = some zeroE := (heap_old (by have := hb1.size; omega)).trans ((hb1.block _ hl0).trans hs0)
  have hn2 := heap_new w1 (tokB t)
  have hF2 := (hF0.below hb1 hF0.size).alloc (by have := hb1.size; omega) (tokB t)
  have hl2 : w.heap.size < (w1.alloc (tokB t)).heap.size := by have := hb1.size; simp; omega
  have hm2 : w1.heap.size < (w1.alloc (tokB t)).heap.size := by simp
  have hgb : w1.heap.size ≠ b := by have := (h0.below hb1).there; omega
  have hgw : w.heap.size < w1.heap.size := by have := hb1.size; omega
  clear hC hs0 hF0 hb1 h0
  go_upto_region 2 with fail
  generalize w1.alloc (tokB t) = w2 at *
  generalize w1.heap.size = g5 at *
  obtain ⟨x0, x1, x2, x3, _⟩ := cells_of4 hn2
  have hne1 : g5 ≠ w.heap.size := by omega
  have hne2 : w.heap.size ≠ g5 := by omega
  by_cases hk2 : t.kind = 2
  · replace hres : Aside (res = .inl (.mk 1 0 t.num [] [] t.place, r)) := by
      show _ = _
      rw [hres.out, if_pos hk2]
    have hkI : ((t.kind : Int) == 2) = true := by simp; omega
    have hk5 : t.kind ≠ 5 := by omega
    have hT : ∀ w', Ps b ga (t :: r) w' → _ := fun w' h' => ptake_any h' hk5
    have hf2 := tokF2
    clear hk2
    go_upto_region 3 with fail
    go_region_held3 (fun w' => w'.cell? ⟨g5, 3, none⟩ = some (.int .i64 t.place)) (go_keep)
      ((go_at_call 53; refine (hT w2.drew (h2.keep rfl rfl (Nat.le_refl _))).mono ?_; rintro e w4 ⟨rfl, h4, fo4⟩; have y3 := (fo4.cell (o := 3) hm2 hgb).trans x3; have hl4 : w.heap.size < w4.heap.size := Nat.lt_of_lt_of_le hl2 fo4.size; have hs4 := (fo4.block _ hl2 hwb).trans hs2; obtain ⟨e0, e1, e2, e3, e4, e5, e6, e7, m0, m1, m2, m3, m4, m5, m6, m7⟩ := cells_of8 hs4))
    have hend := ex_ret (x := .mk 1 0 t.num [] [] t.place) (B := fun _ => False) h4 ((hF2.trans (Fo.drew _ _ _)).trans (fo4.mono (Nat.le_of_lt hl2))) hwb hwga (ex_leaf _ w4 1 0 t.num [] t.place) (fun g hg => hg.elim)
    go_wp2
    rw [hres.out]
    exact bodyPost_ret (v := eV 1 0 t.num [] (.slice none 0 0) t.place) (by simp [results, Tryz.results167, go_sem, e0, e1, e2, e3, e4, e5, e6, e7]) rfl hend
  have hk2I : ((t.kind : Int) == 2) = false := by simp; omega
  by_cases hk3 : t.kind = 3
  · replace hres : Aside (res = .inl (.mk 3 0 0 t.text [] t.place, r)) := by
      show _ = _
      rw [hres.out, if_neg hk2, if_pos hk3]
    have hkI : ((t.kind : Int) == 3) = true := by simp; omega
    have hk5 : t.kind ≠ 5 := by omega
    have hT : ∀ w', Ps b ga (t :: r) w' → _ := fun w' h' => ptake_any h' hk5
    have hf1 := tokF1
    clear hk2 hk3
    go_upto_region 5 with fail
    go_region_held3 (fun w' => w'.cell? ⟨g5, 3, none⟩ = some (.int .i64 t.place)) (go_keep)
      ((go_at_call 53; refine (hT w2.drew (h2.keep rfl rfl (Nat.le_refl _))).mono ?_; rintro e w4 ⟨rfl, h4, fo4⟩; have y3 := (fo4.cell (o := 3) hm2 hgb).trans x3; have hl4 : w.heap.size < w4.heap.size := Nat.lt_of_lt_of_le hl2 fo4.size; have hs4 := (fo4.block _ hl2 hwb).trans hs2; obtain ⟨e0, e1, e2, e3, e4, e5, e6, e7, m0, m1, m2, m3, m4, m5, m6, m7⟩ := cells_of8 hs4))
    have hend := ex_ret (x := .mk 3 0 0 t.text [] t.place) (B := fun _ => False) h4 ((hF2.trans (Fo.drew _ _ _)).trans (fo4.mono (Nat.le_of_lt hl2))) hwb hwga (ex_leaf _ w4 3 0 0 t.text t.place) (fun g hg => hg.elim)
    go_wp2
    rw [hres.out]
    exact bodyPost_ret (v := eV 3 0 0 t.text (.slice none 0 0) t.place) (by simp [results, Tryz.results167, go_sem, e0, e1, e2, e3, e4, e5, e6, e7]) rfl hend
  have hk3I : ((t.kind : Int) == 3) = false := by simp; omega
  replace hres : Aside (res = if Px.sees 1 [116, 114, 117, 101] (t :: r) then .inl (.mk 2 0 1 [] [] t.place, r) else if Px.sees 1 [102, 97, 108, 115, 101] (t :: r) then .inl (.mk 2 0 0 [] [] t.place, r) else if Px.sees 4 [40] (t :: r) then Px.bind (e r) fun x l1 => Px.bind (Px.need [41] l1) fun _ l2 => .inl (x, l2) else namedR e (t :: r)) := by
    show _ = _
    rw [hres.out, if_neg hk2, if_neg hk3]
  clear hk2 hk3
  rcases hs1 : Px.sees 1 [116, 114, 117, 101] (t :: r) with _ | _
  rotate_left
  · replace hres : Aside (res = .inl (.mk 2 0 1 [] [] t.place, r)) := by
      show _ = _
      rw [hres.out, if_pos hs1]
    go_wp2_with fail
    refine (ptakes_yes h2 [116, 114, 117, 101] (by decide) hs1).mono ?_
    rintro r1 w4 ⟨rfl, h4, fo4⟩
    have y3 := (fo4.cell (o := 3) hm2 hgb).trans x3
    have hl4 : w.heap.size < w4.heap.size := Nat.lt_of_lt_of_le hl2 fo4.size
    have hm4 : g5 < w4.heap.size := Nat.lt_of_lt_of_le hm2 fo4.size
    have hs4 := (fo4.block _ hl2 hwb).trans hs2
    obtain ⟨e0, e1, e2, e3, e4, e5, e6, e7, m0, m1, m2, m3, m4, m5, m6, m7⟩ := cells_of8 hs4
    have hend := ex_ret (x := .mk 2 0 1 [] [] t.place) (B := fun _ => False) h4 (hF2.call fo4 hF2.size) hwb hwga (ex_leaf _ w4 2 0 1 [] t.place) (fun g hg => hg.elim)
    go_wp2
    rw [hres.out]
    exact bodyPost_ret (v := eV 2 0 1 [] (.slice none 0 0) t.place) (by simp [results, Tryz.results167, go_sem, e0, e1, e2, e3, e4, e5, e6, e7]) rfl hend
  replace hres : Aside (res = if Px.sees 1 [102, 97, 108, 115, 101] (t :: r) then .inl (.mk 2 0 0 [] [] t.place, r) else if Px.sees 4 [40] (t :: r) then Px.bind (e r) fun x l1 => Px.bind (Px.need [41] l1) fun _ l2 => .inl (x, l2) else namedR e (t :: r)) := by
    show _ = _
    rw [hres.out, if_neg (by rw [hs1]; simp)]
  go_wp2_with fail
  refine (ptakes_no h2 [116, 114, 117, 101] hs1).mono ?_
  rintro r1 w3 ⟨rfl, h3, hb3⟩
  have hs3 := (hb3.block _ hl2).trans hs2
  have hn3 := (hb3.block _ hm2).trans hn2
  have hF3 := hF2.below hb3 hF2.size
  have hl3 : w.heap.size < w3.heap.size := Nat.lt_of_lt_of_le hl2 hb3.size
  have hm3 : g5 < w3.heap.size := Nat.lt_of_lt_of_le hm2 hb3.size
  clear x0 x1 x2 x3 hs2 hn2 hF2 hl2 hm2 h2 hb3 hs1
  obtain ⟨x0, x1, x2, x3, _⟩ := cells_of4 hn3
  rcases hs1 : Px.sees 1 [102, 97, 108, 115, 101] (t :: r) with _ | _
  rotate_left
  · replace hres : Aside (res = .inl (.mk 2 0 0 [] [] t.place, r)) := by
      show _ = _
      rw [hres.out, if_pos hs1]
    go_wp2_with fail
    refine (ptakes_yes h3 [102, 97, 108, 115, 101] (by decide) hs1).mono ?_
    rintro r1 w4 ⟨rfl, h4, fo4⟩
    have y3 := (fo4.cell (o := 3) hm3 hgb).trans x3
    have hl4 : w.heap.size < w4.heap.size := Nat.lt_of_lt_of_le hl3 fo4.size
    have hm4 : g5 < w4.heap.size := Nat.lt_of_lt_of_le hm3 fo4.size
    have hs4 := (fo4.block _ hl3 hwb).trans hs3
    obtain ⟨e0, e1, e2, e3, e4, e5, e6, e7, m0, m1, m2, m3, m4, m5, m6, m7⟩ := cells_of8 hs4
    have hend := ex_ret (x := .mk 2 0 0 [] [] t.place) (B := fun _ => False) h4 (hF3.call fo4 hF3.size) hwb hwga (ex_leaf _ w4 2 0 0 [] t.place) (fun g hg => hg.elim)
    go_wp2
    rw [hres.out]
    exact bodyPost_ret (v := eV 2 0 0 [] (.slice none 0 0) t.place) (by simp [results, Tryz.results167, go_sem, e0, e1, e2, e3, e4, e5, e6, e7]) rfl hend
  replace hres : Aside (res = if Px.sees 4 [40] (t :: r) then Px.bind (e r) fun x l1 => Px.bind (Px.need [41] l1) fun _ l2 => .inl (x, l2) else namedR e (t :: r)) := by
    show _ = _
    rw [hres.out, if_neg (by rw [hs1]; simp)]
  go_wp2_with fail
  refine (ptakes_no h3 [102, 97, 108, 115, 101] hs1).mono ?_
  rintro r1 w4 ⟨rfl, h4, hb4⟩
  have hs4 := (hb4.block _ hl3).trans hs3
  have hF4 := hF3.below hb4 hF3.size
  have hl4 : w.heap.size < w4.heap.size := Nat.lt_of_lt_of_le hl3 hb4.size
  clear x0 x1 x2 x3 hs3 hn3 hF3 hl3 hm3 h3 hb4 hs1
  rcases hs1 : Px.sees 4 [40] (t :: r) with _ | _
  · replace hres : Aside (res = namedR e (t :: r)) := by
      show _ = _
      rw [hres.out, if_neg (by rw [hs1]; simp)]
    go_wp2_with fail
    refine (ptakes_no h4 [40] hs1).mono ?_
    rintro r1 w5 ⟨rfl, h5, hb5⟩
    have hs5 := (hb5.block _ hl4).trans hs4
    have hF5 := hF4.below hb5 hF4.size
    have hl5 : w.heap.size < w5.heap.size := Nat.lt_of_lt_of_le hl4 hb5.size
    clear hs1 hs4 hF4 hl4 h4 hb5
    go_wp2_with fail
    refine (hname b ga (t :: r) w5 h5).mono ?_
    rcases hq : namedR e (t :: r) with ⟨x, l1⟩ | ⟨a, er⟩
    · rintro r1 w6 ⟨v, rfl, ⟨k, o, n, tt, ao, an, ac, p, rfl, hx⟩, h6, hf6⟩
      have hs6 := (hf6.block _ hl5 hwb).trans hs5
      have hl6 : w.heap.size < w6.heap.size := Nat.lt_of_lt_of_le hl5 hf6.size
      obtain ⟨e0, e1, e2, e3, e4, e5, e6, e7, m0, m1, m2, m3, m4, m5, m6, m7⟩ := cells_of8 hs6
      have hend := ex_ret h6 (hF5.call hf6 hF5.size) hwb hwga hx (fun g hg => Nat.lt_of_lt_of_le hl5 hg)
      rw [hq] at hres
      clear hq
      go_wp2
      rw [hres.out]
      exact bodyPost_ret (v := eV k o n tt (.slice ao an ac) p) (by simp [results, Tryz.results167, go_sem, e0, e1, e2, e3, e4, e5, e6, e7]) rfl hend
    · rintro r1 w6 ⟨rfl, hf6⟩
      refine ⟨rfl, ?_⟩
      rw [hres.out, hq]
      exact ⟨rfl, hF5.call hf6 hF5.size⟩
  · replace hres : Aside (res = Px.bind (e r) fun x l1 => Px.bind (Px.need [41] l1) fun _ l2 => .inl (x, l2)) := by
      show _ = _
      rw [hres.out, if_pos hs1]
    go_wp2_with fail
    refine (ptakes_yes h4 [40] (by decide) hs1).mono ?_
    rintro r1 w5 ⟨rfl, h5, hf5⟩
    have hs5 := (hf5.block _ hl4 hwb).trans hs4
    have hF5 := hF4.call hf5 hF4.size
    have hl5 : w.heap.size < w5.heap.size := Nat.lt_of_lt_of_le hl4 hf5.size
    clear hs1 hs4 hF4 hl4 h4 hf5
    go_wp2_with fail
    refine (hexp' r w5 h5).mono ?_
    rcases hq : e r with ⟨x, l1⟩ | ⟨a, er⟩
    · rintro r1 w6 ⟨v, rfl, ⟨k, o, n, tt, ao, an, ac, p, rfl, hx⟩, h6, hf6⟩
      replace hres : Aside (res = Px.bind (Px.need [41] l1) fun _ l2 => .inl (x, l2)) := by
        show _ = _
        rw [hres.out, hq]; rfl
      have hs6 := (hf6.block _ hl5 hwb).trans hs5
      have hl6 : w.heap.size < w6.heap.size := Nat.lt_of_lt_of_le hl5 hf6.size
      have hF6 := hF5.call hf6 hF5.size
      have h7 := h6.alloc (eO k o n tt (.slice ao an ac) p)
      have hB7 : Below w6.heap.size w6 (w6.alloc (eO k o n tt (.slice ao an ac) p)) := (Below.refl _ _).alloc (Nat.le_refl _) _
      have hx7 := (hx.plow (B' := fun g => w.heap.size < g ∧ g ≠ w6.heap.size) (fun g hg hlt => ⟨Nat.lt_of_lt_of_le hl5 hg, Nat.ne_of_lt hlt⟩)).since (Since.of_below hB7)
      have hs7 := (hB7.block _ hl6).trans hs6
      have hn7 := heap_new w6 (eO k o n tt (.slice ao an ac) p)
      have hF7 := hF6.below hB7 hF6.size
      have hl7 : w.heap.size < (w6.alloc (eO k o n tt (.slice ao an ac) p)).heap.size := Nat.lt_of_lt_of_le hl6 hB7.size
      have hm7 : w6.heap.size < (w6.alloc (eO k o n tt (.slice ao an ac) p)).heap.size := by simp
      have hg6b : w6.heap.size ≠ b := by have := h6.there; omega
      clear hq hs5 hs6 hF5 hF6 h5 h6 hf6 hx hl5
      go_upto_region 12 with fail
      generalize w6.alloc (eO k o n tt (.slice ao an ac) p) = w7 at *
      generalize w6.heap.size = g6 at *
      go_wp2_with fail
      refine (pneed_any h7 4 [41] (by decide) (by decide)).mono ?_
      rcases hq : Px.need [41] l1 with ⟨u, l2⟩ | ⟨a, er⟩
      · rw [show Px.needK 4 [41] l1 = _ from hq]
        rintro r1 w8' ⟨v, rfl, rfl, h8, hf8⟩
        replace hres : Aside (res = .inl (x, l2)) := by
          show _ = _
          rw [hres.out, hq]; rfl
        have hs8 := (hf8.block _ hl7 hwb).trans hs7
        have hn8 := (hf8.block _ hm7 hg6b).trans hn7
        have hl8 : w.heap.size < w8'.heap.size := Nat.lt_of_lt_of_le hl7 hf8.size
        have hm8 : g6 < w8'.heap.size := Nat.lt_of_lt_of_le hm7 hf8.size
        have hx8 := hx7.since (hf8.sinceB (fun hh => by have := h.there; omega))
        have hend := ex_ret h8 (hF7.call hf8 hF7.size) hwb hwga hx8 (fun g hg => hg.1)
        obtain ⟨e0, e1, e2, e3, e4, e5, e6, e7, m0, m1, m2, m3, m4, m5, m6, m7⟩ := cells_of8 hs8
        obtain ⟨y0, y1, y2, y3, y4, y5, y6, y7, _⟩ := cells_of8 hn8
        clear hq hf8
        go_wp2
        rw [hres.out]
        exact bodyPost_ret (v := eV k o n tt (.slice ao an ac) p) (by simp [results, Tryz.results167, go_sem, e0, e1, e2, e3, e4, e5, e6, e7]) rfl hend
      · rw [show Px.needK 4 [41] l1 = _ from hq]
        rintro r1 w8' ⟨rfl, hf8⟩
        refine ⟨rfl, ?_⟩
        rw [hres.out, hq]
        exact ⟨rfl, hF7.call hf8 hF7.size⟩
    · rintro r1 w6 ⟨rfl, hf6⟩
      refine ⟨rfl, ?_⟩
      rw [hres.out, hq]
      exact ⟨rfl, hF5.call hf6 hF5.size⟩
end Go.Proofs.YtifebbdjdllfpaaGreatDoor
/- Unaries: the parser's reading. -/
namespace Go.Proofs.YtifebbdjdllfpaaGreatDoor
open Go.RowKit
set_option linter.unusedSimpArgs false
set_option linter.unusedVariables false

/-- One expression in a new block, what stands over it in the result's box. -/
theorem ex_ret_one {b ga : Nat} {w w4 : World} {x : Px.Ex} {l' : List Lx.Tok} {kk pl k o n p : Nat} {t : Lx.B} {ao : Option Addr} {an ac : Nat} {B : Nat → Prop} (h4 : Ps b ga l' w4) (hF : Fo b w.heap.size w w4) (hg : w.heap.size ≠ b) (hga : w.heap.size ≠ ga) (hl : w.heap.size < w4.heap.size) (hx : IsEx B w4 x (eL k o n t (.slice ao an ac) p)) (hB : ∀ g, B g → w.heap.size < g) :
    ExPost b ga w (.inl (.mk kk 0 0 [] [x] pl, l')) (.returned (eV kk 0 0 [] (.slice (some ⟨w4.heap.size, 0, none⟩) 1 1) pl)) ((eS w4 w.heap.size kk 0 0 [] (.slice (some ⟨w4.heap.size, 0, none⟩) 1 1) pl).alloc (eO k o n t (.slice ao an ac) p)) := by
  have hPX := h4.set8 hg hga (.int .i64 kk) (.int .i64 (0 : Nat)) (.int .i64 (0 : Nat)) (.string ⟨#[]⟩) (.int .i64 0) (.string ⟨#[]⟩) (.slice (some ⟨w4.heap.size, 0, none⟩) 1 1) (.int .i64 pl)
  have hFX := hF.set8 (Nat.le_refl _) (.int .i64 kk) (.int .i64 (0 : Nat)) (.int .i64 (0 : Nat)) (.string ⟨#[]⟩) (.int .i64 0) (.string ⟨#[]⟩) (.slice (some ⟨w4.heap.size, 0, none⟩) 1 1) (.int .i64 pl)
  have hsz := eS_size w4 w.heap.size kk 0 0 pl [] (.slice (some ⟨w4.heap.size, 0, none⟩) 1 1)
  have hoth : ∀ j, j ≠ w.heap.size → (eS w4 w.heap.size kk 0 0 [] (.slice (some ⟨w4.heap.size, 0, none⟩) 1 1) pl).heap[j]? = w4.heap[j]? := fun j hj => eS_other hj
  replace hPX : Ps b ga l' (eS w4 w.heap.size kk 0 0 [] (.slice (some ⟨w4.heap.size, 0, none⟩) 1 1) pl) := hPX
  replace hFX : Fo b w.heap.size w (eS w4 w.heap.size kk 0 0 [] (.slice (some ⟨w4.heap.size, 0, none⟩) 1 1) pl) := hFX
  generalize eS w4 w.heap.size kk 0 0 [] (.slice (some ⟨w4.heap.size, 0, none⟩) 1 1) pl = wX at *
  have hnew := heap_new wX (eO k o n t (.slice ao an ac) p)
  rw [hsz] at hnew
  have hsince : Since B w4 (wX.alloc (eO k o n t (.slice ao an ac) p)) := ⟨by simp [hsz], fun j h1 h2 => (heap_old (by omega)).trans (hoth j (by have := hB j h1; omega))⟩
  refine ⟨_, rfl, ⟨kk, 0, 0, [], _, 1, 1, pl, rfl, ?_⟩, hPX.alloc _, hFX.alloc (by omega) _⟩
  exact ex_one (B := From w.heap.size) (show w.heap.size ≤ w4.heap.size by omega) (by simp [hsz]) (fun j u hj => pcell_at hnew (by rw [List.getElem?_toArray]; exact hj)) ((hx.since hsince).base (fun g h => Nat.le_of_lt (hB g h)))
/-- A round's end: two expressions side by side in a new block, and the box set anew. -/
theorem box_two1 {P : Nat → Prop} {wD wF : World} {g7 k o nn p k2 o2 n2 p2 kk op pl : Nat} {t t2 : Lx.B} {sl sl2 : Value} (hP : P wD.heap.size) (hP7 : ¬ P g7) (h7 : wD.heap[g7]? = some (eO k o nn t sl p))
    (hwF : wF = (eS wD g7 kk op 0 [] (.slice (some ⟨wD.heap.size, 0, none⟩) 2 2) pl).alloc (.cells (eL k o nn t sl p ++ eL k2 o2 n2 t2 sl2 p2).toArray 24 (0, 0))) :
    wF.heap[g7]? = some (eO kk op 0 [] (.slice (some ⟨wD.heap.size, 0, none⟩) 2 2) pl) ∧ Fo g7 wD.heap.size wD wF ∧ wF.heap.size = wD.heap.size + 1 ∧ ∀ x y, IsEx P wD x (eL k o nn t sl p) → IsEx P wD y (eL k2 o2 n2 t2 sl2 p2) → IsEx P wF (.mk kk op 0 [] [x, y] pl) (eL kk op 0 [] (.slice (some ⟨wD.heap.size, 0, none⟩) 2 2) pl) := by
  have hl7 : g7 < wD.heap.size := (Array.getElem?_eq_some_iff.1 h7).1
  have hsz := eS_size wD g7 kk op 0 pl [] (.slice (some ⟨wD.heap.size, 0, none⟩) 2 2)
  have hfo := eS_fo wD g7 kk op 0 pl [] (.slice (some ⟨wD.heap.size, 0, none⟩) 2 2) wD.heap.size
  have hblk := eS_blk (k := kk) (o := op) (n := 0) (t := []) (sl := .slice (some ⟨wD.heap.size, 0, none⟩) 2 2) (p := pl) h7
  generalize eS wD g7 kk op 0 [] (.slice (some ⟨wD.heap.size, 0, none⟩) 2 2) pl = wX at *
  have hb : Below wX.heap.size wX wF := by
    rw [hwF]
    exact (Below.refl _ _).alloc (Nat.le_refl _) _
  have hnew : wF.heap[wD.heap.size]? = some (.cells (eL k o nn t sl p ++ eL k2 o2 n2 t2 sl2 p2).toArray 24 (0, 0)) := by
    rw [hwF, ← hsz]
    exact heap_new _ _
  have hszF : wF.heap.size = wD.heap.size + 1 := by rw [hwF]; simp [hsz]
  clear hwF
  have hsince : Since P wD wF := ⟨by omega, fun j h1 h2 => (hb.block j (by omega)).trans (hfo.block j h2 (fun e => hP7 (by rw [← e]; exact h1)))⟩
  exact ⟨(hb.block g7 (by omega)).trans hblk, hfo.trans (Fo.of_below (hb.mono (by omega))), hszF, fun x y hx hy => ex_two hP (by omega) (fun j v hj => pcell_at hnew (by rw [List.getElem?_toArray]; exact hj)) (hx.since hsince) (hy.since hsince)⟩
theorem ats_fuel {e : Px.P Px.Ex} (he : Px.Ok e) : ∀ (f g : Nat) (acc : Px.Ex) (l : List Lx.Tok), Px.Good l → l.length < f → l.length < g → Px.ats e f acc l = Px.ats e g acc l
  | 0, _, _, _, _, h, _ => by omega
  | _, 0, _, _, _, _, h => by omega
  | f + 1, g + 1, acc, l, hg, h1, h2 => by
    simp only [Px.ats]
    split
    · rename_i hs
      have a := Px.sees4 hs hg
      refine Px.bind_congr fun x l1 e1 => Px.bind_congr fun u l2 e2 => ?_
      have a1 := (he _ a.good).ok x l1 e1
      have a2 := (Px.need_res a1.good).ok u l2 e2
      exact ats_fuel he f g _ l2 a2.good (by have := a.less; have := a1.less; have := a2.less; omega) (by have := a.less; have := a1.less; have := a2.less; omega)
    · rfl
set_option maxRecDepth 100000 in
set_option maxHeartbeats 8000000 in
theorem punary_zero : UnOk 25 (Px.unary 0) := by
  intro b ga l w h
  have h0 := h.alloc zeroE
  have hF0 : Fo b w.heap.size w (w.alloc zeroE) := (Fo.refl _ _ _).alloc (Nat.le_refl _) _
  go_enter Tryz.func163, Tryz.ntmps163
  go_wp2_with fail
  generalize w.alloc zeroE = w0 at *
  refine (pwithin_bad h0 25 24 (by omega)).mono ?_
  rintro e w1 ⟨rfl, hf1⟩
  exact ⟨rfl, rfl, hF0.call hf1 hF0.size⟩
set_option maxRecDepth 100000 in
set_option maxHeartbeats 8000000 in
theorem punary_step {k d : Nat} (hdk : d + (k + 1) = 25) (IH : UnOk (d + 1) (Px.unary k)) : UnOk d (Px.unary (k + 1)) := by
  have hexp : ExprOk (d + 1) (Px.expr' k) := pexpr_any (by omega) (Px.unary_ok k) IH
  have hok := Px.expr'_ok k
  have hprim := pprimary_any (d := d) (by omega) hok hexp
  intro b ga l w h
  obtain ⟨res, hres⟩ : ∃ res, Aside (res = Px.unary (k + 1) l) := ⟨_, rfl⟩
  rw [← hres.out]
  replace hres : Aside (res = _) := hres.out.trans (Px.unary_as h.good)
  obtain ⟨t, r, rfl, _⟩ := h.head
  have hwb : w.heap.size ≠ b := by have := h.there; omega
  have hwga : w.heap.size ≠ ga := by have := h.gl; omega
  have hbt := h.there
  have h0 := h.alloc zeroE
  have hs0 := zeroE_new w
  have hF0 : Fo b w.heap.size w (w.alloc zeroE) := (Fo.refl _ _ _).alloc (Nat.le_refl _) _
  have hl0 : w.heap.size < (w.alloc zeroE).heap.size := by simp
  have hIH : ∀ (l : List Lx.Tok) (w : World), Ps b ga l w → Calls Tryz.prog 163 #[.pointer (some ⟨b, 0, none⟩), .int .i64 ((d : Int) + 1)] w fun r w' => ExPost b ga w (Px.unary k l) r w' := fun l w h => IH b ga l w h
  have hexp' : ∀ (l : List Lx.Tok) (w : World), Ps b ga l w → Calls Tryz.prog 127 #[.pointer (some ⟨b, 0, none⟩), .int .i64 ((d : Int) + 1)] w fun r w' => ExPost b ga w (Px.expr' k l) r w' := fun l w h => hexp b ga l w h
  have hdI : (d : Int) ≤ 24 := by omega
  have hf3 := tokF3
  go_enter Tryz.func163, Tryz.ntmps163
  go_wp2_with fail
  generalize w.alloc zeroE = w0 at *
  refine (pwithin_ok h0 d 24 (by omega)).mono ?_
  rintro e w0' ⟨rfl, rfl⟩
  go_wp2_with fail
  refine (pnext_any h0).mono ?_
  rintro e w1 ⟨rfl, hb1⟩
  have h1 := h0.below hb1
  have hs1 := (hb1.block _ hl0).trans hs0
  have hF1 := hF0.below hb1 hF0.size
  have hl1 : w.heap.size < w1.heap.size := Nat.lt_of_lt_of_le hl0 hb1.size
  clear hs0 hF0 hl0 hb1 h0
  rcases hm : Px.sees 4 [45] (t :: r) with _ | _
  rotate_left
  · replace hres : Aside (res = Px.bind (Px.unary k r) fun x l1 => .inl (.mk 13 0 0 [] [x] t.place, l1)) := by
      show _ = _
      rw [hres.out, if_pos hm]; rfl
    go_wp2_with fail
    refine (ptakes_yes h1 [45] (by decide) hm).mono ?_
    rintro e w2 ⟨rfl, h2, hf2⟩
    have hs2 := (hf2.block _ hl1 hwb).trans hs1
    have hF2 := hF1.call hf2 hF1.size
    have hl2 : w.heap.size < w2.heap.size := Nat.lt_of_lt_of_le hl1 hf2.size
    clear hm hs1 hF1 hl1 h1 hf2
    go_wp2_with fail
    refine (hIH r w2 h2).mono ?_
    rcases hq : Px.unary k r with ⟨x, l1⟩ | ⟨a, er⟩
    · rintro e w4 ⟨v, rfl, ⟨kk, o, n, tt, ao, an, ac, p, rfl, hx⟩, h4, hf4⟩
      replace hres : Aside (res = .inl (.mk 13 0 0 [] [x] t.place, l1)) := by
        show _ = _
        rw [hres.out, hq]; rfl
      have hs4 := (hf4.block _ hl2 hwb).trans hs2
      have hl4 : w.heap.size < w4.heap.size := Nat.lt_of_lt_of_le hl2 hf4.size
      obtain ⟨e0, e1, e2, e3, e4, e5, e6, e7, m0, m1, m2, m3, m4, m5, m6, m7⟩ := cells_of8 hs4
      have hend := ex_ret_one (kk := 13) (pl := t.place) h4 (hF2.call hf4 hF2.size) hwb hwga hl4 hx (fun g hg => Nat.lt_of_lt_of_le hl2 hg)
      clear hq
      go_wp2
      rw [hres.out]
      exact bodyPost_ret (v := eV 13 0 0 [] (.slice (some ⟨w4.heap.size, 0, none⟩) 1 1) t.place) (by simp [results, Tryz.results163, go_sem, e0, e1, e2, e3, e4, e5, e6, e7, hl4]) rfl hend
    · rintro e w4 ⟨rfl, hf4⟩
      refine ⟨rfl, ?_⟩
      rw [hres.out, hq]
      exact ⟨rfl, hF2.call hf4 hF2.size⟩
  replace hres : Aside (res = if Px.sees 4 [33] (t :: r) then Px.bind (Px.unary k r) fun x l1 => .inl (.mk 14 0 0 [] [x] t.place, l1) else Px.bind (Px.primary (Px.expr' k) (t :: r)) fun x l1 => Px.ats (Px.expr' k) (l1.length + 1) x l1) := by
    show _ = _
    rw [hres.out, if_neg (by rw [hm]; simp)]; rfl
  go_wp2_with fail
  refine (ptakes_no h1 [45] hm).mono ?_
  rintro e w2 ⟨rfl, h2, hb2⟩
  have hs2 := (hb2.block _ hl1).trans hs1
  have hF2 := hF1.below hb2 hF1.size
  have hl2 : w.heap.size < w2.heap.size := Nat.lt_of_lt_of_le hl1 hb2.size
  clear hm hs1 hF1 hl1 h1 hb2
  rcases hm : Px.sees 4 [33] (t :: r) with _ | _
  rotate_left
  · replace hres : Aside (res = Px.bind (Px.unary k r) fun x l1 => .inl (.mk 14 0 0 [] [x] t.place, l1)) := by
      show _ = _
      rw [hres.out, if_pos hm]
    go_wp2_with fail
    refine (ptakes_yes h2 [33] (by decide) hm).mono ?_
    rintro e w3 ⟨rfl, h3, hf3'⟩
    have hs3 := (hf3'.block _ hl2 hwb).trans hs2
    have hF3 := hF2.call hf3' hF2.size
    have hl3 : w.heap.size < w3.heap.size := Nat.lt_of_lt_of_le hl2 hf3'.size
    clear hm hs2 hF2 hl2 h2 hf3'
    go_wp2_with fail
    refine (hIH r w3 h3).mono ?_
    rcases hq : Px.unary k r with ⟨x, l1⟩ | ⟨a, er⟩
    · rintro e w4 ⟨v, rfl, ⟨kk, o, n, tt, ao, an, ac, p, rfl, hx⟩, h4, hf4⟩
      replace hres : Aside (res = .inl (.mk 14 0 0 [] [x] t.place, l1)) := by
        show _ = _
        rw [hres.out, hq]; rfl
      have hs4 := (hf4.block _ hl3 hwb).trans hs3
      have hl4 : w.heap.size < w4.heap.size := Nat.lt_of_lt_of_le hl3 hf4.size
      obtain ⟨e0, e1, e2, e3, e4, e5, e6, e7, m0, m1, m2, m3, m4, m5, m6, m7⟩ := cells_of8 hs4
      have hend := ex_ret_one (kk := 14) (pl := t.place) h4 (hF3.call hf4 hF3.size) hwb hwga hl4 hx (fun g hg => Nat.lt_of_lt_of_le hl3 hg)
      clear hq
      go_wp2
      rw [hres.out]
      exact bodyPost_ret (v := eV 14 0 0 [] (.slice (some ⟨w4.heap.size, 0, none⟩) 1 1) t.place) (by simp [results, Tryz.results163, go_sem, e0, e1, e2, e3, e4, e5, e6, e7, hl4]) rfl hend
    · rintro e w4 ⟨rfl, hf4⟩
      refine ⟨rfl, ?_⟩
      rw [hres.out, hq]
      exact ⟨rfl, hF3.call hf4 hF3.size⟩
  replace hres : Aside (res = Px.bind (Px.primary (Px.expr' k) (t :: r)) fun x l1 => Px.ats (Px.expr' k) (l1.length + 1) x l1) := by
    show _ = _
    rw [hres.out, if_neg (by rw [hm]; simp)]
  go_wp2_with fail
  refine (ptakes_no h2 [33] hm).mono ?_
  rintro e w3 ⟨rfl, h3, hb3⟩
  have hs3 := (hb3.block _ hl2).trans hs2
  have hF3 := hF2.below hb3 hF2.size
  have hl3 : w.heap.size < w3.heap.size := Nat.lt_of_lt_of_le hl2 hb3.size
  clear hm hs2 hF2 hl2 h2 hb3
  go_wp2_with fail
  refine (hprim b ga (t :: r) w3 h3).mono ?_
  rcases hq : Px.primary (Px.expr' k) (t :: r) with ⟨x, l1⟩ | ⟨a, er⟩
  rotate_left
  · rintro e w4 ⟨rfl, hf4⟩
    refine ⟨rfl, ?_⟩
    rw [hres.out, hq]
    exact ⟨rfl, hF3.call hf4 hF3.size⟩
  rintro e w4 ⟨v, rfl, ⟨kk, o, n, tt, ao, an, ac, p, rfl, hx⟩, h4, hf4⟩
  replace hres : Aside (res = Px.ats (Px.expr' k) (l1.length + 1) x l1) := by
    show _ = _
    rw [hres.out, hq]; rfl
  have hl4 : w.heap.size < w4.heap.size := Nat.lt_of_lt_of_le hl3 hf4.size
  have hA : BinAt b ga w4.heap.size w x l1 (w4.alloc (eO kk o n tt (.slice ao an ac) p)) := by
    refine ⟨h4.alloc _, ⟨kk, o, n, tt, ao, an, ac, p, heap_new w4 _, ?_⟩, (heap_old hl4).trans ((hf4.block _ hl3 hwb).trans hs3), (hF3.call hf4 hF3.size).alloc (Nat.le_of_lt hl4) _⟩
    exact (hx.plow (fun g hg hlt => ⟨Nat.lt_of_lt_of_le hl3 hg, Nat.ne_of_lt hlt⟩)).since (Since.of_below ((Below.refl _ _).alloc (Nat.le_refl _) _))
  have hg7b : w4.heap.size ≠ b := by have := h4.there; omega
  have hg7ga : w4.heap.size ≠ ga := by have := h4.gl; omega
  clear hq hs3 hF3 hf4 h3 hx h4
  go_wp2_with fail
  generalize w4.alloc (eO kk o n tt (.slice ao an ac) p) = w5 at *
  generalize w4.heap.size = g7 at *
  go_loopg [] (l1.length + 1) (fun m wr => ∃ (acc : Px.Ex) (l4 : List Lx.Tok), m = l4.length + 1 ∧ BinAt b ga g7 w acc l4 wr ∧ Aside (res = Px.ats (Px.expr' k) (l4.length + 1) acc l4))
  case atStart => exact ⟨x, l1, rfl, hA, hres⟩
  case round =>
    clear hres hA
    obtain ⟨acc, l4, rfl, hA, hres⟩ := hrel
    have hI := pis_any hA.ps [91]
    have hlw : w.heap.size < wr.heap.size := (Array.getElem?_eq_some_iff.1 hA.out).1
    obtain ⟨kk, o, nn, tt, ao, an, ac, p, hbox, hacc⟩ := hA.box
    have hl7 : g7 < wr.heap.size := (Array.getElem?_eq_some_iff.1 hbox).1
    have hbw : ¬ (w.heap.size < b ∧ b ≠ g7) := by omega
    rcases hm : Px.sees 4 [91] l4 with _ | _
    · rw [show Px.sees (cls [91]) [91] l4 = false from hm] at hI
      replace hres : Aside (res = .inl (acc, l4)) := by
        show _ = _
        rw [hres.out]
        simp only [Px.ats]
        rw [if_neg (by rw [hm]; simp)]
      clear hm
      go_wp2_with fail
      refine hI.mono ?_
      rintro e w6 ⟨rfl, hb6⟩
      have hbox6 := (hb6.block g7 hl7).trans hbox
      have hout6 := (hb6.block _ hlw).trans hA.out
      have hl76 : g7 < w6.heap.size := (Array.getElem?_eq_some_iff.1 hbox6).1
      have hlw6 : w.heap.size < w6.heap.size := (Array.getElem?_eq_some_iff.1 hout6).1
      have hend := ex_ret (hA.ps.below hb6) (hA.fo.below hb6 hA.fo.size) hwb hwga (hacc.since (Since.of_below hb6)) (fun g hg => hg.1)
      obtain ⟨y0, y1, y2, y3, y4, y5, y6, y7, _⟩ := cells_of8 hbox6
      obtain ⟨e0, e1, e2, e3, e4, e5, e6, e7, m0, m1, m2, m3, m4, m5, m6, m7⟩ := cells_of8 hout6
      clear hb6 hbox hacc hI hA
      go_wp2
      rw [hres.out]
      exact bodyPost_ret (v := eV kk o nn tt (.slice ao an ac) p) (by simp [results, Tryz.results163, go_sem, e0, e1, e2, e3, e4, e5, e6, e7]) rfl hend
    · rw [show Px.sees (cls [91]) [91] l4 = true from hm] at hI
      obtain ⟨u, rr, rfl, hk4, _⟩ := Px.sees_head hm
      replace hres : Aside (res = Px.bind (Px.expr' k rr) fun x l1 => Px.bind (Px.need [93] l1) fun _ l2 => Px.ats (Px.expr' k) (rr.length + 1) (.mk 12 0 0 [] [acc, x] u.place) l2) := by
        show _ = _
        rw [hres.out]
        simp only [Px.ats, List.length_cons]
        rw [if_pos hm]; rfl
      clear hm
      go_wp2_with fail
      refine hI.mono ?_
      rintro e w6 ⟨rfl, hb6⟩
      have hP6 := hA.ps.below hb6
      go_wp2_with fail
      refine (ptake_any hP6 (by omega)).mono ?_
      rintro e w7 ⟨rfl, hP7, hf7⟩
      have hbox7 := (hf7.block g7 (by have := hb6.size; omega) hg7b).trans ((hb6.block g7 hl7).trans hbox)
      have hout7 := (hf7.block _ (by have := hb6.size; omega) hwb).trans ((hb6.block _ hlw).trans hA.out)
      have hacc7 := (hacc.since (Since.of_below hb6)).since (hf7.sinceB hbw)
      have hF7 := (hA.fo.below hb6 hA.fo.size).call hf7 (by have := hb6.size; have := hA.fo.size; omega)
      clear hb6 hf7 hbox hacc hI hP6 hA
      go_wp2_with fail
      refine (hexp' rr w7 hP7).mono ?_
      rcases hqr : Px.expr' k rr with ⟨y, l6⟩ | ⟨a, er⟩
      rotate_left
      · rintro e w8' ⟨rfl, hf8⟩
        refine ⟨rfl, ?_⟩
        rw [hres.out, hqr]
        exact ⟨rfl, hF7.call hf8 hF7.size⟩
      rintro e w8' ⟨v, rfl, ⟨k2, o2, n2, t2, ao2, an2, ac2, p2, rfl, hy⟩, hP8, hf8⟩
      have hle := ((hok rr hP7.good).ok y l6 hqr).less
      replace hres : Aside (res = Px.bind (Px.need [93] l6) fun _ l2 => Px.ats (Px.expr' k) (rr.length + 1) (.mk 12 0 0 [] [acc, y] u.place) l2) := by
        show _ = _
        rw [hres.out, hqr]; rfl
      have hl77 : g7 < w7.heap.size := (Array.getElem?_eq_some_iff.1 hbox7).1
      have hlw7 : w.heap.size < w7.heap.size := (Array.getElem?_eq_some_iff.1 hout7).1
      have hB9 : Below w8'.heap.size w8' (w8'.alloc (eO k2 o2 n2 t2 (.slice ao2 an2 ac2) p2)) := (Below.refl _ _).alloc (Nat.le_refl _) _
      have hz8 := hf8.size
      have hbox9 := (hB9.block g7 (by omega)).trans ((hf8.block g7 hl77 hg7b).trans hbox7)
      have hout9 := (hB9.block _ (by omega)).trans ((hf8.block _ hlw7 hwb).trans hout7)
      have hacc9 := (hacc7.since (hf8.sinceB hbw)).since (Since.of_below hB9)
      have hy9 := (hy.plow (B' := fun g => w.heap.size < g ∧ g ≠ g7) (fun g hg _ => by have hg' : w7.heap.size ≤ g := hg; omega)).since (Since.of_below hB9)
      have hP9 := hP8.below hB9
      have hF9 := (hF7.call hf8 hF7.size).below hB9 (by omega)
      have hn9 := heap_new w8' (eO k2 o2 n2 t2 (.slice ao2 an2 ac2) p2)
      have hz9 : (w8'.alloc (eO k2 o2 n2 t2 (.slice ao2 an2 ac2) p2)).heap.size = w8'.heap.size + 1 := by simp
      have hg8b : w8'.heap.size ≠ b := by have := hP8.there; omega
      clear hf8 hqr hacc7 hbox7 hout7 hy hF7 hP7 hP8 hB9
      go_upto_region 11 with fail
      generalize w8'.alloc (eO k2 o2 n2 t2 (.slice ao2 an2 ac2) p2) = w9 at *
      generalize w8'.heap.size = g8 at *
      go_wp2_with fail
      refine (pneed_any hP9 4 [93] (by decide) (by decide)).mono ?_
      rcases hqn : Px.need [93] l6 with ⟨uu, l9⟩ | ⟨a, er⟩
      rotate_left
      · rw [show Px.needK 4 [93] l6 = _ from hqn]
        rintro e w10 ⟨rfl, hf10⟩
        refine ⟨rfl, ?_⟩
        rw [hres.out, hqn]
        exact ⟨rfl, hF9.call hf10 hF9.size⟩
      rw [show Px.needK 4 [93] l6 = _ from hqn]
      rintro e w10 ⟨v, rfl, rfl, hP10, hf10⟩
      have hle2 := ((Px.need_res hP9.good).ok uu l9 hqn).less
      have hgd2 := ((Px.need_res hP9.good).ok uu l9 hqn).good
      replace hres : Aside (res = Px.ats (Px.expr' k) (l9.length + 1) (.mk 12 0 0 [] [acc, y] u.place) l9) := by
        show _ = _
        rw [hres.out, hqn]
        exact ats_fuel hok _ _ _ _ hgd2 (by omega) (by omega)
      have hbox10 := (hf10.block g7 (by omega) hg7b).trans hbox9
      have hout10 := (hf10.block _ (by omega) hwb).trans hout9
      have hn10 := (hf10.block g8 (by omega) hg8b).trans hn9
      have hacc10 := hacc9.since (hf10.sinceB hbw)
      have hy10 := hy9.since (hf10.sinceB hbw)
      have hF10 := hF9.call hf10 hF9.size
      have hl710 : g7 < w10.heap.size := (Array.getElem?_eq_some_iff.1 hbox10).1
      have hlw10 : w.heap.size < w10.heap.size := (Array.getElem?_eq_some_iff.1 hout10).1
      have hm10 : g8 < w10.heap.size := (Array.getElem?_eq_some_iff.1 hn10).1
      obtain ⟨y0, y1, y2, y3, y4, y5, y6, y7, j0, j1, j2, j3, j4, j5, j6, j7⟩ := cells_of8 hbox10
      obtain ⟨x0, x1, x2, x3, x4, x5, x6, x7, _⟩ := cells_of8 hn10
      clear hqn hf10 hbox9 hout9 hn9 hacc9 hy9 hF9 hP9
      go_wp2
      obtain ⟨hb11, hf11, hz11, hx11⟩ := box_two1 (P := fun g => w.heap.size < g ∧ g ≠ g7) (kk := 12) (op := 0) (pl := u.place) (k2 := k2) (o2 := o2) (n2 := n2) (p2 := p2) (t2 := t2) (sl2 := .slice ao2 an2 ac2) (by omega) (fun hh => hh.2 rfl) hbox10 rfl
      go_roundg (l9.length + 1)
      case measure => simp only [List.length_cons]; omega
      case rel =>
        refine ⟨_, l9, rfl, ⟨?_, ⟨12, 0, 0, [], _, 2, 2, u.place, hb11, hx11 acc y hacc10 hy10⟩, ?_, ?_⟩, hres⟩
        · exact hP10.keep (hf11.block _ hP10.there (by omega)) (hf11.block _ hP10.gl (by omega)) hf11.size
        · exact (hf11.block _ hlw10 (by omega)).trans hout10
        · exact hF10.trans ⟨hf11.os, hf11.tape, hf11.output, hf11.size, fun j h1 h2 => hf11.block j (by omega) (by omega)⟩
/-- A unary, d deep. -/
theorem punary_any : ∀ (k d : Nat), d + k = 25 → UnOk d (Px.unary k)
  | 0, d, h => by
    have : d = 25 := by omega
    subst this
    exact punary_zero
  | k + 1, d, h => punary_step h (punary_any k (d + 1) (by omega))
/-- An expression, d deep. -/
theorem pexpr_deep (k d : Nat) (h : d + k = 25) : ExprOk d (Px.expr' k) := pexpr_any (by omega) (Px.unary_ok k) (punary_any k d h)
end Go.Proofs.YtifebbdjdllfpaaGreatDoor
/- The parts of a statement: the parser's reading. -/
namespace Go.Proofs.YtifebbdjdllfpaaGreatDoor
open Go.RowKit
set_option linter.unusedSimpArgs false
set_option linter.unusedVariables false

theorem Gath.since {m : Nat} {w w' : World} {sl : Value} {acc : List Px.Ex} (h : Gath m w sl acc) (f : ∀ k, m ≤ k → k < w.heap.size → w'.heap[k]? = w.heap[k]?) (hs : w.heap.size ≤ w'.heap.size) : Gath m w' sl acc := by
  obtain ⟨row, ⟨h1, h2⟩, h3⟩ := h
  refine ⟨row, ⟨h1, ?_⟩, h3.since ⟨hs, fun k hk hl => f k hk.1 hl⟩⟩
  rcases h2 with h2 | ⟨g, cap, cur, hv, hg, hh, r⟩
  · exact Or.inl h2
  · exact Or.inr ⟨g, cap, cur, hv, hg, (f g hg (Array.getElem?_eq_some_iff.1 hh).1).trans hh, r⟩
/-- A cell of the statement is set anew. -/
theorem PStBox.set {b gp gd gx ge d k k' : Nat} {nm nm' : Lx.B} {b1 b2 b1' b2' : Value} {pl : Nat} {acc : List Px.Ex} {w : World} {j : Nat} {v : Value} (h : PStBox b gp gd gx ge d k nm b1 b2 pl acc w) (h2 : gp < gd) (h3 : gd < gx) (h4 : gx < ge)
    (hset : ∀ sl, w.heap[gx]? = some (sO k nm sl b1 b2 pl) → (w.setCell ⟨gx, j, none⟩ v).heap[gx]? = some (sO k' nm' sl b1' b2' pl)) : PStBox b gp gd gx ge d k' nm' b1' b2' pl acc (w.setCell ⟨gx, j, none⟩ v) := by
  obtain ⟨hp, hd, he, sl, hx, hg⟩ := h
  have oth : ∀ i, i ≠ gx → (w.setCell ⟨gx, j, none⟩ v).heap[i]? = w.heap[i]? := fun i hi => Below.heap_setCell _ _ _ _ hi
  exact ⟨(oth _ (by omega)).trans hp, (oth _ (by omega)).trans hd, (oth _ (by omega)).trans he, sl, hset sl hx, hg.since (fun i hi _ => oth i (by omega)) (by simp [World.setCell])⟩
theorem PStBox.lts {b gp gd gx ge d k : Nat} {nm : Lx.B} {b1 b2 : Value} {pl : Nat} {acc : List Px.Ex} {w : World} (h : PStBox b gp gd gx ge d k nm b1 b2 pl acc w) : gp < w.heap.size ∧ gd < w.heap.size ∧ ge < w.heap.size ∧ gx < w.heap.size := by
  obtain ⟨hp, hd, he, sl, hx, hg⟩ := h
  exact ⟨(Array.getElem?_eq_some_iff.1 hp).1, (Array.getElem?_eq_some_iff.1 hd).1, (Array.getElem?_eq_some_iff.1 he).1, (Array.getElem?_eq_some_iff.1 hx).1⟩
/-- What the taking of a statement's name does. -/
def NmPost (b ga gp gd gx ge d k : Nat) (b1 b2 : Value) (pl : Nat) (acc : List Px.Ex) (w : World) (r : Px.R Lx.Tok) (e : Ending) (w' : World) : Prop :=
  match r with
  | .inl (t, l') => e = .returned (.tuple #[]) ∧ PStBox b gp gd gx ge d k t.text b1 b2 pl acc w' ∧ Ps b ga l' w' ∧ Fo b gx w w'
  | .inr (a, er) => e = .panicked (thrownP a er) ∧ Fo b gx w w'
set_option maxRecDepth 100000 in
set_option maxHeartbeats 8000000 in
theorem pst_name {b ga gp gd gx ge d k : Nat} {nm : Lx.B} {b1 b2 : Value} {pl : Nat} {acc : List Px.Ex} {l : List Lx.Tok} {w : World} (h1 : b < gp) (h2 : gp < gd) (h3 : gd < gx) (h4 : gx < ge) (hga : ga < gp) (h : Ps b ga l w) (hi : PStBox b gp gd gx ge d k nm b1 b2 pl acc w) :
    Calls Tryz.prog 125 #[.pointer (some ⟨gp, 0, none⟩), .pointer (some ⟨gx, 0, none⟩)] w fun e w' => NmPost b ga gp gd gx ge d k b1 b2 pl acc w (Px.name l) e w' := by
  obtain ⟨l1, l2, l3, l4⟩ := hi.lts
  have c0 := cell_of_one hi.ptr
  have hf1 := tokF1
  have hC := pname_any h
  obtain ⟨res, hres⟩ : ∃ res, Aside (res = Px.name l) := ⟨_, rfl⟩
  rw [← hres.out] at hC ⊢
  clear hres
  go_enter Tryz.func125, Tryz.ntmps125
  go_wp2_with fail
  refine hC.mono ?_
  rcases res with ⟨t, l'⟩ | ⟨a, er⟩
  · rintro e w1 ⟨v, rfl, rfl, hP, hf⟩
    have hi1 := hi.fo hf h1 h2 h3 h4
    obtain ⟨m1, m2, m3, m4⟩ := hi1.lts
    obtain ⟨sl, hx, _⟩ := hi1.box
    have hset := hi1.set (j := 1) (v := .string ⟨t.text.toArray⟩) (k' := k) (nm' := t.text) (b1' := b1) (b2' := b2) h2 h3 h4 (fun sl hh => by simp [World.setCell, Array.getElem?_modify, hh])
    obtain ⟨_, x1, _, _, _, _, _, _, _, _, f1, _⟩ := cells_of9 hx
    have hpost : NmPost b ga gp gd gx ge d k b1 b2 pl acc w (.inl (t, l')) (.returned (.tuple #[])) (w1.setCell ⟨gx, 1, none⟩ (.string ⟨t.text.toArray⟩)) := ⟨rfl, hset, hP.other 1 _ (by omega) (by omega), (hf.mono (by omega)).fresh (Nat.le_refl _) 1 _⟩
    clear hC hi hi1 hset
    go_wp2
    go_end0
    exact hpost
  · rintro e w1 ⟨rfl, hf⟩
    exact ⟨rfl, rfl, hf.mono (by omega)⟩

def placeR (e : Px.P Px.Ex) (l : List Lx.Tok) : Px.R Px.Ex := Px.bind (Px.need [91] l) fun _ l1 => Px.bind (e l1) fun x l2 => Px.bind (Px.need [93] l2) fun _ l3 => .inl (x, l3)
set_option maxRecDepth 100000 in
set_option maxHeartbeats 8000000 in
theorem pst_place {b ga gp gd gx ge d k : Nat} {nm : Lx.B} {b1 b2 : Value} {pl : Nat} {acc : List Px.Ex} {l : List Lx.Tok} {w : World} {q : Px.P Px.Ex} (hd : d ≤ 30) (hok : Px.Ok q) (hexp : ExprOk (d + 1) q) (h1 : b < gp) (h2 : gp < gd) (h3 : gd < gx) (h4 : gx < ge) (hga : ga < gp) (h : Ps b ga l w) (hi : PStBox b gp gd gx ge d k nm b1 b2 pl acc w) (hal : acc.length + l.length ≤ 4096) :
    Calls Tryz.prog 128 #[.pointer (some ⟨gp, 0, none⟩), .pointer (some ⟨ge, 0, none⟩)] w fun e w' => PartPost b ga gx (PStBox b gp gd gx ge d k nm b1 b2 pl) acc w (placeR q l) e w' := by
  obtain ⟨res, hres⟩ : ∃ res, Aside (res = placeR q l) := ⟨_, rfl⟩
  rw [← hres.out]
  obtain ⟨l1, l2, l3, l4⟩ := hi.lts
  have c0 := cell_of_one hi.ptr
  have hlen : ∀ u l1, Px.need [91] l = .inl (u, l1) → l1.length ≤ l.length := fun u l1 hh => by have := ((Px.need_res h.good).ok u l1 hh).less; omega
  go_enter Tryz.func128, Tryz.ntmps128
  go_wp2_with fail
  refine (pneed_any h 4 [91] (by decide) (by decide)).mono ?_
  rcases hq : Px.need [91] l with ⟨u, l1⟩ | ⟨a, er⟩
  rotate_left
  · rw [show Px.needK 4 [91] l = _ from hq]
    rintro e w1 ⟨rfl, hf1⟩
    refine ⟨rfl, ?_⟩
    rw [hres.out, placeR, hq]
    exact ⟨rfl, hf1.mono (by omega)⟩
  rw [show Px.needK 4 [91] l = _ from hq]
  rintro e w1 ⟨v, rfl, rfl, hP1, hf1⟩
  replace hres : Aside (res = Px.bind (q l1) fun x l2 => Px.bind (Px.need [93] l2) fun _ l3 => .inl (x, l3)) := by
    show _ = _
    rw [hres.out, placeR, hq]; rfl
  have hln := hlen u l1 hq
  have hi1 := hi.fo hf1 h1 h2 h3 h4
  obtain ⟨m1, m2, m3, m4⟩ := hi1.lts
  have e1 := cell_of_one hi1.fe
  have hF1 : Fo b gx w w1 := hf1.mono (by omega)
  have hC := pstex_any (n := gx) hd hexp h1 h2 h3 h4 hga (Nat.le_refl _) acc l1 w1 hP1 hi1 (by omega) (by omega)
  clear hq hi c0 hf1 hlen
  go_wp2_with fail
  refine hC.mono ?_
  rcases hq : q l1 with ⟨x, l2⟩ | ⟨a, er⟩
  rotate_left
  · rintro e w2 ⟨rfl, hf2⟩
    refine ⟨rfl, ?_⟩
    rw [hres.out, hq]
    exact ⟨rfl, hF1.trans hf2⟩
  rintro e w2 ⟨rfl, hi2, hP2, hf2⟩
  replace hres : Aside (res = Px.bind (Px.need [93] l2) fun _ l3 => .inl (x, l3)) := by
    show _ = _
    rw [hres.out, hq]; rfl
  have c2 := cell_of_one hi2.ptr
  have hF2 := hF1.trans hf2
  obtain ⟨n1, n2, n3, n4⟩ := hi2.lts
  clear hq hi1 e1 hf2 hC hF1
  go_wp2_with fail
  refine (pneed_any hP2 4 [93] (by decide) (by decide)).mono ?_
  rcases hq : Px.need [93] l2 with ⟨u, l3⟩ | ⟨a, er⟩
  · rw [show Px.needK 4 [93] l2 = _ from hq]
    rintro e w3 ⟨v, rfl, rfl, hP3, hf3⟩
    replace hres : Aside (res = .inl (x, l3)) := by
      show _ = _
      rw [hres.out, hq]; rfl
    have hi3 := hi2.fo hf3 h1 h2 h3 h4
    clear hq
    go_wp2
    go_end0
    rw [hres.out]
    exact ⟨rfl, hi3, hP3, hF2.trans (hf3.mono (by omega))⟩
  · rw [show Px.needK 4 [93] l2 = _ from hq]
    rintro e w3 ⟨rfl, hf3⟩
    refine ⟨rfl, ?_⟩
    rw [hres.out, hq]
    exact ⟨rfl, hF2.trans (hf3.mono (by omega))⟩

def valueR (e : Px.P Px.Ex) (l : List Lx.Tok) : Px.R Px.Ex := Px.bind (Px.need [61] l) fun _ l1 => Px.bind (e l1) fun x l2 => Px.bind (Px.need [59] l2) fun _ l3 => .inl (x, l3)
set_option maxRecDepth 100000 in
set_option maxHeartbeats 8000000 in
theorem pst_value {b ga gp gd gx ge d k : Nat} {nm : Lx.B} {b1 b2 : Value} {pl : Nat} {acc : List Px.Ex} {l : List Lx.Tok} {w : World} {q : Px.P Px.Ex} (hd : d ≤ 30) (hok : Px.Ok q) (hexp : ExprOk (d + 1) q) (h1 : b < gp) (h2 : gp < gd) (h3 : gd < gx) (h4 : gx < ge) (hga : ga < gp) (h : Ps b ga l w) (hi : PStBox b gp gd gx ge d k nm b1 b2 pl acc w) (hal : acc.length + l.length ≤ 4096) :
    Calls Tryz.prog 129 #[.pointer (some ⟨gp, 0, none⟩), .pointer (some ⟨ge, 0, none⟩)] w fun e w' => PartPost b ga gx (PStBox b gp gd gx ge d k nm b1 b2 pl) acc w (valueR q l) e w' := by
  obtain ⟨res, hres⟩ : ∃ res, Aside (res = valueR q l) := ⟨_, rfl⟩
  rw [← hres.out]
  obtain ⟨l1, l2, l3, l4⟩ := hi.lts
  have c0 := cell_of_one hi.ptr
  have hlen : ∀ u l1, Px.need [61] l = .inl (u, l1) → l1.length ≤ l.length := fun u l1 hh => by have := ((Px.need_res h.good).ok u l1 hh).less; omega
  go_enter Tryz.func129, Tryz.ntmps129
  go_wp2_with fail
  refine (pneed_any h 4 [61] (by decide) (by decide)).mono ?_
  rcases hq : Px.need [61] l with ⟨u, l1⟩ | ⟨a, er⟩
  rotate_left
  · rw [show Px.needK 4 [61] l = _ from hq]
    rintro e w1 ⟨rfl, hf1⟩
    refine ⟨rfl, ?_⟩
    rw [hres.out, valueR, hq]
    exact ⟨rfl, hf1.mono (by omega)⟩
  rw [show Px.needK 4 [61] l = _ from hq]
  rintro e w1 ⟨v, rfl, rfl, hP1, hf1⟩
  replace hres : Aside (res = Px.bind (q l1) fun x l2 => Px.bind (Px.need [59] l2) fun _ l3 => .inl (x, l3)) := by
    show _ = _
    rw [hres.out, valueR, hq]; rfl
  have hln := hlen u l1 hq
  have hi1 := hi.fo hf1 h1 h2 h3 h4
  obtain ⟨m1, m2, m3, m4⟩ := hi1.lts
  have e1 := cell_of_one hi1.fe
  have hF1 : Fo b gx w w1 := hf1.mono (by omega)
  have hC := pstex_any (n := gx) hd hexp h1 h2 h3 h4 hga (Nat.le_refl _) acc l1 w1 hP1 hi1 (by omega) (by omega)
  clear hq hi c0 hf1 hlen
  go_wp2_with fail
  refine hC.mono ?_
  rcases hq : q l1 with ⟨x, l2⟩ | ⟨a, er⟩
  rotate_left
  · rintro e w2 ⟨rfl, hf2⟩
    refine ⟨rfl, ?_⟩
    rw [hres.out, hq]
    exact ⟨rfl, hF1.trans hf2⟩
  rintro e w2 ⟨rfl, hi2, hP2, hf2⟩
  replace hres : Aside (res = Px.bind (Px.need [59] l2) fun _ l3 => .inl (x, l3)) := by
    show _ = _
    rw [hres.out, hq]; rfl
  have c2 := cell_of_one hi2.ptr
  have hF2 := hF1.trans hf2
  obtain ⟨n1, n2, n3, n4⟩ := hi2.lts
  clear hq hi1 e1 hf2 hC hF1
  go_wp2_with fail
  refine (pneed_any hP2 4 [59] (by decide) (by decide)).mono ?_
  rcases hq : Px.need [59] l2 with ⟨u, l3⟩ | ⟨a, er⟩
  · rw [show Px.needK 4 [59] l2 = _ from hq]
    rintro e w3 ⟨v, rfl, rfl, hP3, hf3⟩
    replace hres : Aside (res = .inl (x, l3)) := by
      show _ = _
      rw [hres.out, hq]; rfl
    have hi3 := hi2.fo hf3 h1 h2 h3 h4
    clear hq
    go_wp2
    go_end0
    rw [hres.out]
    exact ⟨rfl, hi3, hP3, hF2.trans (hf3.mono (by omega))⟩
  · rw [show Px.needK 4 [59] l2 = _ from hq]
    rintro e w3 ⟨rfl, hf3⟩
    refine ⟨rfl, ?_⟩
    rw [hres.out, hq]
    exact ⟨rfl, hF2.trans (hf3.mono (by omega))⟩

/-- What the reading of a block, d deep, answers. -/
def BlockOk (d : Nat) (q : Px.P (List Px.St)) : Prop := ∀ (b ga : Nat) (l : List Lx.Tok) (w : World), Ps b ga l w → Calls Tryz.prog 83 #[.pointer (some ⟨b, 0, none⟩), .int .i64 d] w fun e w' => PPost b ga w (q l) (fun x v w' => IsSts (From w.heap.size) w' x v) e w'
set_option maxRecDepth 100000 in
set_option maxHeartbeats 8000000 in
theorem pst_block {b ga gp gd d : Nat} {l : List Lx.Tok} {w : World} {q : Px.P (List Px.St)} (hd : d ≤ 30) (hblk : BlockOk (d + 1) q) (h : Ps b ga l w) (hp : w.heap[gp]? = some (ptrObj b)) (hdp : w.heap[gd]? = some (depObj d)) :
    Calls Tryz.prog 130 #[.pointer (some ⟨gp, 0, none⟩), .pointer (some ⟨gd, 0, none⟩)] w fun e w' => PPost b ga w (q l) (fun x v w' => IsSts (From w.heap.size) w' x v) e w' := by
  have c0 := cell_of_one hp
  have d0 := cell_of_one hdp
  have hdI : (d : Int) ≤ 30 := by omega
  have hC : Calls Tryz.prog 83 #[.pointer (some ⟨b, 0, none⟩), .int .i64 ((d : Int) + 1)] w fun e w' => PPost b ga w (q l) (fun x v w' => IsSts (From w.heap.size) w' x v) e w' := hblk b ga l w h
  obtain ⟨res, hres⟩ : ∃ res, Aside (res = q l) := ⟨_, rfl⟩
  rw [← hres.out] at hC ⊢
  clear hres
  go_enter Tryz.func130, Tryz.ntmps130
  go_wp2_with fail
  refine hC.mono ?_
  rcases res with ⟨x, l'⟩ | ⟨a, er⟩
  · rintro e w1 ⟨v, rfl, hv, hP, hf⟩
    obtain ⟨ao, an, ac, rfl⟩ : ∃ ao an ac, v = .slice ao an ac := by
      obtain ⟨row, h1, _⟩ := hv
      obtain ⟨ao, ac, hh, _⟩ := h1.slice
      exact ⟨ao, _, ac, hh⟩
    go_wp2
    go_ret
    exact ⟨_, rfl, hv, hP, hf⟩
  · rintro e w1 ⟨rfl, hf⟩
    exact ⟨rfl, rfl, hf⟩
end Go.Proofs.YtifebbdjdllfpaaGreatDoor
/- Statements: what is said of them, and how one lies in its box. -/
namespace Go.Proofs.YtifebbdjdllfpaaGreatDoor
open Go.RowKit
set_option linter.unusedSimpArgs false
set_option linter.unusedVariables false

theorem bind_assoc {α β γ : Type} (r : Px.R α) (f : α → List Lx.Tok → Px.R β) (g : β → List Lx.Tok → Px.R γ) : Px.bind (Px.bind r f) g = Px.bind r fun x l => Px.bind (f x l) g := by
  match r with
  | .inl (x, l) => rfl
  | .inr e => rfl
theorem pbind_inl {α β : Type} (x : α) (l : List Lx.Tok) (f : α → List Lx.Tok → Px.R β) : Px.bind (.inl (x, l)) f = f x l := rfl
def letR (e : Px.P Px.Ex) (pl : Nat) (l : List Lx.Tok) : Px.R Px.St := Px.bind (Px.name l) fun t l1 => Px.bind (valueR e l1) fun x l4 => .inl (.mk 1 t.text [x] [] [] pl, l4)
def setR (e : Px.P Px.Ex) (pl : Nat) (l : List Lx.Tok) : Px.R Px.St := Px.bind (Px.name l) fun t l1 => if Px.sees 4 [91] l1 then Px.bind (placeR e l1) fun y l2 => Px.bind (valueR e l2) fun x l4 => .inl (.mk 2 t.text [y, x] [] [] pl, l4) else Px.bind (valueR e l1) fun x l4 => .inl (.mk 2 t.text [x] [] [] pl, l4)
def delR (e : Px.P Px.Ex) (pl : Nat) (l : List Lx.Tok) : Px.R Px.St := Px.bind (Px.name l) fun t l1 => Px.bind (placeR e l1) fun x l4 => Px.bind (Px.need [59] l4) fun _ l5 => .inl (.mk 3 t.text [x] [] [] pl, l5)
def ifR (e : Px.P Px.Ex) (blk : Px.P (List Px.St)) (pl : Nat) (l : List Lx.Tok) : Px.R Px.St := Px.bind (e l) fun x l1 => Px.bind (blk l1) fun b l2 => if Px.sees 1 [101, 108, 115, 101] l2 then Px.bind (blk l2.tail) fun c l3 => .inl (.mk 4 [] [x] b c pl, l3) else .inl (.mk 4 [] [x] b [] pl, l2)
def forR (e : Px.P Px.Ex) (blk : Px.P (List Px.St)) (pl : Nat) (l : List Lx.Tok) : Px.R Px.St := Px.bind (Px.name l) fun t l1 => Px.bind (Px.needK 1 [116, 111] l1) fun _ l2 => Px.bind (e l2) fun x l3 => Px.bind (blk l3) fun b l4 => .inl (.mk 5 t.text [x] b [] pl, l4)
def retR (e : Px.P Px.Ex) (pl : Nat) (l : List Lx.Tok) : Px.R Px.St := Px.bind (Px.needK 1 [114, 101, 116] l) fun _ l1 => Px.bind (e l1) fun x l2 => Px.bind (Px.need [59] l2) fun _ l3 => .inl (.mk 6 [] [x] [] [] pl, l3)
theorem stmt_forms (e : Px.P Px.Ex) (blk : Px.P (List Px.St)) (l : List Lx.Tok) : Px.stmt e blk l =
    if Px.sees 1 [108, 101, 116] l then letR e (Px.place l) l.tail else if Px.sees 1 [115, 101, 116] l then setR e (Px.place l) l.tail else if Px.sees 1 [100, 101, 108] l then delR e (Px.place l) l.tail
    else if Px.sees 1 [105, 102] l then ifR e blk (Px.place l) l.tail else if Px.sees 1 [102, 111, 114] l then forR e blk (Px.place l) l.tail else retR e (Px.place l) l := by
  unfold Px.stmt
  split
  · simp only [letR, valueR, bind_assoc, pbind_inl]
  split
  · simp only [setR, valueR, placeR, bind_assoc, pbind_inl]
    refine Px.bind_congr fun t l1 _ => ?_
    unfold Px.opt
    rcases hs : Px.sees 4 [91] l1 with _ | _
    · rfl
    · simp only [if_true]
      have hn : Px.need [91] l1 = .inl ((), l1.tail) := by unfold Px.need Px.needK; rw [if_pos hs]
      rw [hn]
      simp only [bind_assoc, pbind_inl]
      rfl
  split
  · simp only [delR, placeR, bind_assoc, pbind_inl]
  split
  · simp only [ifR]
    refine Px.bind_congr fun x l1 _ => Px.bind_congr fun b l2 _ => ?_
    unfold Px.other
    rcases hs : Px.sees 1 [101, 108, 115, 101] l2 with _ | _
    · rfl
    · rfl
  split
  · rfl
  · unfold retR Px.needK
    rcases hs : Px.sees 1 [114, 101, 116] l with _ | _
    · rfl
    · rfl
abbrev zeroS : Obj := sO 0 [] (.slice none 0 0) (.slice none 0 0) (.slice none 0 0) 0
abbrev sV (k : Nat) (nm : Lx.B) (es b1 b2 : Value) (pl : Nat) : Value := .agg #[.int .i64 k, .string ⟨nm.toArray⟩, .int .i64 0, .bool false, .int .i64 0, es, b1, b2, .int .i64 pl]
abbrev sL (k : Nat) (nm : Lx.B) (es b1 b2 : Value) (pl : Nat) : List Value := [.int .i64 k, .string ⟨nm.toArray⟩, .int .i64 0, .bool false, .int .i64 0, es, b1, b2, .int .i64 pl]
abbrev sS (w : World) (g k : Nat) (nm : Lx.B) (es b1 b2 : Value) (pl : Nat) : World := w9 w g (.int .i64 k) (.string ⟨nm.toArray⟩) (.int .i64 0) (.bool false) (.int .i64 0) es b1 b2 (.int .i64 pl)
/-- A statement's value. -/
def StV (B : Nat → Prop) (w : World) (s : Px.St) (v : Value) : Prop := ∃ k nm a1 n1 c1 a2 n2 c2 a3 n3 c3 pl, v = sV k nm (.slice a1 n1 c1) (.slice a2 n2 c2) (.slice a3 n3 c3) pl ∧ IsSt B w s (sL k nm (.slice a1 n1 c1) (.slice a2 n2 c2) (.slice a3 n3 c3) pl)
abbrev StPost (b ga : Nat) (w : World) (r : Px.R Px.St) (e : Ending) (w' : World) : Prop := PPost b ga w r (fun x v w' => StV (From w.heap.size) w' x v) e w'
theorem IsSts.since' {B : Nat → Prop} {w w' : World} {l : List Px.St} {v : Value} (h : IsSts B w l v) (s : Since B w w') : IsSts B w' l v := by
  obtain ⟨row, h1, h2⟩ := h
  exact ⟨row, h1.since s, h2.since s⟩
theorem IsSts.base' {B B' : Nat → Prop} {w : World} {l : List Px.St} {v : Value} (h : IsSts B w l v) (hb : ∀ k, B k → B' k) : IsSts B' w l v := by
  obtain ⟨row, h1, h2⟩ := h
  exact ⟨row, h1.base hb, h2.base hb⟩
theorem IsSts.nil' (B : Nat → Prop) (w : World) : IsSts B w [] (.slice none 0 0) := ⟨[], ⟨rfl, Or.inl ⟨rfl, rfl⟩⟩, by rw [AllSt]⟩
theorem IsSts.slc {B : Nat → Prop} {w : World} {l : List Px.St} {v : Value} (h : IsSts B w l v) : ∃ ao an ac, v = .slice ao an ac := by
  obtain ⟨row, h1, _⟩ := h
  obtain ⟨ao, ac, hh, _⟩ := h1.slice
  exact ⟨ao, _, ac, hh⟩
/-- How the reading of a statement stands: w0 is where it began. -/
structure SS (b ga gs ge d pl : Nat) (k : Nat) (nm : Lx.B) (b1 b2 : Value) (body other : List Px.St) (acc : List Px.Ex) (l : List Lx.Tok) (w0 w : World) : Prop where
  ps : Ps b ga l w
  st : PStBox b w0.heap.size (w0.heap.size + 1) gs ge d k nm b1 b2 pl acc w
  out : w.heap[w0.heap.size + 1 + 1]? = some zeroS
  fo : Fo b w0.heap.size w0 w
  i1 : IsSts (From (ge + 1)) w body b1
  i2 : IsSts (From (ge + 1)) w other b2
  lo : b < w0.heap.size ∧ ga < w0.heap.size ∧ w0.heap.size + 2 < gs ∧ gs < ge
theorem SS.call {b ga gs ge d pl k : Nat} {nm : Lx.B} {b1 b2 : Value} {body other : List Px.St} {acc : List Px.Ex} {l l' : List Lx.Tok} {w0 w w' : World} (h : SS b ga gs ge d pl k nm b1 b2 body other acc l w0 w) (f : Fo b w.heap.size w w') (hp : Ps b ga l' w') : SS b ga gs ge d pl k nm b1 b2 body other acc l' w0 w' := by
  obtain ⟨h1, h2, h3, h4⟩ := h.lo
  exact ⟨hp, h.st.fo f (by omega) (by omega) (by omega) h4, (f.block _ (Array.getElem?_eq_some_iff.1 h.out).1 (by omega)).trans h.out, h.fo.call f h.fo.size, h.i1.since' (f.since (by omega)), h.i2.since' (f.since (by omega)), h.lo⟩
theorem SS.below {b ga gs ge d pl k : Nat} {nm : Lx.B} {b1 b2 : Value} {body other : List Px.St} {acc : List Px.Ex} {l : List Lx.Tok} {w0 w w' : World} (h : SS b ga gs ge d pl k nm b1 b2 body other acc l w0 w) (f : Below w.heap.size w w') : SS b ga gs ge d pl k nm b1 b2 body other acc l w0 w' := h.call (Fo.of_below f) (h.ps.below f)
theorem SS.part {b ga gs ge d pl k : Nat} {nm nm' : Lx.B} {acc acc' : List Px.Ex} {l l' : List Lx.Tok} {w0 w w' : World} (h : SS b ga gs ge d pl k nm (.slice none 0 0) (.slice none 0 0) [] [] acc l w0 w) (hs : PStBox b w0.heap.size (w0.heap.size + 1) gs ge d k nm' (.slice none 0 0) (.slice none 0 0) pl acc' w') (hp : Ps b ga l' w') (f : Fo b gs w w') : SS b ga gs ge d pl k nm' (.slice none 0 0) (.slice none 0 0) [] [] acc' l' w0 w' := by
  obtain ⟨h1, h2, h3, h4⟩ := h.lo
  exact ⟨hp, hs, (f.block _ (by omega) (by omega)).trans h.out, h.fo.trans (f.mono (by omega)), IsSts.nil' _ _, IsSts.nil' _ _, h.lo⟩
theorem SS.set {b ga gs ge d pl k k' : Nat} {nm : Lx.B} {b1 b2 b1' b2' : Value} {body other body' other' : List Px.St} {acc : List Px.Ex} {l : List Lx.Tok} {w0 w : World} {j : Nat} {v : Value} (h : SS b ga gs ge d pl k nm b1 b2 body other acc l w0 w)
    (hset : ∀ sl, w.heap[gs]? = some (sO k nm sl b1 b2 pl) → (w.setCell ⟨gs, j, none⟩ v).heap[gs]? = some (sO k' nm sl b1' b2' pl)) (h1 : IsSts (From (ge + 1)) w body' b1') (h2 : IsSts (From (ge + 1)) w other' b2') : SS b ga gs ge d pl k' nm b1' b2' body' other' acc l w0 (w.setCell ⟨gs, j, none⟩ v) := by
  obtain ⟨l1, l2, l3, l4⟩ := h.lo
  have hsn : Since (From (ge + 1)) w (w.setCell ⟨gs, j, none⟩ v) := ⟨by simp [World.setCell], fun i hi _ => Below.heap_setCell _ _ _ _ (by have : ge + 1 ≤ i := hi; show i ≠ gs; omega)⟩
  exact ⟨h.ps.other j v (by omega) (by omega), h.st.set (by omega) (by omega) l4 hset, (Below.heap_setCell _ _ _ _ (by show w0.heap.size + 1 + 1 ≠ gs; omega)).trans h.out, h.fo.fresh (by omega) j v, h1.since' hsn, h2.since' hsn, h.lo⟩
theorem SS.lts {b ga gs ge d pl k : Nat} {nm : Lx.B} {b1 b2 : Value} {body other : List Px.St} {acc : List Px.Ex} {l : List Lx.Tok} {w0 w : World} (h : SS b ga gs ge d pl k nm b1 b2 body other acc l w0 w) : w0.heap.size < w.heap.size ∧ w0.heap.size + 1 < w.heap.size ∧ ge < w.heap.size ∧ gs < w.heap.size ∧ w0.heap.size + 1 + 1 < w.heap.size := by
  obtain ⟨a1, a2, a3, a4⟩ := h.st.lts
  exact ⟨a1, a2, a3, a4, (Array.getElem?_eq_some_iff.1 h.out).1⟩
/-- A statement is handed on: stored into the result's box, and answered. -/
theorem st_ret {b ga gs ge d pl k : Nat} {nm : Lx.B} {a2 a3 : Option Addr} {n2 c2 n3 c3 : Nat} {body other : List Px.St} {acc : List Px.Ex} {l : List Lx.Tok} {w0 w : World} {a1 : Option Addr} {n1 c1 : Nat} (h : SS b ga gs ge d pl k nm (.slice a2 n2 c2) (.slice a3 n3 c3) body other acc l w0 w) (hx : w.heap[gs]? = some (sO k nm (.slice a1 n1 c1) (.slice a2 n2 c2) (.slice a3 n3 c3) pl)) (hg : Gath (ge + 1) w (.slice a1 n1 c1) acc) :
    StPost b ga w0 (.inl (.mk k nm acc body other pl, l)) (.returned (sV k nm (.slice a1 n1 c1) (.slice a2 n2 c2) (.slice a3 n3 c3) pl)) (sS w (w0.heap.size + 1 + 1) k nm (.slice a1 n1 c1) (.slice a2 n2 c2) (.slice a3 n3 c3) pl) := by
  obtain ⟨l1, l2, l3, l4⟩ := h.lo
  obtain ⟨r1, g1, g2⟩ := hg.rows (B := From (ge + 1)) (fun k hk _ => hk)
  obtain ⟨r2, x1, x2⟩ := h.i1
  obtain ⟨r3, y1, y2⟩ := h.i2
  have hs : IsSt (From (ge + 1)) w (.mk k nm acc body other pl) (sL k nm (.slice a1 n1 c1) (.slice a2 n2 c2) (.slice a3 n3 c3) pl) := by
    rw [IsSt]
    exact ⟨_, _, _, r1, r2, r3, rfl, g1, g2, x1, x2, y1, y2⟩
  refine ⟨_, rfl, ⟨k, nm, a1, n1, c1, a2, n2, c2, a3, n3, c3, pl, rfl, ?_⟩, h.ps.set9 (by omega) (by omega) _ _ _ _ _ _ _ _ _, h.fo.set9 (by omega) _ _ _ _ _ _ _ _ _⟩
  exact (hs.since (Since.set9' (fun hh => by have : ge + 1 ≤ w0.heap.size + 1 + 1 := hh; omega) _ _ _ _ _ _ _ _ _)).base (from_mono (by omega))
end Go.Proofs.YtifebbdjdllfpaaGreatDoor
