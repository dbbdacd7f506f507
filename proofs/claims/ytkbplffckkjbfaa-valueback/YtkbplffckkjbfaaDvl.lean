/- Values read: the program's, lists. -/
import Derived.Test.YtkbplffckkjbfaaDvr
import Derived.Test.YtkbplffckkjbfaaRcp
namespace Go.Proofs.Ytkbplffckkjbfaa
open Go.RowKit
set_option linter.unusedVariables false
set_option linter.unusedSimpArgs false
attribute [local go_sem ↓] Go.wp_at_zero Go.wp_at_succ

theorem Only.low {r m : Nat} {w w1 w2 : World} (h : Only r w w1) (hb : Below m w1 w2) (hm : w.heap.size ≤ m) : Only r w w2 := ⟨hb.os.trans h.os, hb.tape.trans h.tape, hb.output.trans h.output, Nat.le_trans h.size hb.size, fun k h1 h2 => (hb.block k (by omega)).trans (h.block k h1 h2)⟩
theorem RdS.low {r m : Nat} {w1 w2 : World} {st : RSt} (h : RdS w1 r st) (hb : Below m w1 w2) (hm : r < m) : RdS w2 r st := h.up (fun k hk => hb.block k (by omega)) hb.size
theorem rdLs_snoc (f : RSt → V × RSt) : ∀ (n : Nat) (st : RSt), rdLs f (n + 1) st = ((rdLs f n st).1 ++ [(f (rdLs f n st).2).1], (f (rdLs f n st).2).2)
  | 0, st => rfl
  | n + 1, st => by
    have h := rdLs_snoc f n (f st).2
    rw [rdLs, h]
    rfl
theorem rdMs_snoc (f g : RSt → V × RSt) : ∀ (n : Nat) (st : RSt), rdMs f g (n + 1) st = ((rdMs f g n st).1 ++ [(f (rdMs f g n st).2).1, (g (f (rdMs f g n st).2).2).1], (g (f (rdMs f g n st).2).2).2)
  | 0, st => rfl
  | n + 1, st => by
    have h := rdMs_snoc f g n (g (f st).2).2
    rw [rdMs, h]
    rfl
set_option maxRecDepth 100000 in
set_option maxHeartbeats 4000000 in
theorem read_list {E : Ty} (hT : (Ty.list E).dp ≤ 4) (hE : ReadOk E) : ReadOk (.list E) := by
  have HE : Hid (ReadOk E) := hE
  have HD : Hid ((Ty.list E).dp ≤ 4) := hT
  clear hE
  intro w r st h hlft
  have hlenT := (tyT_len (.list E)).2
  have hZ := zero_any (tyT (.list E)) (by omega)
  have hL := list_any (tyT (.list E)) (by omega)
  have hkd : kdOf (tyT (.list E)) = 4 := by unfold kdOf; rw [tyOf_ty hT]; rfl
  have hel : elT (tyT (.list E)) = (tyT E, true) := by unfold elT; rw [tyOf_ty hT]
  rw [hel] at hL
  rw [hkd] at hZ
  clear hkd hel
  have hrl := h.lt
  obtain ⟨w0, hW, hb0, hs0, hr⟩ := rbox w
  clear hr
  generalize hty : tyT (.list E) = ty at *
  clear hty hlenT
  have hlu : lft (rdU 64 st).2 ≤ 1000000 := Nat.le_trans (rdU_lft _ _) hlft
  have hul := rdU_le 64 st
  go_enter Try.func69, Try.ntmps69
  go_wp2_with fail
  refine (hZ _).mono ?_
  rintro e w1 ⟨rfl, hb1⟩
  clear hZ
  obtain ⟨wz, w4, hWz, hW4, hb14, hs4, hsz, hblk4, ⟨y0, y1, y2, y3⟩, ⟨z0, z1, z2, z3⟩⟩ := rdbox w1 (.int .i64 4) (.int .i64 0) (.string ⟨#[]⟩) (.slice none 0 0)
  have hs1 := hb1.size
  have hb4 : Below w.heap.size w w4 := hb0.trans ((hb1.mono (by omega)).trans (hb14.mono (by omega)))
  obtain ⟨q0, q1, q2, q3, -⟩ := cells_of4 hblk4
  go_wp2_with fail
  refine (hL _).mono ?_
  rintro e w5 ⟨rfl, hb5⟩
  clear hL q0 q1 q2 q3 y0 y1 y2 y3 z0 z1 z2 z3
  have hR : Calls Try.prog 88 #[.pointer (some ⟨r, 0, none⟩), .int .i64 64] w5 fun e w' => e = .returned (.int .i64 ((rdU 64 st).1 : Nat)) ∧ RdS w' r (rdU 64 st).2 ∧ Only r w5 w' := upTo_any ((h.keep hb4).keep hb5) 64 (by omega)
  obtain ⟨u, HU⟩ : ∃ u, Hid (rdU 64 st = u) := ⟨_, rfl⟩
  rw [HU.out] at hR hlu hul
  clear h hlft
  go_wp2_with fail
  refine hR.mono ?_
  rintro e w6 ⟨rfl, hr6, ho6⟩
  clear hR
  have hs5 := hb5.size
  have hs6 := ho6.size
  have hO6 : Only r w w6 := ((Only.of_below hb4).low hb5 (by omega)).trans ⟨ho6.os, ho6.tape, ho6.output, ho6.size, ho6.block⟩
  have hblk6 : w6.heap[w1.heap.size]? = some (.cells #[.int .i64 4, .int .i64 0, .string ⟨#[]⟩, .slice none 0 0] 24 (0, 0)) := ho6.cells (by omega) (by omega) ((hb5.block _ (by omega)).trans hblk4)
  have hbR4 : w4.heap[w.heap.size]? = some (.cells #[.int .i64 0, .int .i64 0, .string ⟨#[]⟩, .slice none 0 0] 24 (0, 0)) := rbox_blk hW (hb1.trans (hb14.mono hs1))
  have hbR6 : w6.heap[w.heap.size]? = some (.cells #[.int .i64 0, .int .i64 0, .string ⟨#[]⟩, .slice none 0 0] 24 (0, 0)) := ho6.cells (by omega) (by omega) ((hb5.block _ (by omega)).trans hbR4)
  have hws : w.heap.size < w1.heap.size := by omega
  clear ho6 hblk4 hbR4 hW hWz hW4 hb14 hb5 hb1 hb0
  have hfin : Hid ((rdV (.list E) st).1 = .mk 4 0 [] (rdLs (rdV E) u.1 u.2).1 ∧ (rdV (.list E) st).2 = (rdLs (rdV E) u.1 u.2).2) := by
    rw [← HU.out]; exact ⟨rfl, rfl⟩
  clear HU HD hT
  go_wp2_with fail
  go_loopg [42] u.1 (fun g i wr => ∃ (q : Nat) (sa : Option Addr) (sc : Nat), q ≤ u.1 ∧ g = u.1 - q ∧ i = .int .i64 q ∧ Hid (Only r w wr ∧ w4.heap.size ≤ wr.heap.size ∧ RdS wr r (rdLs (rdV E) q u.2).2 ∧ wr.heap[w1.heap.size]? = some (.cells #[.int .i64 4, .int .i64 0, .string ⟨#[]⟩, .slice sa q sc] 24 (0, 0)) ∧ wr.heap[w.heap.size]? = some (.cells #[.int .i64 0, .int .i64 0, .string ⟨#[]⟩, .slice none 0 0] 24 (0, 0)) ∧ Gv (From w4.heap.size) wr (.slice sa q sc) (rdLs (rdV E) q u.2).1))
  case atStart => exact ⟨0, none, 0, Nat.zero_le _, rfl, rfl, hO6, by omega, hr6, hblk6, hbR6, Gv.nil _ _⟩
  case round =>
    obtain ⟨q, sa, sc, hq, rfl, rfl, HR⟩ := hrel
    obtain ⟨hOr, hsr, hRr, hbr, hbRr, hGr⟩ := HR.out
    clear HR hO6 hr6 hblk6 hbR6 hs6
    have hlft2 : lft (rdLs (rdV E) q u.2).2 ≤ 1000000 := Nat.le_trans (rdLs_lft (rdV_lft E) q u.2) hlu
    have hlq : (rdLs (rdV E) q u.2).1.length = q := rdLs_len _ _ _
    have hnx := rdLs_snoc (rdV E) q u.2
    obtain ⟨s, Hs⟩ : ∃ s, Hid (rdLs (rdV E) q u.2 = s) := ⟨_, rfl⟩
    rw [Hs.out] at hRr hGr hlft2 hlq hnx
    obtain ⟨t0, t1, t2, t3, -⟩ := cells_of4 hbr
    have hgr : w1.heap.size < wr.heap.size := by omega
    by_cases hlt : q < u.1
    · have hltI : (q : Int) < (u.1 : Int) := by omega
      have hcall : Calls Try.prog 69 #[.pointer (some ⟨r, 0, none⟩), .string ⟨(tyT E).toArray⟩] wr.drew fun e w' => ReadPost E wr.drew r s.2 e w' := HE.out wr.drew r s.2 (hRr.keep (Below.refl _ _).drew) hlft2
      unfold ReadPost at hcall
      obtain ⟨p, Hp⟩ : ∃ p, Hid (rdV E s.2 = p) := ⟨_, rfl⟩
      rw [Hp.out] at hcall hnx
      have hlq' : Hid (s.1.length = q) := hlq
      have HN : Hid (rdLs (rdV E) (q + 1) u.2 = (s.1 ++ [p.1], p.2)) := hnx
      clear hlq hnx Hs Hp t0 t1 t2 hlu hlft2
      go_wp2_with fail
      refine wpE_begin (S := fun w' => w'.cell? ⟨w1.heap.size, 3, none⟩ = some (.slice sa q sc) ∧ True) (N := fun j => decide (j < 6)) (by kernel_rfl) ?_
      have hS0 : wr.drew.cell? ⟨w1.heap.size, 3, none⟩ = some (.slice sa q sc) ∧ True := ⟨t3, trivial⟩
      refine wpE_takeX (some 44) (fun j => [1, 6, 7, 8].contains j) (i := 0) (v := .pointer (some ⟨w1.heap.size, 3, none⟩)) rfl rfl (by kernel_rfl) (by kernel_rfl) (by kernel_rfl) (by kernel_rfl) (fun j hj => by simp at hj; show j < 9; omega) (fun _ _ _ h => h) rfl (fun w' hS => by obtain ⟨g0, -⟩ := hS; go_simp) hS0 ?_
      try simp only [Act.put, List.setIfInBounds_toArray, List.set_cons_zero, List.set_cons_succ]
      refine wpE_takeX (some 45) (fun j => [6, 7, 8].contains j) (i := 1) (v := .slice sa q sc) rfl rfl (by kernel_rfl) (by kernel_rfl) (by kernel_rfl) (by kernel_rfl) (fun j hj => by simp at hj; show j < 9; omega) (fun _ _ _ h => h) rfl (fun w' hS => by obtain ⟨g0, -⟩ := hS; go_simp) hS0 ?_
      try simp only [Act.put, List.setIfInBounds_toArray, List.set_cons_zero, List.set_cons_succ]
      refine wpE_takeX (some 46) (fun j => [4, 5, 6, 7, 8].contains j) (i := 2) (v := .pointer (some ⟨r, 0, none⟩)) rfl rfl (by kernel_rfl) (by kernel_rfl) (by kernel_rfl) (by kernel_rfl) (fun j hj => by simp at hj; show j < 9; omega) (fun _ _ _ h => h) rfl (fun w' hS => by obtain ⟨g0, -⟩ := hS; go_simp) hS0 ?_
      try simp only [Act.put, List.setIfInBounds_toArray, List.set_cons_zero, List.set_cons_succ]
      refine wpE_takeX (some 47) (fun j => [4, 5, 6, 7, 8].contains j) (i := 3) (v := .string ⟨(tyT E).toArray⟩) rfl rfl (by kernel_rfl) (by kernel_rfl) (by kernel_rfl) (by kernel_rfl) (fun j hj => by simp at hj; show j < 9; omega) (fun _ _ _ h => h) rfl (fun w' hS => by obtain ⟨g0, -⟩ := hS; go_simp) hS0 ?_
      try simp only [Act.put, List.setIfInBounds_toArray, List.set_cons_zero, List.set_cons_succ]
      refine wpE_one (i := 4) (by kernel_rfl) rfl rfl (fun K hK => ?_)
      go_simp
      refine hcall.mono ?_
      rintro e wc ⟨⟨ax, cx, rfl, hxc⟩, hrc, hoc'⟩
      have hoc : Only r wr wc := (Only.of_below (Below.refl _ _).drew).trans hoc'
      clear hoc' hcall
      have hsc := hoc.size
      have k0 : wc.cell? ⟨w1.heap.size, 3, none⟩ = some (.slice sa q sc) := (World.cell?_of_block (hoc.block _ hgr (by show w1.heap.size ≠ r; omega))).trans t3
      refine hK _ _ (fun _ => ⟨k0, trivial⟩) ?_
      clear hK K
      try simp only [Act.put, List.setIfInBounds_toArray, List.set_cons_zero, List.set_cons_succ]
      obtain ⟨wa, hWa⟩ : ∃ wa, wc.alloc (.cells #[.int .i64 p.1.k, .int .i64 p.1.n, .string ⟨p.1.t.toArray⟩, .slice ax p.1.l.length cx] 24) = wa := ⟨_, rfl⟩
      have hba : Below wc.heap.size wc wa := by rw [← hWa]; exact (Below.refl _ _).alloc (Nat.le_refl _) _
      have hblka : wa.heap[wc.heap.size]? = some (.cells #[.int .i64 p.1.k, .int .i64 p.1.n, .string ⟨p.1.t.toArray⟩, .slice ax p.1.l.length cx] 24) := by rw [← hWa]; exact heap_new _ _
      have hsa : wa.heap.size = wc.heap.size + 1 := by rw [← hWa]; simp
      refine wpE_one (i := 5) (by kernel_rfl) rfl rfl (fun K hK => ?_)
      go_simp
      refine hK _ _ (fun _ => ⟨((bcell hba).1 _ _ (by omega)).trans k0, trivial⟩) ?_
      clear hK K
      try simp only [Act.put, List.setIfInBounds_toArray, List.set_cons_zero, List.set_cons_succ]
      have hGc : Gv (From w4.heap.size) wc (.slice sa q sc) s.1 := hGr.since (hoc.since (by show ¬ (w4.heap.size ≤ r); omega))
      have hGa : Gv (From w4.heap.size) wa (.slice sa q sc) s.1 := hGc.below hba
      obtain ⟨g7, c7, w7, hr7, hG7, hb7, hf7, -⟩ := hGa.push (l2 := [p.1]) (ad := ⟨wc.heap.size, 0, none⟩) (by simp) (by simp) (World.news_of_block hblka) (AllV.one (isV_iff.2 ⟨_, rfl, (hxc.below hba).base (B' := fun k => From w4.heap.size k ∧ (Value.slice sa q sc).ownBlock ≠ some k) (fun k h1 _ => by have h2 : wr.heap.size ≤ k := h1; exact ⟨by show w4.heap.size ≤ k; omega, hGr.apart h2⟩)⟩)) (by rw [hlq'.out]; simp; omega) (fun k hk => by show w4.heap.size ≤ k; omega) 1 22
      replace hb7 : Below w4.heap.size wa w7 := hb7 _ (by omega) (fun k hk => hk)
      rw [hlq'.out] at hr7 hG7
      refine wpE_one (i := 6) (by kernel_rfl) rfl rfl (fun K hK => ?_)
      refine wp_append_run _ _ 22 rfl _ _ rfl rfl _ _ hr7 ?_
      refine hK _ _ (fun h => by cases h) ?_
      clear hK K
      try simp only [Act.put, List.setIfInBounds_toArray, List.set_cons_zero, List.set_cons_succ]
      have hbr7 : w7.heap[w1.heap.size]? = some (.cells #[.int .i64 4, .int .i64 0, .string ⟨#[]⟩, .slice sa q sc] 24 (0, 0)) := by
        rw [hb7.block _ (by omega), hba.block _ (by omega), hoc.block _ (by omega) (by omega)]; exact hbr
      have hbR7 : w7.heap[w.heap.size]? = some (.cells #[.int .i64 0, .int .i64 0, .string ⟨#[]⟩, .slice none 0 0] 24 (0, 0)) := by
        rw [hb7.block _ (by omega), hba.block _ (by omega), hoc.block _ (by omega) (by omega)]; exact hbRr
      obtain ⟨m0, m1, m2, m3, n0, n1, n2, n3⟩ := cells_of4 hbr7
      refine wpE_one (i := 7) (by kernel_rfl) rfl rfl (fun K hK => ?_)
      go_simp
      refine hK _ _ (fun h => by cases h) ?_
      clear hK K
      try simp only [Act.put, List.setIfInBounds_toArray, List.set_cons_zero, List.set_cons_succ]
      refine wpE_one (i := 8) (by kernel_rfl) rfl rfl (fun K hK => ?_)
      go_simp
      refine hK _ _ (fun h => by cases h) ?_
      clear hK K
      try simp only [Act.put, List.setIfInBounds_toArray, List.set_cons_zero, List.set_cons_succ]
      refine wpE_done (by kernel_rfl) ?_
      obtain ⟨w8, hW8⟩ : ∃ w8, w7.setCell ⟨w1.heap.size, 3, none⟩ (.slice (some ⟨g7, 0, none⟩) (q + 1) c7) = w8 := ⟨_, rfl⟩
      have hs7 := hb7.size
      have hnew : Hid (Only r w w8 ∧ w4.heap.size ≤ w8.heap.size ∧ RdS w8 r (rdLs (rdV E) (q + 1) u.2).2 ∧ w8.heap[w1.heap.size]? = some (.cells #[.int .i64 4, .int .i64 0, .string ⟨#[]⟩, .slice (some ⟨g7, 0, none⟩) (q + 1) c7] 24 (0, 0)) ∧ w8.heap[w.heap.size]? = some (.cells #[.int .i64 0, .int .i64 0, .string ⟨#[]⟩, .slice none 0 0] 24 (0, 0)) ∧ Gv (From w4.heap.size) w8 (.slice (some ⟨g7, 0, none⟩) (q + 1) c7) (rdLs (rdV E) (q + 1) u.2).1) := by
        rw [HN.out, ← hW8]
        refine ⟨?_, ?_, ?_, set_3 hbr7 _, ?_, ?_⟩
        · exact ((((hOr.trans ⟨hoc.os, hoc.tape, hoc.output, hoc.size, hoc.block⟩).low hba (by omega)).low hb7 (by omega)).setCell (by omega) _ _)
        · have : (w7.setCell ⟨w1.heap.size, 3, none⟩ (.slice (some ⟨g7, 0, none⟩) (q + 1) c7)).heap.size = w7.heap.size := by simp [World.setCell]
          omega
        · exact ((hrc.low hba (by omega)).low hb7 (by omega)).setCell (by omega) _ _
        · rw [Below.heap_setCell _ _ _ _ (by show w.heap.size ≠ w1.heap.size; omega)]; exact hbR7
        · refine Gv.since hG7 ⟨by simp [World.setCell], fun k h1 _ => Below.heap_setCell _ _ _ _ ?_⟩
          show k ≠ w1.heap.size
          have : w4.heap.size ≤ k := h1
          omega
      rw [hW8]
      clear hG7 hGa hGc hGr hxc hb7 hba hr7 k0 m0 m1 m2 m3 n0 n1 n2 n3 hW8 hrc hoc hf7 hbr7 hbR7 hblka t3 hbr hbRr hRr hOr HN hWa
      simp only [Exit.inBlock, Exit.then]
      refine ‹∀ (a : Act) (w : World), _ → _› _ _ ?_
      go_wp2_with fail
      go_roundg (u.1 - (q + 1))
      case measure => omega
      case rel => exact ⟨q + 1, some ⟨g7, 0, none⟩, c7, by omega, rfl, by go_num, hnew⟩
    · have hltI : ¬ (q : Int) < (u.1 : Int) := by omega
      obtain rfl : q = u.1 := by omega
      rw [Hs.out] at hfin
      obtain ⟨r0, r1, r2, r3, s0, s1, s2, s3⟩ := cells_of4 hbRr
      have hz : w.heap.size < wr.heap.size := by omega
      have hres : ReadPost (.list E) w r st (.returned (.agg #[.int .i64 4, .int .i64 0, .string ⟨#[]⟩, .slice sa u.1 sc])) (set4 wr w.heap.size (.int .i64 4) (.int .i64 0) (.string ⟨#[]⟩) (.slice sa u.1 sc)) := by
        unfold ReadPost
        rw [hfin.out.1, hfin.out.2]
        refine ⟨⟨sa, sc, by rw [← hlq]; rfl, ⟨Nat.zero_le _, by show InR 4; constructor <;> decide, by show InR 0; constructor <;> decide, ?_⟩⟩, hRr.set4 hrl _ _ _ _, hOr.set4 (Nat.le_refl _) _ _ _ _⟩
        have h1 := (hGr.vs.since (since_set4 (g := w.heap.size) (by show ¬ (w4.heap.size ≤ w.heap.size); omega) (.int .i64 4) (.int .i64 0) (.string ⟨#[]⟩) (.slice sa u.1 sc))).base (B' := From w.heap.size) (fun k hk _ => by show w.heap.size ≤ k; have : w4.heap.size ≤ k := hk; omega)
        show IsVs _ _ s.1 (.slice sa s.1.length sc)
        rw [hlq]; exact h1
      clear hGr hfin Hs HE hRr hnx
      go_wp2_with fail
      exact bodyPost_ret (v := .agg #[.int .i64 4, .int .i64 0, .string ⟨#[]⟩, .slice sa u.1 sc]) (by simp [results, Try.results69, go_sem, hz, r0, r1, r2, r3]) rfl hres
end Go.Proofs.Ytkbplffckkjbfaa
