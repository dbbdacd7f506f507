/- Texts of ours, joined: Tv2. -/
import Derived.Test.YtnijcolomoobnaaGreatDoorH41
namespace Go.Proofs.YtnijcolomoobnaaGreatDoor
open Go.RowKit
set_option linter.unusedVariables false
set_option linter.unusedSimpArgs false
attribute [local go_sem ↓] Go.wp_at_zero Go.wp_at_succ

theorem RunIs.more {m : Md} {states : List V} {n : Int} {args : List V} {fuel k : Int} {S : List V} {v : V} {e fl : Int} (h : RunIs m states n args fuel S v e fl) (h0 : 0 ≤ fuel) (hk : 0 ≤ k) (h4 : fuel + k ≤ 4096) (he : e ≠ 54) (hc : ¬ (e = 40 ∧ S = [])) : RunIs m states n args (fuel + k) S v e (fl + k) := by
  rcases h with ⟨-, rfl, -, rfl, -⟩ | ⟨hok, f, g, o, hf, hg, h1⟩
  · exact absurd ⟨rfl, rfl⟩ hc
  · have ht : o.trap ≠ 54 := by
      rcases h1 with ⟨-, -, -, rfl, -⟩ | ⟨t, -⟩
      · exact he
      · rw [t]; decide
    have hm := vm_more hk g hg ht
    have e1 : cl15 fuel = fuel := by unfold cl15; rw [if_neg (by omega), if_neg (by omega)]
    have e2 : cl15 (fuel + k) = fuel + k := by unfold cl15; rw [if_neg (by omega), if_neg (by omega)]
    rw [e1] at hm
    refine Or.inr ⟨hok, f, g, _, hf, by rw [e2]; exact hm, ?_⟩
    rcases h1 with ⟨t, rfl, rfl, rfl, rfl⟩ | ⟨t, rfl, rfl, rfl, rfl⟩
    · exact Or.inl ⟨t, rfl, rfl, rfl, rfl⟩
    · exact Or.inr ⟨t, rfl, rfl, rfl, rfl⟩
set_option maxRecDepth 100000 in
set_option maxHeartbeats 16000000 in
theorem vfuel_walk {m : Md} {ac af as_ aa : Option Addr} {cc cf cs_ ca : Nat} {states args : List V} {n fuel more : Int} {w : World} (hm : IsMd Any' w m (.slice ac m.consts.length cc) (.slice af m.funcs.length cf)) (hz : SzM m) (hs : IsVs Any' w states (.slice as_ states.length cs_)) (ha : IsVs Any' w args (.slice aa args.length ca)) (hzs : SzVs states) (hza : SzVs args) (ht : Tb15 w.heap.size w) :
    Calls Tryz.prog 5 #[.agg #[.slice ac m.consts.length cc, .slice af m.funcs.length cf], .agg #[.slice as_ states.length cs_, .slice aa args.length ca, .int .i64 n, .int .i64 fuel], .int .i64 more] w fun e w' => e = .returned (.bool true) ∧ Below w.heap.size w w' := by
  obtain ⟨w1, hW1, hb1, hs1, hx1⟩ := box2 w (.slice ac m.consts.length cc) (.slice af m.funcs.length cf) 25
  obtain ⟨w2, hW2, hb2, hs2, hx2⟩ := box4T w1 (.slice as_ states.length cs_) (.slice aa args.length ca) (.int .i64 n) (.int .i64 fuel) 27
  have l01 : w.heap.size < w1.heap.size := by omega
  have l12 : w1.heap.size < w2.heap.size := by omega
  have hB2 : Below w.heap.size w w2 := hb1.trans (hb2.mono hb1.size)
  have hbx : ∀ wr, Below w2.heap.size w2 wr → wr.heap[w.heap.size]? = some (.cells #[.slice ac m.consts.length cc, .slice af m.funcs.length cf] 25 (0, 0)) ∧ wr.heap[w1.heap.size]? = some (.cells #[.slice as_ states.length cs_, .slice aa args.length ca, .int .i64 n, .int .i64 fuel] 27 (0, 0)) := fun wr hb => ⟨(hb.block _ (by omega)).trans ((hb2.block _ l01).trans hx1), (hb.block _ l12).trans hx2⟩
  have hcel : ∀ wr, Below w2.heap.size w2 wr → wr.cell? ⟨w.heap.size, 0, none⟩ = some (.slice ac m.consts.length cc) ∧ wr.cell? ⟨w.heap.size, 1, none⟩ = some (.slice af m.funcs.length cf) ∧ wr.cell? ⟨w1.heap.size, 0, none⟩ = some (.slice as_ states.length cs_) ∧ wr.cell? ⟨w1.heap.size, 1, none⟩ = some (.slice aa args.length ca) ∧ wr.cell? ⟨w1.heap.size, 2, none⟩ = some (.int .i64 n) ∧ wr.cell? ⟨w1.heap.size, 3, none⟩ = some (.int .i64 fuel) ∧ w.heap.size < wr.heap.size ∧ w1.heap.size < wr.heap.size := fun wr hb => by
    obtain ⟨z0, z1⟩ := hbx wr hb
    obtain ⟨q0, q1, -, -, q2⟩ := cells_k2 z0
    obtain ⟨r0, r1, r2, r3, -⟩ := cells_of4 z1
    exact ⟨q0, q1, r0, r1, r2, r3, q2, (Array.getElem?_eq_some_iff.1 z1).1⟩
  have Hcel : Hid _ := hcel
  have HBf : Hid (∀ wr, Below w2.heap.size w2 wr → Below w.heap.size w wr) := fun wr hb => hB2.trans (hb.mono hB2.size)
  have Hm : Hid (IsMd (fun k => k < w.heap.size) w m (.slice ac m.consts.length cc) (.slice af m.funcs.length cf)) := hm.base (fun k _ h => h)
  have Hs : Hid (IsVs (fun k => k < w.heap.size) w states (.slice as_ states.length cs_)) := hs.base (fun k _ h => h)
  have Ha : Hid (IsVs (fun k => k < w.heap.size) w args (.slice aa args.length ca)) := ha.base (fun k _ h => h)
  have Ht : Hid (Tb15 w.heap.size w) := ht
  have Hzz : Hid (SzM m ∧ SzVs states ∧ SzVs args) := ⟨hz, hzs, hza⟩
  have hK := wakes15_any (ht.at hB2)
  have hmn := min200_run fuel
  have Hfq0 : up200 fuel ≤ 200 := by unfold up200; split <;> omega
  generalize up200 fuel = fq at *
  have hfq200 : fq ≤ 200 := Hfq0
  have Hup : Hid (0 ≤ up0 fq ∧ (fq ≤ 200 → up0 fq ≤ 200)) := by
    show _ ∧ _
    unfold up0
    constructor
    · split <;> omega
    · intro h; split <;> omega
  have Hfq : Hid (fq ≤ 200) := hfq200
  clear Hfq0
  clear hm hz hs ha hzs hza ht hbx hcel hx1 hx2 hb1 hb2 hs1 hs2 hB2 l01 l12
  go_enter Tryz.func5, Tryz.ntmps5
  go_wp2_with fail
  refine hK.mono ?_
  rintro e w3 ⟨rfl, hb3⟩
  obtain ⟨k0, k1, k2, k3, k4, k5, k6, k7⟩ := Hcel.out w3 hb3
  obtain ⟨w4, hW4, hb4, hs4, hx4⟩ := box2 w3 (.slice as_ states.length cs_) (.slice aa args.length ca) 22
  have hB4 : Below w2.heap.size w2 w4 := hb3.trans (hb4.mono hb3.size)
  have hL := large15_any (Hm.out.below (HBf.out w4 hB4)) (Hs.out.below (HBf.out w4 hB4)) (Ha.out.below (HBf.out w4 hB4)) hx4 Hzz.out.1 Hzz.out.2.1 Hzz.out.2.2
  clear hK hW1 hW2 hb3 hs4 hx4 hb4
  go_wp2_with fail
  refine hL.mono ?_
  rintro e w5 ⟨⟨b, rfl, hb⟩, hb5⟩
  have hB5 : Below w2.heap.size w2 w5 := hB4.trans (hb5.mono hB4.size)
  have HL : Hid (b = false → Sm15 m states args) := hb
  clear hL hW4 hb hb5 hB4 k0 k1 k2 k3 k4 k5 k6 k7
  have hfin5 := HBf.out w5 hB5
  cases b with
  | true =>
    clear HL
    go_wp2
    go_ret
    exact ⟨rfl, hfin5⟩
  | false =>
  have HS : Hid (Sm15 m states args) := HL.out rfl
  clear HL hfin5 Hzz
  have hRun : ∀ (wr : World) (fu : Int), Below w2.heap.size w2 wr → Calls Tryz.prog 11 #[.agg #[.slice ac m.consts.length cc, .slice af m.funcs.length cf], .slice as_ states.length cs_, .int .i64 n, .slice aa args.length ca, .int .i64 fu] wr (RunPostW m states n args fu wr) := fun wr fu hb => vrun_any (Hm.out.below (HBf.out wr hb)) HS.out.fit (Hs.out.below (HBf.out wr hb)) (Ha.out.below (HBf.out wr hb)) (fun v hv => by have := HS.out.ws v hv; omega) (fun v hv => by have := HS.out.wa v hv; omega) (by have := HS.out.ls; omega) (Ht.out.at (HBf.out wr hb))
  have HRun : Hid _ := hRun
  clear hRun
  obtain ⟨k0, k1, k2, k3, k4, k5, k6, k7⟩ := Hcel.out w5 hB5
  have hmx := max0_run' fq
  by_cases hm0 : more < 0
  · have hfin := HBf.out w5 hB5
    have d0 : decide (more < 0) = true := by simpa using hm0
    clear HRun HS Hm Hs Ha Ht Hcel HBf Hup Hfq hmx hfq200
    go_wp2
    go_ret
    exact ⟨rfl, hfin⟩
  have d0 : decide (more < 0) = false := by simp; omega
  by_cases hm2 : more > 200
  · have hfin := HBf.out w5 hB5
    have d1 : decide (more > 200) = true := by simpa using hm2
    clear HRun HS Hm Hs Ha Ht Hcel HBf Hup Hfq hmx hfq200 hm0
    go_wp2
    go_ret
    exact ⟨rfl, hfin⟩
  have d1 : decide (more > 200) = false := by simp; omega
  have Hmore : Hid (0 ≤ more ∧ more ≤ 200) := ⟨by omega, by omega⟩
  have Hf0 : Hid (0 ≤ up0 fq ∧ up0 fq ≤ 200) := ⟨Hup.out.1, Hup.out.2 Hfq.out⟩
  clear Hup Hfq hm0 hm2 hfq200
  generalize up0 fq = f0 at *
  obtain ⟨f1, hwrap⟩ : ∃ f1, IntKind.i64.wrap (f0 + more) = f1 := ⟨_, rfl⟩
  have Hf1 : Hid (f1 = f0 + more) := by show f1 = f0 + more; rw [← hwrap, IntKind.wrap_i64]; have := Hf0.out; have := Hmore.out; omega
  have hR := HRun.out w5 f0 hB5
  go_wp2_with fail
  refine hR.mono ?_
  rintro e w6 ⟨S, v, e, fl, a', c', av, cv, mid, rfl, hIs, -, -, hSv, -, hvw, -, hb6⟩
  have hB6 : Below w2.heap.size w2 w6 := hB5.trans (hb6.mono hB5.size)
  obtain ⟨wz, w7, hWz, hW7, hx7, hb7, hl7, hzz⟩ := obox6 w6 (.int .i64 v.k) (.int .i64 v.n) (.string ⟨v.t.toArray⟩) (.slice av v.l.length cv) (.int .i64 e) (.int .i64 fl)
  have hB7 : Below w2.heap.size w2 w7 := hB6.trans (hb7.mono hB6.size)
  obtain ⟨z0, z1, z2, z3, z4, z5, zl⟩ := cells_k6 hzz
  obtain ⟨y0, y1, y2, y3, y4, y5⟩ := fz6 hzz
  have HSv : Hid (IsVs Any' w7 S (.slice a' S.length c')) := (hSv.base (fun _ _ _ => trivial)).below hb7
  have Hvw : Hid (IsW Any' w7 v (.slice av v.l.length cv)) := (hvw.base (fun _ _ _ => trivial)).below hb7
  have Hx7 : Hid (w7.heap[w6.heap.size]? = some (ouO (.int .i64 v.k) (.int .i64 v.n) (.string ⟨v.t.toArray⟩) (.slice av v.l.length cv) (.int .i64 e) (.int .i64 fl))) := hx7
  have HIs : Hid (RunIs m states n args f0 S v e fl) := hIs
  have hR2 := HRun.out w7 f1 hB7
  have Hsl : Hid (S.length ≤ 9223372036854775807) := by obtain ⟨_, _, e, h1, h2⟩ := HSv.out.slice; cases e; show _ ≤ _; omega
  have HB7 : Hid (Below w2.heap.size w2 w7) := hB7
  have q5 : w7.cell? ⟨w.heap.size, 0, none⟩ = some (.slice ac m.consts.length cc) := (Hcel.out w7 hB7).1
  obtain ⟨-, j1, j2, j3, j4, j5, j6, j7⟩ := Hcel.out w7 hB7
  clear hR hIs hSv hvw hb6 hb7 hx7 hzz hB6 hB7 hB5 HRun hl7
  go_wp2_with fail
  refine hR2.mono ?_
  rintro e' w8 ⟨S2, v2, e2, fl2, a2', c2', av2, cv2, mid2, rfl, hIs2, -, -, hSv2, -, hvw2, -, hb8⟩
  have hB8 : Below w7.heap.size w7 w8 := hb8
  clear z0 z1 z2 z3 z4 z5 zl y0 y1 y2 y3 y4 y5 hWz hW7 k0 k1 k2 k3 k4 k5 k6 k7 q5 j1 j2 j3 j4 j5 j6 j7
  obtain ⟨wz, w9, hWz, hW9, hx9, hb9, hl9, hzz⟩ := obox6 w8 (.int .i64 v2.k) (.int .i64 v2.n) (.string ⟨v2.t.toArray⟩) (.slice av2 v2.l.length cv2) (.int .i64 e2) (.int .i64 fl2)
  have hB9 : Below w7.heap.size w7 w9 := hB8.trans (hb9.mono hB8.size)
  obtain ⟨z0, z1, z2, z3, z4, z5, zl⟩ := cells_k6 hzz
  obtain ⟨y0, y1, y2, y3, y4, y5⟩ := fz6 hzz
  have HB9 : Hid (Below w.heap.size w w9) := HBf.out w9 (HB7.out.trans (hB9.mono HB7.out.size))
  have hxc : ∀ w', Below w9.heap.size w9 w' → (w'.cell? ⟨w6.heap.size, 0, none⟩ = some (.int .i64 v.k) ∧ w'.cell? ⟨w6.heap.size, 1, none⟩ = some (.int .i64 v.n) ∧ w'.cell? ⟨w6.heap.size, 2, none⟩ = some (.string ⟨v.t.toArray⟩) ∧ w'.cell? ⟨w6.heap.size, 3, none⟩ = some (.slice av v.l.length cv) ∧ w'.cell? ⟨w6.heap.size, 4, none⟩ = some (.int .i64 e) ∧ w'.cell? ⟨w6.heap.size, 5, none⟩ = some (.int .i64 fl) ∧ w6.heap.size < w'.heap.size) ∧ (w'.cell? ⟨w8.heap.size, 0, none⟩ = some (.int .i64 v2.k) ∧ w'.cell? ⟨w8.heap.size, 1, none⟩ = some (.int .i64 v2.n) ∧ w'.cell? ⟨w8.heap.size, 2, none⟩ = some (.string ⟨v2.t.toArray⟩) ∧ w'.cell? ⟨w8.heap.size, 3, none⟩ = some (.slice av2 v2.l.length cv2) ∧ w'.cell? ⟨w8.heap.size, 4, none⟩ = some (.int .i64 e2) ∧ w'.cell? ⟨w8.heap.size, 5, none⟩ = some (.int .i64 fl2) ∧ w8.heap.size < w'.heap.size) := fun w' h => by
    have hg1 := (Array.getElem?_eq_some_iff.1 Hx7.out).1
    exact ⟨cells_k6 ((h.block _ (Nat.lt_of_lt_of_le hg1 hB9.size)).trans ((hB9.block _ hg1).trans Hx7.out)), cells_k6 ((h.block _ hl9).trans hx9)⟩
  have Hxc : Hid _ := hxc
  obtain ⟨⟨q0, q1, q2, q3, q4, q5, q6⟩, ⟨r0, r1, r2, r3, r4, r5, r6⟩⟩ := hxc w9 (Below.refl _ _)
  have HS9 : Hid (IsVs Any' w9 S (.slice a' S.length c')) := HSv.out.below hB9
  have HS2 : Hid (IsVs Any' w9 S2 (.slice a2' S2.length c2')) := (hSv2.base (fun _ _ _ => trivial)).below hb9
  have Hv9 : Hid (IsW Any' w9 v (.slice av v.l.length cv)) := Hvw.out.below hB9
  have Hv2 : Hid (IsW Any' w9 v2 (.slice av2 v2.l.length cv2)) := (hvw2.base (fun _ _ _ => trivial)).below hb9
  have HIs2 : Hid (RunIs m states n args f1 S2 v2 e2 fl2) := hIs2
  have hguard : ((e == 54) = true) ∨ ((e == 54) = false ∧ (e == 40) = true ∧ ((S.length : Int) == 0) = true) ∨ (((e == 54) = false ∧ (e == 40) = false) ∨ ((e == 54) = false ∧ (e == 40) = true ∧ ((S.length : Int) == 0) = false)) := by
    rcases num_bool e 54 with ⟨c, -⟩ | ⟨c, -⟩
    · exact Or.inl c
    · rcases num_bool e 40 with ⟨d, -⟩ | ⟨d, -⟩
      · rcases num_bool (S.length : Int) 0 with ⟨c', -⟩ | ⟨c', -⟩
        · exact Or.inr (Or.inl ⟨c, d, c'⟩)
        · exact Or.inr (Or.inr (Or.inr ⟨c, d, c'⟩))
      · exact Or.inr (Or.inr (Or.inl ⟨c, d⟩))
  have hslI := Hsl.out
  clear hR2 hIs2 hSv2 hvw2 hb8 hb9 hB8 hB9 hx9 hzz hxc HSv Hvw Hx7 hl9 HB7 Hcel HBf Hs Ha Ht Hm HS
  rcases hguard with hg | ⟨hg, hg1, hg2⟩ | hG
  · have hfin := HB9.out
    clear HB9 HIs HIs2 HS9 HS2 Hv9 Hv2 Hxc Hf0 Hf1 Hmore Hsl
    go_wp2
    go_ret
    exact ⟨rfl, hfin⟩
  · have hfin := HB9.out
    clear HB9 HIs HIs2 HS9 HS2 Hv9 Hv2 Hxc Hf0 Hf1 Hmore Hsl
    go_wp2
    go_ret
    exact ⟨rfl, hfin⟩
  · have he54 : e ≠ 54 := by rcases hG with ⟨h, -⟩ | ⟨h, -⟩ <;> simpa using h
    have hc40 : ¬ (e = 40 ∧ S = []) := by
      rintro ⟨rfl, rfl⟩
      rcases hG with ⟨-, h⟩ | ⟨-, -, h⟩ <;> simp at h
    obtain ⟨h1, h2, h3, h4⟩ := (HIs.out.more Hf0.out.1 Hmore.out.1 (by have := Hf0.out; have := Hmore.out; omega) he54 hc40).one (Hf1.out ▸ HIs2.out)
    subst h1
    subst h2
    subst h3
    have hfl := HIs.out.facts
    have hw2 : IntKind.i64.wrap (fl + more) = fl2 := by
      have hcl : cl15 f0 ≤ f0 := by have := Hf0.out; unfold cl15; split <;> (try split) <;> omega
      rw [IntKind.wrap_i64]; have := Hf0.out; have := Hmore.out; omega
    have hSA : Calls Tryz.prog 13 #[.slice a' S.length c', .slice a2' S.length c2'] w9 fun r w' => r = .returned (.bool true) ∧ Below w9.heap.size w9 w' := sameAll_any HS9.out HS2.out
    have HSm : Hid (∀ w', Below w9.heap.size w9 w' → Calls Tryz.prog 15 #[.agg #[.int .i64 v.k, .int .i64 v.n, .string ⟨v.t.toArray⟩, .slice av2 v.l.length cv2], .agg #[.int .i64 v.k, .int .i64 v.n, .string ⟨v.t.toArray⟩, .slice av v.l.length cv]] w' fun r w'' => r = .returned (.bool true) ∧ Below w'.heap.size w' w'') := fun w' h => same_tt (Hv2.out.below h) (Hv9.out.below h)
    clear HIs HIs2 HS9 HS2 Hv9 Hv2 Hf0 Hf1 Hmore Hsl he54 hc40 h4 hfl
    rcases hG with ⟨hg, hg1⟩ | ⟨hg, hg1, hg2⟩
    all_goals
      go_wp2_with fail
      refine hSA.mono ?_
      rintro r w10 ⟨rfl, hb10⟩
      clear q0 q1 q2 q3 q4 q5 q6 r0 r1 r2 r3 r4 r5 r6
      obtain ⟨⟨q0, q1, q2, q3, q4, q5, q6⟩, ⟨r0, r1, r2, r3, r4, r5, r6⟩⟩ := Hxc.out w10 hb10
      have hS := HSm.out w10 hb10
      have HB10 : Hid (Below w.heap.size w w10) := HB9.out.trans (hb10.mono HB9.out.size)
      clear hSA hb10 Hxc HSm HB9
      go_wp2_with fail
      refine hS.mono ?_
      rintro r w11 ⟨rfl, hb11⟩
      have hfin : Below w.heap.size w w11 := HB10.out.trans (hb11.mono HB10.out.size)
      clear hS hb11 HB10
      go_wp2
      go_ret
      exact ⟨rfl, hfin⟩
end Go.Proofs.YtnijcolomoobnaaGreatDoor
