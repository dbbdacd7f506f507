/- Texts of ours, joined: Tv1, Su, Laid15. -/
import Derived.Test.YtnijcolomoobnaaGreatDoorH41
import Derived.Test.YtnijcolomoobnaaGreatDoorH34
import Derived.Test.YtnijcolomoobnaaGreatDoorH33
import Derived.Test.YtnijcolomoobnaaGreatDoorRows
import Derived.Test.YtnijcolomoobnaaGreatDoorH17
import Derived.ProofKit
import Derived.LaidMore
import Derived.OpenShut
import Derived.ShutString
import Derived.ChangeOld
import Derived.Below
import Derived.Lib.LaidTab
import Derived.Stop.LaidErr
import Derived.SizedLaws
import Derived.SliceStrings
namespace Go.Proofs.YtnijcolomoobnaaGreatDoor
open Go.RowKit
set_option linter.unusedVariables false
set_option linter.unusedSimpArgs false
attribute [local go_sem ↓] Go.wp_at_zero Go.wp_at_succ

set_option maxRecDepth 100000 in
set_option maxHeartbeats 16000000 in
theorem vsound_walk {m : Md} {ac af as_ aa : Option Addr} {cc cf cs_ ca : Nat} {states args : List V} {n fuel : Int} {w : World} (hm : IsMd Any' w m (.slice ac m.consts.length cc) (.slice af m.funcs.length cf)) (hz : SzM m) (hs : IsVs Any' w states (.slice as_ states.length cs_)) (ha : IsVs Any' w args (.slice aa args.length ca)) (hzs : SzVs states) (hza : SzVs args) (ht : Tb15 w.heap.size w) :
    Calls Tryz.prog 4 #[.agg #[.slice ac m.consts.length cc, .slice af m.funcs.length cf], .agg #[.slice as_ states.length cs_, .slice aa args.length ca, .int .i64 n, .int .i64 fuel]] w fun e w' => e = .returned (.bool true) ∧ Below w.heap.size w w' := by
  obtain ⟨w1, hW1, hb1, hs1, hx1⟩ := box2 w (.slice ac m.consts.length cc) (.slice af m.funcs.length cf) 25
  obtain ⟨w2, hW2, hb2, hs2, hx2⟩ := box4T w1 (.slice as_ states.length cs_) (.slice aa args.length ca) (.int .i64 n) (.int .i64 fuel) 27
  have l01 : w.heap.size < w1.heap.size := by omega
  have l12 : w1.heap.size < w2.heap.size := by omega
  have hB2 : Below w.heap.size w w2 := hb1.trans (hb2.mono hb1.size)
  have hbx : ∀ wr, Below w2.heap.size w2 wr → wr.heap[w.heap.size]? = some (.cells #[.slice ac m.consts.length cc, .slice af m.funcs.length cf] 25 (0, 0)) ∧ wr.heap[w1.heap.size]? = some (.cells #[.slice as_ states.length cs_, .slice aa args.length ca, .int .i64 n, .int .i64 fuel] 27 (0, 0)) := fun wr hb => ⟨(hb.block _ (by omega)).trans ((hb2.block _ l01).trans hx1), (hb.block _ l12).trans hx2⟩
  have hcel : ∀ wr, Below w2.heap.size w2 wr → wr.cell? ⟨w.heap.size, 0, none⟩ = some (.slice ac m.consts.length cc) ∧ wr.cell? ⟨w.heap.size, 1, none⟩ = some (.slice af m.funcs.length cf) ∧ wr.cell? ⟨w1.heap.size, 0, none⟩ = some (.slice as_ states.length cs_) ∧ wr.cell? ⟨w1.heap.size, 1, none⟩ = some (.slice aa args.length ca) ∧ wr.cell? ⟨w1.heap.size, 2, none⟩ = some (.int .i64 n) ∧ wr.cell? ⟨w1.heap.size, 3, none⟩ = some (.int .i64 fuel) ∧ w.heap.size < wr.heap.size ∧ w1.heap.size < wr.heap.size := fun wr hb => by
    obtain ⟨z0, z1⟩ := hbx wr hb
    obtain ⟨q0, q1, -, -, q2⟩ := cells_k2 z0
    obtain ⟨r0, r1, r2, r3, -⟩ := cells_of4 z1
    exact ⟨q0, q1, r0, r1, r2, r3, q2, (Array.getElem?_eq_some_iff.1 z1).1⟩
  have Hcel : Hid _ := hcel
  have HBf : Hid (∀ wr, Below w2.heap.size w2 wr → Below w.heap.size w wr) := fun wr hb => hB2.trans (hb.mono hB2.size)
  have Hm : Hid (IsMd (fun k => k < w.heap.size) w m (.slice ac m.consts.length cc) (.slice af m.funcs.length cf)) := hm.base (fun k _ h => h)
  have Hs : Hid (IsVs (fun k => k < w.heap.size) w states (.slice as_ states.length cs_)) := hs.base (fun k _ h => h)
  have Ha : Hid (IsVs (fun k => k < w.heap.size) w args (.slice aa args.length ca)) := ha.base (fun k _ h => h)
  have Ht : Hid (Tb15 w.heap.size w) := ht
  have Hzz : Hid (SzM m ∧ SzVs states ∧ SzVs args) := ⟨hz, hzs, hza⟩
  have hK := wakes15_any (ht.at hB2)
  have hmn := min200_run fuel
  generalize up200 fuel = fq at *
  clear hm hz hs ha hzs hza ht hbx hcel hx1 hx2 hb1 hb2 hs1 hs2 hB2 l01 l12
  go_enter Tryz.func4, Tryz.ntmps4
  go_wp2_with fail
  refine hK.mono ?_
  rintro e w3 ⟨rfl, hb3⟩
  obtain ⟨k0, k1, k2, k3, k4, k5, k6, k7⟩ := Hcel.out w3 hb3
  obtain ⟨w4, hW4, hb4, hs4, hx4⟩ := box2 w3 (.slice as_ states.length cs_) (.slice aa args.length ca) 22
  have hB4 : Below w2.heap.size w2 w4 := hb3.trans (hb4.mono hb3.size)
  have hL := large15_any (Hm.out.below (HBf.out w4 hB4)) (Hs.out.below (HBf.out w4 hB4)) (Ha.out.below (HBf.out w4 hB4)) hx4 Hzz.out.1 Hzz.out.2.1 Hzz.out.2.2
  clear hK hW1 hW2 hb3 hs4 hx4 hb4
  go_wp2_with fail
  refine hL.mono ?_
  rintro e w5 ⟨⟨b, rfl, hb⟩, hb5⟩
  have hB5 : Below w2.heap.size w2 w5 := hB4.trans (hb5.mono hB4.size)
  have HL : Hid (b = false → Sm15 m states args) := hb
  clear hL hW4 hb hb5 hB4 k0 k1 k2 k3 k4 k5 k6 k7
  have hfin5 := HBf.out w5 hB5
  cases b with
  | true =>
    clear HL
    go_wp2
    go_ret
    exact ⟨rfl, hfin5⟩
  | false =>
  have HS : Hid (Sm15 m states args) := HL.out rfl
  clear HL hfin5 Hzz
  have hRun : ∀ (wr : World) (fu : Int), Below w2.heap.size w2 wr → Calls Tryz.prog 11 #[.agg #[.slice ac m.consts.length cc, .slice af m.funcs.length cf], .slice as_ states.length cs_, .int .i64 n, .slice aa args.length ca, .int .i64 fu] wr (RunPostW m states n args fu wr) := fun wr fu hb => vrun_any (Hm.out.below (HBf.out wr hb)) HS.out.fit (Hs.out.below (HBf.out wr hb)) (Ha.out.below (HBf.out wr hb)) (fun v hv => by have := HS.out.ws v hv; omega) (fun v hv => by have := HS.out.wa v hv; omega) (by have := HS.out.ls; omega) (Ht.out.at (HBf.out wr hb))
  have HRun : Hid _ := hRun
  clear hRun
  obtain ⟨k0, k1, k2, k3, k4, k5, k6, k7⟩ := Hcel.out w5 hB5
  have hR := HRun.out w5 fq hB5
  have hmx := max0_run' fq
  have hup := cl15_up fq
  generalize up0 fq = f0 at *
  go_wp2_with fail
  refine hR.mono ?_
  rintro e w6 ⟨S, v, e, fl, a', c', av, cv, mid, rfl, hIs, -, -, hSv, -, hvw, -, hb6⟩
  have hB6 : Below w2.heap.size w2 w6 := hB5.trans (hb6.mono hB5.size)
  obtain ⟨hf0, hf1, hcase⟩ := hIs.facts
  obtain ⟨wz, w7, hWz, hW7, hx7, hb7, hl7, hzz⟩ := obox6 w6 (.int .i64 v.k) (.int .i64 v.n) (.string ⟨v.t.toArray⟩) (.slice av v.l.length cv) (.int .i64 e) (.int .i64 fl)
  have hB7 : Below w2.heap.size w2 w7 := hB6.trans (hb7.mono hB6.size)
  obtain ⟨z0, z1, z2, z3, z4, z5, zl⟩ := cells_k6 hzz
  obtain ⟨y0, y1, y2, y3, y4, y5⟩ := fz6 hzz
  obtain ⟨x0, x1, x2, x3, x4, x5, xl⟩ := cells_k6 hx7
  have HSv : Hid (IsVs Any' w7 S (.slice a' S.length c')) := (hSv.base (fun _ _ _ => trivial)).below hb7
  have Hvw : Hid (IsW Any' w7 v (.slice av v.l.length cv)) := (hvw.base (fun _ _ _ => trivial)).below hb7
  have Hx7 : Hid _ := hx7
  have d0 : decide (fl < 0) = false := by simp; omega
  have d1 : decide (fl > f0) = false := by simp; omega
  have Hcase : Hid _ := hcase
  have HB7 : Hid (Below w2.heap.size w2 w7) := hB7
  have Hsl : Hid (S.length ≤ 9223372036854775807) := by obtain ⟨_, _, e, h1, h2⟩ := HSv.out.slice; cases e; show _ ≤ _; omega
  clear hR hIs hSv hvw hb6 hb7 hx7 hzz hB6 hB7 hB5 k0 k1 k2 k3 k4 k5 k6 k7 hf0 hf1 hup hcase HRun hl7
  rcases Hcase.out with ⟨rfl, rfl, rfl, rfl⟩ | hBC
  · have hfin := HBf.out w7 HB7.out
    clear Hcase HSv Hvw Hx7 Hsl HS Hm Hs Ha Ht Hcel HBf HB7
    go_wp2
    go_ret
    exact ⟨rfl, hfin⟩
  · have HBC : Hid _ := hBC
    clear hBC Hcase
    have HSn : Hid (Snds S) := by rcases HBC.out with ⟨-, rfl, -, h, -⟩ | ⟨-, h, -, -⟩ <;> exact h
    have hround : ∀ (q : Nat) (wr : World), q < S.length → Below w7.heap.size w7 wr → ∃ (x : V) (g o : Nat) (ax : Option Addr) (cx : Nat), a' = some ⟨g, o, none⟩ ∧ g < wr.heap.size ∧ wr.cell? ⟨g, o + q * 4, none⟩ = some (.int .i64 x.k) ∧ wr.cell? ⟨g, o + q * 4 + 1, none⟩ = some (.int .i64 x.n) ∧ wr.cell? ⟨g, o + q * 4 + 2, none⟩ = some (.string ⟨x.t.toArray⟩) ∧ wr.cell? ⟨g, o + q * 4 + 3, none⟩ = some (.slice ax x.l.length cx) ∧
        ∀ w2, Below wr.heap.size wr w2 → Calls Tryz.prog 9 #[.agg #[.int .i64 x.k, .int .i64 x.n, .string ⟨x.t.toArray⟩, .slice ax x.l.length cx]] w2 fun r w' => r = .returned (.bool true) ∧ Below w2.heap.size w2 w' := by
      intro q wr h1 hBr
      obtain ⟨g, o, ax, cx, e, _, hg, c0, c1, c2, c3, hw'⟩ := (HSv.out.below hBr).get (List.getElem?_eq_getElem h1)
      have hsn := HSn.out _ (List.getElem_mem h1)
      refine ⟨S[q], g, o, ax, cx, e, hg, c0, c1, c2, c3, fun w2 hb => (sound_any (hw'.below hb) (by have := hsn.1; omega)).mono ?_⟩
      rintro r w' ⟨⟨b, rfl, hb⟩, hbl⟩
      rw [hb.2 hsn]
      exact ⟨rfl, hbl⟩
    have Hround : Hid _ := hround
    have hguard : ((e == 40) = false) ∨ ((e == 40) = true ∧ ((S.length : Int) == 0) = false) ∨ ((e == 40) = true ∧ ((S.length : Int) == 0) = true) := by
      rcases num_bool e 40 with ⟨c, -⟩ | ⟨c, -⟩ <;> rcases num_bool (S.length : Int) 0 with ⟨c', -⟩ | ⟨c', -⟩
      · exact Or.inr (Or.inr ⟨c, c'⟩)
      · exact Or.inr (Or.inl ⟨c, c'⟩)
      · exact Or.inl c
      · exact Or.inl c
    have HSv9 := HSv
    clear hround HSn HSv
    have HE0 : Hid (e = 0 → S.length = states.length ∧ Snd v) := fun he => by
      rcases HBC.out with ⟨h, -⟩ | ⟨-, -, h1, h2⟩
      · exact absurd he h
      · exact ⟨h2, h1⟩
    have HE1 : Hid (e ≠ 0 → S = states ∧ v = V.zero ∧ (e = 54 → fl = 0)) := fun he => by
      rcases HBC.out with ⟨-, h1, h2, -, h3⟩ | ⟨h, -⟩
      · exact ⟨h1, h2, h3⟩
      · exact absurd h he
    clear HBC
    rcases hguard with hg | ⟨hg, hg2⟩ | ⟨hg, hg2⟩
    rotate_right
    · have hfin := HBf.out w7 HB7.out
      clear HB7 Hround HE0 HE1 Hvw Hx7 Hsl HS Hm Hs Ha Ht Hcel HBf
      go_wp2
      go_ret
      exact ⟨rfl, hfin⟩
    all_goals
      have hslI := Hsl.out
      go_wp2_with fail
      go_loopg [54] S.length (fun g i wr => ∃ q : Nat, q ≤ S.length ∧ g = S.length - q ∧ i = .int .i64 q ∧ Hid (Below w7.heap.size w7 wr))
      case atStart => exact ⟨0, Nat.zero_le _, rfl, rfl, Below.refl _ _⟩
      case round =>
        obtain ⟨q, hq, rfl, rfl, HBr⟩ := hrel
        by_cases hlt : q < S.length
        · obtain ⟨x, g, o, ax, cx, rfl, hgl, c0, c1, c2, c3, hC⟩ := Hround.out q wr hlt HBr.out
          have hltI : (q : Int) < (S.length : Int) := by omega
          have hq0 : (0 : Int) ≤ (q : Int) := by omega
          obtain ⟨wa, hWa, hba, hsa, hxa⟩ := box4T wr (.int .i64 x.k) (.int .i64 x.n) (.string ⟨x.t.toArray⟩) (.slice ax x.l.length cx) 31
          have hca := hC wa hba
          have Hba : Hid (Below wr.heap.size wr wa) := hba
          obtain ⟨u0, u1, u2, u3, -⟩ := cells_of4 hxa
          have hla : wr.heap.size < wa.heap.size := by omega
          clear hC hba hsa hxa hg hq Hround
          go_wp2_with fail
          refine hca.mono ?_
          rintro e w8 ⟨rfl, hb8⟩
          have HB8 : Hid (Below w7.heap.size w7 w8) := HBr.out.trans ((Hba.out.trans (hb8.mono Hba.out.size)).mono HBr.out.size)
          clear hca hb8 c0 c1 c2 c3 hWa u0 u1 u2 u3 hla
          go_wp2_with fail
          go_roundg (S.length - (q + 1))
          case measure => omega
          case rel => exact ⟨q + 1, by omega, rfl, by go_num, HB8⟩
        · have hltI : ¬ (q : Int) < (S.length : Int) := by omega
          have hB8 := HBr.out
          obtain ⟨x0, x1, x2, x3, x4, x5, xl⟩ := cells_k6 ((hB8.block _ (Array.getElem?_eq_some_iff.1 Hx7.out).1).trans Hx7.out)
          obtain ⟨k0, k1, k2, k3, k4, k5, k6, k7⟩ := Hcel.out wr (HB7.out.trans (hB8.mono HB7.out.size))
          have HBr' : Hid (Below w.heap.size w wr) := HBf.out wr (HB7.out.trans (hB8.mono HB7.out.size))
          by_cases he : e = 0
          · obtain ⟨h1, h2⟩ := HE0.out he
            subst he
            have hlI : ((S.length : Int) == (states.length : Int)) = true := by simp; omega
            have hC : Calls Tryz.prog 9 #[.agg #[.int .i64 v.k, .int .i64 v.n, .string ⟨v.t.toArray⟩, .slice av v.l.length cv]] wr fun r w' => r = .returned (.bool true) ∧ Below wr.heap.size wr w' := by
              refine (sound_any (Hvw.out.below hB8) (by have := h2.1; omega)).mono ?_
              rintro r w' ⟨⟨b, rfl, hb⟩, hbl⟩
              rw [hb.2 h2]
              exact ⟨rfl, hbl⟩
            clear HE0 HE1 h1 h2 hB8 Hround HB7 Hcel HBf Hs Ha Ht Hm HS Hx7 HBr Hsl Hvw
            go_wp2_with fail
            refine hC.mono ?_
            rintro r w9 ⟨rfl, hb9⟩
            have hfin : Below w.heap.size w w9 := HBr'.out.trans (hb9.mono HBr'.out.size)
            clear hC hb9 HBr'
            go_wp2
            go_ret
            exact ⟨rfl, hfin⟩
          · obtain ⟨hS, hv0, h54⟩ := HE1.out he
            subst hS
            subst hv0
            have hne : (e != 0) = true := by simpa using he
            have hk0 : V.zero.k = 0 := rfl
            rw [hk0] at x0
            have hC : Calls Tryz.prog 13 #[.slice a' S.length c', .slice as_ S.length cs_] wr fun r w' => r = .returned (.bool true) ∧ Below wr.heap.size wr w' := sameAll_any (B := Any') (HSv9.out.below hB8) ((Hs.out.base (fun _ _ _ => trivial)).below HBr'.out)
            have h54' : ((e != 54) = true) ∨ ((e != 54) = false ∧ fl = 0) := by
              by_cases h : e = 54
              · exact Or.inr ⟨by simp [h], h54 h⟩
              · exact Or.inl (by simpa using h)
            have hxc : ∀ w', Below wr.heap.size wr w' → w'.cell? ⟨w6.heap.size, 0, none⟩ = some (.int .i64 0) ∧ w'.cell? ⟨w6.heap.size, 4, none⟩ = some (.int .i64 e) ∧ w'.cell? ⟨w6.heap.size, 5, none⟩ = some (.int .i64 fl) ∧ w6.heap.size < w'.heap.size := fun w' h => by
              obtain ⟨f9, -⟩ := bcell h
              exact ⟨(f9 _ _ xl).trans x0, (f9 _ _ xl).trans x4, (f9 _ _ xl).trans x5, Nat.lt_of_lt_of_le xl h.size⟩
            clear HE0 HE1 h54 hB8 Hround HB7 Hcel HBf Hs Ha Ht Hm HS Hx7 HBr Hsl Hvw HSv9 he hk0
            go_wp2_with fail
            refine hC.mono ?_
            rintro r w9 ⟨rfl, hb9⟩
            have hfin : Below w.heap.size w w9 := HBr'.out.trans (hb9.mono HBr'.out.size)
            obtain ⟨p0, p4, p5, pl⟩ := hxc w9 hb9
            clear hC hb9 HBr' hxc x0 x1 x2 x3 x4 x5 xl
            rcases h54' with h54 | ⟨h54, rfl⟩
            · go_wp2
              go_ret
              exact ⟨rfl, hfin⟩
            · go_wp2
              go_ret
              exact ⟨rfl, hfin⟩
end Go.Proofs.YtnijcolomoobnaaGreatDoor
namespace Go.Proofs.YtnijcolomoobnaaGreatDoor
open Go.ChangeShapes Go.WideShapes Go.ChangeAt Go.RowKit
set_option linter.unusedVariables false
set_option linter.unusedSimpArgs false

theorem fr_fields : Tryz.prog.cellsOf 27 = 4 := by kernel_rfl
theorem fr_struct : ∃ f0 f1 f2 f3 : Field, Tryz.prog.underlying 27 = some (.struct #[f0, f1, f2, f3]) ∧ f0.type = 22 ∧ f0.offset = 0 ∧ f1.type = 22 ∧ f1.offset = 1 ∧ f2.type = 3 ∧ f2.offset = 2 ∧ f3.type = 3 ∧ f3.offset = 3 := ⟨_, _, _, _, Tryz.underlying27, rfl, rfl, rfl, rfl, rfl, rfl, rfl, rfl⟩
set_option maxRecDepth 100000 in
theorem from_open {H : Type} {enc : TypeId × Value → H} {W : World} {base : Nat} {v : Value} {d : DataW H} {p : List MemPlace} (hv : Value.okWide Tryz.prog W .any base 27 v) (h : DataW.Trod enc Tryz.prog W 0 (fun _ => true) true 27 v d p) :
    ∃ (s a : List V) (as_ : Option Addr) (cs_ : Nat) (aa : Option Addr) (ca : Nat) (n fuel : Int), v = .agg #[.slice as_ s.length cs_, .slice aa a.length ca, .int .i64 n, .int .i64 fuel] ∧ IsVs Any' W s (.slice as_ s.length cs_) ∧ IsVs Any' W a (.slice aa a.length ca) ∧ InR n ∧ InR fuel ∧ ((d.weights Tryz.prog 27).all (· ≤ reachBytes) = true → SzVs s ∧ SzVs a) := by
  obtain ⟨f0, f1, f2, f3, hst, t0, o0, t1, o1, t2, o2, t3, o3⟩ := fr_struct
  unfold Value.okWide at hv
  rw [hst] at hv
  obtain ⟨cs, rfl, _, _⟩ := hv
  obtain ⟨fuel, hf⟩ := h
  obtain ⟨xs, n, rfl, e, hlen, hxl, hff⟩ := DataW.trod_struct hst hf
  simp only [Prod.mk.injEq] at e
  obtain ⟨rfl, -⟩ := e
  rw [fr_fields] at hlen
  have hx2 : xs.length = 4 := hxl
  have hcs : ∃ c0 c1 c2 c3, cs = #[c0, c1, c2, c3] := by
    obtain ⟨l⟩ := cs
    match l, hlen with
    | [c0, c1, c2, c3], _ => exact ⟨c0, c1, c2, c3, rfl⟩
  obtain ⟨c0, c1, c2, c3, rfl⟩ := hcs
  clear hf
  match xs, hx2, hff with
  | [x0, x1, x2, x3], _, hf =>
    have g0 := hf 0 f0 rfl
    have g1 := hf 1 f1 rfl
    have g2 := hf 2 f2 rfl
    have g3 := hf 3 f3 rfl
    rw [t0, o0, cells_sl] at g0
    rw [t1, o1, cells_sl] at g1
    rw [t2, o2, cells_int] at g2
    rw [t3, o3, cells_int] at g3
    simp only [Value.cells, List.drop_zero, List.drop_succ_cons, List.take_succ_cons, List.take_zero, List.getElem?_cons_zero, List.getElem?_cons_succ] at g0 g1 g2 g3
    obtain ⟨l0, a0, k0, e0, hi0, hz0⟩ := vals_of_trod n _ _ g0
    obtain ⟨l1, a1, k1, e1, hi1, hz1⟩ := vals_of_trod n _ _ g1
    obtain ⟨n2, e2, rfl, w2⟩ := DataW.trod_int Tryz.underlying3 g2
    obtain ⟨n3, e3, rfl, w3⟩ := DataW.trod_int Tryz.underlying3 g3
    simp only [List.cons.injEq, and_true] at e0 e1 e2 e3
    subst e0 e1 e2 e3
    refine ⟨l0, l1, a0, k0, a1, k1, n2, n3, rfl, hi0, hi1, wf_inR w2, wf_inR w3, fun hw => ?_⟩
    simp only [DataW.weights, hst, t0, t1, t2, t3, List.map_cons, List.map_nil, DataW.weightsEach, List.append_nil, List.all_append, Bool.and_eq_true] at hw
    exact ⟨szVs_of (hz0 hw.1), szVs_of (hz1 hw.2)⟩
end Go.Proofs.YtnijcolomoobnaaGreatDoor
namespace Go.Proofs.YtnijcolomoobnaaGreatDoor
open Go.ChangeShapes Go.WideShapes Go.ChangeAt Go.RowKit

def laidT : List (String × DataW Unit) := Rows.vmSoundRow.laid
theorem door_met (os : Os) (args : Array Value) : laidMetH Tryz.prog laidT ((World.doorLaid Tryz.prog 400 os).forCall (fun _ _ => 0) ⟨#[], args, []⟩).memory :=
  laidMetH_of_parts3 (fuel := 8) (laidMet_of_run' 8 (by kernel_rfl) (by kernel_rfl)) (by kernel_rfl) (by kernel_rfl)
theorem gPT : Tryz.prog.globalNamed "internal/strconv.uint64pow10" = some 1 := by kernel_rfl
theorem tPT : (Tryz.prog.globals[1]?).map (·.type) = some 166 := by kernel_rfl
theorem tb15_of_laid {W : World} (h : laidMetH Tryz.prog laidT W) : Tb15 W.heap.size W := by
  rw [MakeChecks.laidMetH_plain _ _ _ (by kernel_rfl)] at h
  have h2 : laidMet Tryz.prog [("internal/strconv.uint64pow10", Lib.tabData .u64 Lib.pow10Tab)] W := laidMet.tail (laidMet.tail (show laidMet Tryz.prog (("math/bits.deBruijn32tab", Rows.laid_math_bits_deBruijn32tab) :: ("math/bits.deBruijn64tab", Rows.laid_math_bits_deBruijn64tab) :: [("internal/strconv.uint64pow10", Lib.tabData .u64 Lib.pow10Tab)]) W from h))
  exact Lib.tabBelow_of_tabIs (Lib.tabIs_of_head gPT tPT Tryz.underlying166 Tryz.underlying141 (by kernel_rfl) (by kernel_rfl) h2)
theorem inR_wf {n : Int} (h : (Lit.int .i64 n).wf = true) : InR n := by
  have h1 : (decide (IntKind.i64.min ≤ n) && decide (n ≤ IntKind.i64.max)) = true := h
  simp only [Bool.and_eq_true, decide_eq_true_eq] at h1
  exact ⟨h1.1, h1.2⟩
end Go.Proofs.YtnijcolomoobnaaGreatDoor
