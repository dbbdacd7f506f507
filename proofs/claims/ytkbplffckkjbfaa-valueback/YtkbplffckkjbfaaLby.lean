/- The statement on bytes that are read back, where the value is one. -/
import Derived.Test.YtkbplffckkjbfaaLbk
import Derived.Test.YtkbplffckkjbfaaLct
import Derived.Test.YtkbplffckkjbfaaLwa
import Derived.Test.YtkbplffckkjbfaaVc
namespace Go.Proofs.Ytkbplffckkjbfaa
open Go.RowKit
set_option linter.unusedVariables false
set_option linter.unusedSimpArgs false

theorem rdV_nil (T : Ty) : (rdV T (some [])).2 = none := by
  cases T <;> first | rfl | simp [rdV, rdInt, rdI, rdU, rdN, tk, tkL, rdText, rdB, rdLs, rdMs]
theorem enc_ne {y : List UInt8} {v : V} (h : fitS y v = true) (ho : OkV v) : enc v ≠ [] := by
  intro h0
  obtain ⟨T, hT, hs⟩ := fit_shp h
  have h1 := rdV_enc T v [] hs ho
  rw [List.append_nil, h0] at h1
  have h2 := rdV_nil T
  rw [h1] at h2
  cases h2
theorem cells_add {w : World} {g o i : Nat} {u : Value} (h : w.cell? ⟨g, o + i, none⟩ = some u) : w.cell? (Addr.add ⟨g, o, none⟩ i) = some u := by
  by_cases h0 : i = 0
  · subst h0; simpa [Addr.add] using h
  · simpa [Addr.add, h0] using h
theorem more_run {B : Nat → Prop} {w : World} {a : Option Addr} {c : Nat} {x : List UInt8} (h : IsB B w (.slice a x.length c) x) (hl : x.length ≤ 1000000) :
    ∃ wa a1 c1 w1 wb a2 c2 w2, w.alloc (.cells #[] 5) = wa ∧ (Builtin.append_ #[52, 52] 52 #[.slice (some ⟨w.heap.size, 0, none⟩) 0 0, .slice a x.length c]).run Try.prog wa = .ok (.slice a1 x.length c1) w1 ∧ w1.alloc (.cells #[.int .u8 0] 5) = wb ∧
      (Builtin.append_ #[52, 52] 52 #[.slice a1 x.length c1, .slice (some ⟨w1.heap.size, 0, none⟩) 1 1]).run Try.prog wb = .ok (.slice a2 (x.length + 1) c2) w2 ∧ IsB (From w.heap.size) w2 (.slice a2 (x.length + 1) c2) (x ++ [0]) ∧ Below w.heap.size w w2 := by
  obtain ⟨ao, cap, e, hc1, hc2, h5, hcell⟩ := h
  simp only [Value.slice.injEq, true_and] at e
  obtain ⟨rfl, rfl⟩ := e
  obtain ⟨wa, hWa⟩ : ∃ wa, w.alloc (.cells #[] 5) = wa := ⟨_, rfl⟩
  have hba : Below w.heap.size w wa := by rw [← hWa]; exact (Below.refl _ _).alloc (Nat.le_refl _) _
  have hown : wa.ownsRow w.heap.size 5 1 (.slice (some ⟨w.heap.size, 0, none⟩) 0 0) 0 [] := by
    rw [← hWa]
    exact ⟨rfl, Or.inr ⟨w.heap.size, 0, #[], rfl, Nat.le_refl _, heap_new _ _, Nat.le_refl _, by unfold maxLen; omega, rfl, rfl⟩⟩
  obtain ⟨a1, c1, w1, hr1, ho1, hb1, _⟩ := app_run Try.underlying52 byteInfo rfl (by decide) 52 (c := c) (m := x.length) (ad := a) (news := x.map byteV) hown (fun h => by have := h5 h; omega) (by simp) (fun b hb j u hu => by
      subst hb
      rw [List.getElem?_map] at hu
      obtain ⟨k, hk, rfl⟩ := Option.map_eq_some_iff.1 hu
      obtain ⟨g, o, e1, e2, e3, e4⟩ := hcell (by rintro rfl; simp at hk)
      obtain rfl := Option.some.inj e1
      have := e4 j k hk
      rw [← (bcell hba).1 g _ e3] at this
      exact cells_add this) (by intro u hu; obtain ⟨k, _, rfl⟩ := List.mem_map.1 hu; rfl) (by omega) (by decide) hba.size
  have hz : 0 + x.length = x.length := by omega
  rw [hz] at hr1 ho1
  obtain ⟨wb, hWb⟩ : ∃ wb, w1.alloc (.cells #[.int .u8 0] 5) = wb := ⟨_, rfl⟩
  have hbb : Below w1.heap.size w1 wb := by rw [← hWb]; exact (Below.refl _ _).alloc (Nat.le_refl _) _
  have hblk : wb.heap[w1.heap.size]? = some (.cells #[.int .u8 0] 5 (0, 0)) := by rw [← hWb]; exact heap_new _ _
  have hs1 := hb1.size
  have hsa := hba.size
  obtain ⟨a2, c2, w2, hr2, ho2, hb2, _⟩ := app_run Try.underlying52 byteInfo rfl (by decide) 52 (c := 1) (m := 1) (ad := some ⟨w1.heap.size, 0, none⟩) (news := [byteV 0]) (owns_below ho1 hbb) (fun h => by cases h) (by simp) (fun b hb j u hu => by
      obtain rfl := Option.some.inj hb
      rcases j with _ | j
      · simp at hu
        subst hu
        exact cells_add (by rw [cell_block hblk]; rfl)
      · simp at hu) (by intro u hu; simp at hu; subst hu; rfl) (by omega) (by decide) (by have := hbb.size; omega)
  refine ⟨wa, a1, c1, w1, wb, a2, c2, w2, hWa, hr1, hWb, hr2, ?_, (hba.trans hb1).trans ((hbb.mono (by omega)).trans hb2)⟩
  have e : [] ++ x.map byteV ++ [byteV 0] = (x ++ [0]).map byteV := by simp
  have e2 : x.length + 1 = (x ++ [0]).length := by simp
  rw [e, e2] at ho2
  have := owns_b ho2
  rw [e2]
  exact this
set_option maxRecDepth 100000 in
set_option maxHeartbeats 4000000 in
theorem back_yes {l : List UInt8} (hl : l.length ≤ 9223372036854775807) {v : V} {ao : Option Addr} {cap : Nat} {w : World} (hv : IsW Any w v (.slice ao v.l.length cap)) (hz : SzV v) {ab : Option Addr} {cb : Nat} {bs : List UInt8} (hb : IsB Any w (.slice ab bs.length cb) bs) (hbn : bs.length ≤ 9223372036854775807) (hf : fitS l v = true) :
    Calls Try.prog 7 #[.agg #[.int .i64 v.k, .int .i64 v.n, .string ⟨v.t.toArray⟩, .slice ao v.l.length cap], .string ⟨l.toArray⟩, .slice ab bs.length cb] w fun r w' => r = .returned (.bool true) ∧ Below w.heap.size w w' := by
  obtain ⟨W, hW, hBW, hsW, d0, d1, d2, d3⟩ := boxed w v (.slice ao v.l.length cap)
  replace hv := hv.below hBW
  replace hb := hb.since (Since.of_below hBW)
  have hBf : ∀ w', Below W.heap.size W w' → Below w.heap.size w w' := fun w' h => hBW.trans (h.mono hBW.size)
  have hgb : w.heap.size < W.heap.size := by omega
  have hcell : ∀ w', Below W.heap.size W w' → w'.cell? ⟨w.heap.size, 0, none⟩ = some (.int .i64 v.k) ∧ w'.cell? ⟨w.heap.size, 1, none⟩ = some (.int .i64 v.n) ∧ w'.cell? ⟨w.heap.size, 2, none⟩ = some (.string ⟨v.t.toArray⟩) ∧ w'.cell? ⟨w.heap.size, 3, none⟩ = some (.slice ao v.l.length cap) := fun w' h => by
    obtain ⟨f, -⟩ := bcell h
    exact ⟨by rw [f _ _ hgb]; exact d0, by rw [f _ _ hgb]; exact d1, by rw [f _ _ hgb]; exact d2, by rw [f _ _ hgb]; exact d3⟩
  have up : ∀ w2 w', Below W.heap.size W w2 → Below w2.heap.size w2 w' → Below W.heap.size W w' := fun w2 w' h1 h2 => h1.trans (h2.mono h1.size)
  have hWk := wakes_any W
  have hL : ∀ w2, Below W.heap.size W w2 → Calls Try.prog 10 #[.agg #[.int .i64 v.k, .int .i64 v.n, .string ⟨v.t.toArray⟩, .slice ao v.l.length cap]] w2 fun r w' => r = .returned (.bool (decide (65536 < wt v))) ∧ Below W.heap.size W w' := fun w2 hb2 => (large_any hz (hv.below hb2)).mono (fun r w' h => ⟨h.1, up _ _ hb2 h.2⟩)
  go_enter Try.func7, Try.ntmps7
  go_wp2_with fail
  refine hWk.mono ?_
  rintro e w3 ⟨rfl, hbX⟩
  obtain ⟨p0, p1, p2, p3⟩ := hcell w3 hbX
  clear hW hWk
  go_wp2_with fail
  refine (hL w3 hbX).mono ?_
  rintro e w4 ⟨rfl, hB4⟩
  clear hL hbX p0 p1 p2 p3 d0 d1 d2 d3
  by_cases hla : 65536 < wt v
  · rw [decide_eq_true hla]
    go_wp2
    go_ret
    exact ⟨rfl, hBf _ hB4⟩
  rw [decide_eq_false hla]
  by_cases hbl : 16384 < bs.length
  · have hblI : (16384 : Int) < (bs.length : Int) := by omega
    go_wp2
    go_ret
    exact ⟨rfl, hBf _ hB4⟩
  have hblI : ¬ (16384 : Int) < (bs.length : Int) := by omega
  have hEn := fun w2 (hb2 : Below W.heap.size W w2) => encode_any hl (hv.below hb2) (by omega)
  have hDb : ∀ w2, Below W.heap.size W w2 → Calls Try.prog 42 #[.slice ab bs.length cb, .string ⟨l.toArray⟩] w2 fun r w' => OutV w2 (dcV l bs) r w' := fun w2 hb2 => decode_any hl (hb.since (Since.of_below hb2)) (by omega)
  have hstr : ∀ w2, Below W.heap.size W w2 → (convert 52 9 (.slice ab bs.length cb)).run Try.prog w2 = .ok (.string ⟨bs.toArray⟩) w2 := fun w2 hb2 => str_b (hb.since (Since.of_below hb2))
  have hTy := rtype_l l hl
  obtain ⟨p0, p1, p2, p3⟩ := hcell w4 hB4
  have hR : encR l v = (enc v, 0) := by unfold encR; rw [if_pos hf]
  have hok := hv.ok
  have hxl : (enc v).length ≤ 900000 := by have h1 := enc_len v hok; have h2 := fit_wt hf; omega
  have hde := dc_enc hf hok
  have hxn : Hid (enc v ≠ []) := enc_ne hf hok
  have Hmore := dc_more hf hok (r := [0]) (by simp)
  have Hpart : Hid (∀ i, i < (enc v).length → (dcV l ((enc v).take i)).2 = 11) := fun i hi => dc_part hf hok hi
  have hCv : ∀ (w2 : World) (ax : Option Addr) (cx : Nat), Below W.heap.size W w2 → IsW Any w2 v (.slice ax v.l.length cx) → Calls Try.prog 24 #[.agg #[.int .i64 v.k, .int .i64 v.n, .string ⟨v.t.toArray⟩, .slice ax v.l.length cx], .agg #[.int .i64 v.k, .int .i64 v.n, .string ⟨v.t.toArray⟩, .slice ao v.l.length cap]] w2 fun r w' => r = .returned (.int .i64 0) ∧ Below w2.heap.size w2 w' := fun w2 ax cx hb2 hx => by
    have h := compare_any hx (hv.below hb2)
    rw [cmpV_self] at h
    exact h
  rw [hR] at hEn
  generalize enc v = x at *
  clear hR hf hv hz hb hok
  go_wp2_with fail
  refine (hEn _ hB4).mono ?_
  rintro e w5 ⟨⟨a5, c5, rfl, ho5⟩, hb5⟩
  have hB5 := up _ _ hB4 hb5
  have hx5 := owns_b ho5
  have hxs := hx5.slice
  obtain ⟨g5, o5, hg5⟩ : ∃ g o, a5 = some ⟨g, o, none⟩ := by
    obtain ⟨ao', cap', e, _, _, _, h4⟩ := hx5
    simp only [Value.slice.injEq, true_and] at e
    obtain ⟨rfl, rfl⟩ := e
    obtain ⟨g, o, e, _⟩ := h4 hxn.out
    exact ⟨g, o, e⟩
  subst hg5
  clear hxn
  have hD1 := decode_any hl hx5 (by omega)
  rw [hde] at hD1
  clear hEn p0 p1 p2 p3 ho5 hde
  go_wp2_with fail
  refine hD1.mono ?_
  rintro e w6 ⟨⟨ap, cp, rfl, hp6⟩, hb6⟩
  clear hD1
  have hB6 := up _ _ hB5 hb6
  obtain ⟨wz, w7, hWz, hW7, hb7, hs7, hsz, hblk7, ⟨y0, y1, y2, y3⟩, ⟨z0, z1, z2, z3⟩⟩ := rdbox w6 (.int .i64 v.k) (.int .i64 v.n) (.string ⟨v.t.toArray⟩) (.slice ap v.l.length cp)
  have hB7 := up _ _ hB6 hb7
  obtain ⟨q0, q1, q2, q3, -⟩ := cells_of4 hblk7
  obtain ⟨p0, p1, p2, p3⟩ := hcell w7 hB7
  have hC7 := hCv w7 ap cp hB7 ((hp6.below hb7).base (fun _ _ _ => trivial))
  clear hCv hp6
  go_wp2_with fail
  refine hC7.mono ?_
  rintro e w8 ⟨rfl, hb8⟩
  clear hC7 q0 q1 q2 q3 p0 p1 p2 p3 y0 y1 y2 y3 z0 z1 z2 z3 hWz hW7 hblk7
  have hB8 := up _ _ hB7 hb8
  have hx8 := ((hx5.since (Since.of_below hb6)).since (Since.of_below hb7)).since (Since.of_below hb8)
  obtain ⟨ae, ce, hee, hce1, hce2⟩ := hxs
  simp only [Value.slice.injEq, true_and] at hee
  obtain ⟨rfl, rfl⟩ := hee
  go_wp2_with fail
  go_loopg [11] 40 (fun g i wr => ∃ q : Nat, q ≤ 40 ∧ g = 40 - q ∧ i = .int .i64 q ∧ Hid (Below W.heap.size W wr ∧ Below w8.heap.size w8 wr))
  case atStart => exact ⟨0, Nat.zero_le _, rfl, rfl, hB8, Below.refl _ _⟩
  case round =>
    obtain ⟨q, hq, rfl, rfl, HR⟩ := hrel
    obtain ⟨hBr, hb8r⟩ := HR.out
    have hxr := hx8.since (Since.of_below hb8r)
    clear HR hx8 hx5
    by_cases hq1 : q < x.length
    · have hq1I : (q : Int) < (x.length : Int) := by omega
      by_cases hq2 : q < 40
      · have hq2I : (q : Int) < 40 := by omega
        have hcut := bcut_high (some ⟨g5, o5, none⟩) x.length c5 q (by omega)
        have hxt := hxr.take (k := q) (by omega)
        have hDq := decode_any hl hxt (by simp; omega)
        have h11 := Hpart.out q hq1
        obtain ⟨d, Hd⟩ : ∃ d, Hid (dcV l (x.take q) = d) := ⟨_, rfl⟩
        rw [Hd.out] at hDq h11
        unfold OutV at hDq
        rw [h11] at hDq
        clear hxt hxr Hd h11
        go_wp2_with fail
        refine hDq.mono ?_
        rintro e w9 ⟨⟨a9, c9, rfl, -⟩, hb9⟩
        have hnew : Hid (Below W.heap.size W w9 ∧ Below w8.heap.size w8 w9) := ⟨up _ _ hBr hb9, hb8r.trans (hb9.mono hb8r.size)⟩
        clear hDq hcut
        go_wp2_with fail
        go_roundg (40 - (q + 1))
        case measure => omega
        case rel => exact ⟨q + 1, by omega, rfl, by go_num, hnew⟩
      · have hq2I : ¬ (q : Int) < 40 := by omega
        obtain ⟨wa, a1, c1, w1, wb, a2, c2, w2, hWa, hr1, hWb, hr2, hx2, hbx2⟩ := more_run hxr (by omega)
        have hB2 := up _ _ hBr hbx2
        have hD2 := decode_any hl hx2 (by simp; omega)
        rw [Hmore] at hD2
        have hl2 : (x ++ [0]).length = x.length + 1 := by simp
        clear hxr hx2
        clear hblI hbl hla hcell hb8r hB8 hB4 hBr
        go_wp2_with (at_builtin; first | (refine Lib.wpList_append_run _ rfl _ _ 52 52 rfl _ _ rfl rfl _ _ hr1 ?_; clear hr1) | (refine Lib.wpList_append_run _ rfl _ _ 52 52 rfl _ _ rfl rfl _ _ hr2 ?_; clear hr2))
        refine hD2.mono ?_
        rintro e w19 ⟨⟨a19, c19, rfl, -⟩, hb19⟩
        have hB19 := up _ _ hB2 hb19
        clear hD2 hWa hWb
        go_wp2_with fail
        refine (hDb _ hB19).mono ?_
        rintro e w20 ⟨⟨ap, cp, rfl, hp⟩, hb20⟩
        have hB20 := up _ _ hB19 hb20
        have hbk : Hid ((dcV l bs).2 = 0 → fitS l (dcV l bs).1 = true ∧ enc (dcV l bs).1 = bs ∧ OkV (dcV l bs).1) := fun h => dc_back (y := l) (b := bs) (p := (dcV l bs).1) (by rw [← h])
        have her : Hid ((dcV l bs).2 ≠ 0 → (dcV l bs).1 = V.zero ∧ ((dcV l bs).2 = 1 ↔ gType l = false)) := fun h => ⟨(dc_err h).1, (dc_err h).2.1⟩
        obtain ⟨d, Hd⟩ : ∃ d, Hid (dcV l bs = d) := ⟨_, rfl⟩
        rw [Hd.out] at hbk her hp
        simp only [Hd.out]
        clear hDb Hd
        obtain ⟨wy, w21, hWy, hW21, hb21, hs21, hsy, hblk21, ⟨y0, y1, y2, y3⟩, ⟨z0, z1, z2, z3⟩⟩ := rdbox w20 (.int .i64 d.1.k) (.int .i64 d.1.n) (.string ⟨d.1.t.toArray⟩) (.slice ap d.1.l.length cp)
        have hB21 := up _ _ hB20 hb21
        have hp21 := hp.below hb21
        obtain ⟨q0, q1, q2, q3, -⟩ := cells_of4 hblk21
        by_cases hd0 : d.2 = 0
        · have hd0b : (d.2 != 0) = false := by simp [hd0]
          obtain ⟨hfd, hed, hod⟩ := hbk.out hd0
          have hwd := fit_wt hfd
          have hE2 := encode_any (w := w21) hl hp21 (by omega)
          have hR2 : encR l d.1 = (bs, 0) := by unfold encR; rw [if_pos hfd, hed]
          rw [hR2] at hE2
          clear hfd hed hod hwd hR2 hbk her hp hp21 hd0
          go_wp2_with fail
          refine hE2.mono ?_
          rintro e w22 ⟨⟨a22, c22, rfl, ho22⟩, hb22⟩
          have hB22 := up _ _ hB21 hb22
          have hs1 := str_b (owns_b ho22)
          have hs2 := hstr w22 hB22
          clear hE2 ho22 hstr q0 q1 q2 q3 y0 y1 y2 y3 z0 z1 z2 z3
          go_wp2
          go_ret
          exact ⟨ret_bool (by simp), hBf _ hB22⟩
        · have hd0b : (d.2 != 0) = true := by simp [hd0]
          obtain ⟨hdz, hd1⟩ := her.out hd0
          have hdk : (d.1.k == 0) = true := by rw [hdz]; rfl
          have hd1b : (d.2 == 1) = !gType l := by
            cases hg : gType l
            · simp [hd1.2 hg]
            · have : d.2 ≠ 1 := fun h => by rw [hd1.1 h] at hg; cases hg
              simp [this]
          clear her hbk hdz hd1 hd0 hp hp21
          go_wp2_with fail
          refine (hTy _).mono ?_
          rintro e w22 ⟨rfl, hw⟩
          obtain rfl := hw.symm
          generalize gType l = gl at *
          clear hTy
          go_wp2
          go_ret
          exact ⟨ret_bool (by simp), hBf _ hB21⟩
    · have hq1I : ¬ (q : Int) < (x.length : Int) := by omega
      obtain ⟨wa, a1, c1, w1, wb, a2, c2, w2, hWa, hr1, hWb, hr2, hx2, hbx2⟩ := more_run hxr (by omega)
      have hB2 := up _ _ hBr hbx2
      have hD2 := decode_any hl hx2 (by simp; omega)
      rw [Hmore] at hD2
      have hl2 : (x ++ [0]).length = x.length + 1 := by simp
      clear hxr hx2
      clear hblI hbl hla hcell hb8r hB8 hB4 hBr
      go_wp2_with (at_builtin; first | (refine Lib.wpList_append_run _ rfl _ _ 52 52 rfl _ _ rfl rfl _ _ hr1 ?_; clear hr1) | (refine Lib.wpList_append_run _ rfl _ _ 52 52 rfl _ _ rfl rfl _ _ hr2 ?_; clear hr2))
      refine hD2.mono ?_
      rintro e w19 ⟨⟨a19, c19, rfl, -⟩, hb19⟩
      have hB19 := up _ _ hB2 hb19
      clear hD2 hWa hWb
      go_wp2_with fail
      refine (hDb _ hB19).mono ?_
      rintro e w20 ⟨⟨ap, cp, rfl, hp⟩, hb20⟩
      have hB20 := up _ _ hB19 hb20
      have hbk : Hid ((dcV l bs).2 = 0 → fitS l (dcV l bs).1 = true ∧ enc (dcV l bs).1 = bs ∧ OkV (dcV l bs).1) := fun h => dc_back (y := l) (b := bs) (p := (dcV l bs).1) (by rw [← h])
      have her : Hid ((dcV l bs).2 ≠ 0 → (dcV l bs).1 = V.zero ∧ ((dcV l bs).2 = 1 ↔ gType l = false)) := fun h => ⟨(dc_err h).1, (dc_err h).2.1⟩
      obtain ⟨d, Hd⟩ : ∃ d, Hid (dcV l bs = d) := ⟨_, rfl⟩
      rw [Hd.out] at hbk her hp
      simp only [Hd.out]
      clear hDb Hd
      obtain ⟨wy, w21, hWy, hW21, hb21, hs21, hsy, hblk21, ⟨y0, y1, y2, y3⟩, ⟨z0, z1, z2, z3⟩⟩ := rdbox w20 (.int .i64 d.1.k) (.int .i64 d.1.n) (.string ⟨d.1.t.toArray⟩) (.slice ap d.1.l.length cp)
      have hB21 := up _ _ hB20 hb21
      have hp21 := hp.below hb21
      obtain ⟨q0, q1, q2, q3, -⟩ := cells_of4 hblk21
      by_cases hd0 : d.2 = 0
      · have hd0b : (d.2 != 0) = false := by simp [hd0]
        obtain ⟨hfd, hed, hod⟩ := hbk.out hd0
        have hwd := fit_wt hfd
        have hE2 := encode_any (w := w21) hl hp21 (by omega)
        have hR2 : encR l d.1 = (bs, 0) := by unfold encR; rw [if_pos hfd, hed]
        rw [hR2] at hE2
        clear hfd hed hod hwd hR2 hbk her hp hp21 hd0
        go_wp2_with fail
        refine hE2.mono ?_
        rintro e w22 ⟨⟨a22, c22, rfl, ho22⟩, hb22⟩
        have hB22 := up _ _ hB21 hb22
        have hs1 := str_b (owns_b ho22)
        have hs2 := hstr w22 hB22
        clear hE2 ho22 hstr q0 q1 q2 q3 y0 y1 y2 y3 z0 z1 z2 z3
        go_wp2
        go_ret
        exact ⟨ret_bool (by simp), hBf _ hB22⟩
      · have hd0b : (d.2 != 0) = true := by simp [hd0]
        obtain ⟨hdz, hd1⟩ := her.out hd0
        have hdk : (d.1.k == 0) = true := by rw [hdz]; rfl
        have hd1b : (d.2 == 1) = !gType l := by
          cases hg : gType l
          · simp [hd1.2 hg]
          · have : d.2 ≠ 1 := fun h => by rw [hd1.1 h] at hg; cases hg
            simp [this]
        clear her hbk hdz hd1 hd0 hp hp21
        go_wp2_with fail
        refine (hTy _).mono ?_
        rintro e w22 ⟨rfl, hw⟩
        obtain rfl := hw.symm
        generalize gType l = gl at *
        clear hTy
        go_wp2
        go_ret
        exact ⟨ret_bool (by simp), hBf _ hB21⟩
theorem back_walk {l : List UInt8} (hl : l.length ≤ 9223372036854775807) {v : V} {ao : Option Addr} {cap : Nat} {w : World} (hv : IsW Any w v (.slice ao v.l.length cap)) (hz : SzV v) {ab : Option Addr} {cb : Nat} {bs : List UInt8} (hb : IsB Any w (.slice ab bs.length cb) bs) (hbn : bs.length ≤ 9223372036854775807) :
    Calls Try.prog 7 #[.agg #[.int .i64 v.k, .int .i64 v.n, .string ⟨v.t.toArray⟩, .slice ao v.l.length cap], .string ⟨l.toArray⟩, .slice ab bs.length cb] w fun r w' => r = .returned (.bool true) ∧ Below w.heap.size w w' := by
  cases hf : fitS l v
  · exact back_no hl hv hz hb hbn hf
  · exact back_yes hl hv hz hb hbn hf
end Go.Proofs.Ytkbplffckkjbfaa
