/- What is put is found: the statement, walked (a map). -/
import Derived.Test.YtkbplffckkjbfaaLot
import Derived.Test.YtkbplffckkjbfaaLwa
import Derived.Test.YtkbplffckkjbfaaLct
import Derived.Test.YtkbplffckkjbfaaVf
namespace Go.Proofs.Ytkbplffckkjbfaa
open Go.RowKit
set_option linter.unusedVariables false
set_option linter.unusedSimpArgs false
attribute [local go_sem ↓] Go.wp_at_zero Go.wp_at_succ

set_option maxRecDepth 100000 in
set_option maxHeartbeats 8000000 in
theorem holds_map {v : V} {lst : List V} {t : List UInt8} {av al : Option Addr} {cv cl : Nat} {w : World} {kb : Bool} {E : Ty} (hv : IsW Any w v (.slice av v.l.length cv)) (hl : IsVs Any w lst (.slice al lst.length cl)) (htl : t.length ≤ 9223372036854775807) (zv : SzV v) (zl : ∀ x ∈ lst, SzV x) (hE : E.dp ≤ 4) (hT : tyOf t = some (.map kb E)) (hEl : elT t = ([], false)) (hMpT : mpT t = (keyT kb, tyT E, true)) :
    Calls Try.prog 8 #[.agg #[.int .i64 v.k, .int .i64 v.n, .string ⟨v.t.toArray⟩, .slice av v.l.length cv], .string ⟨t.toArray⟩, .slice al lst.length cl] w fun r w' => r = .returned (.bool true) ∧ Below w.heap.size w w' := by
  obtain ⟨w0, hW, hb0, hsz, d0, d1, d2, d3⟩ := boxed w v (.slice av v.l.length cv)
  have hblk0 : w0.heap[w.heap.size]? = some (.cells #[.int .i64 v.k, .int .i64 v.n, .string ⟨v.t.toArray⟩, .slice av v.l.length cv] 24) := by rw [← hW]; exact heap_new _ _
  obtain ⟨al', cl', e, hlc1, hlc2⟩ := hl.slice
  simp only [Value.slice.injEq] at e
  obtain ⟨rfl, -, rfl⟩ := e
  have hBf : ∀ w', Below w0.heap.size w0 w' → Below w.heap.size w w' := fun w' h => hb0.trans (h.mono hb0.size)
  have hv0 := hv.below hb0
  have hWk := wakes_any w0
  have hc0 : ∀ w', Below w0.heap.size w0 w' → w'.cell? ⟨w.heap.size, 0, none⟩ = some (.int .i64 v.k) ∧ w'.cell? ⟨w.heap.size, 1, none⟩ = some (.int .i64 v.n) ∧ w'.cell? ⟨w.heap.size, 2, none⟩ = some (.string ⟨v.t.toArray⟩) ∧ w'.cell? ⟨w.heap.size, 3, none⟩ = some (.slice av v.l.length cv) := fun w' h => by
    obtain ⟨f, -⟩ := bcell h
    exact ⟨(f _ _ (by omega)).trans d0, (f _ _ (by omega)).trans d1, (f _ _ (by omega)).trans d2, (f _ _ (by omega)).trans d3⟩
  go_enter Try.func8, Try.ntmps8
  go_wp2_with fail
  refine hWk.mono ?_
  rintro e w3 ⟨rfl, hb3⟩
  clear hWk hW d0 d1 d2 d3
  obtain ⟨d0, d1, d2, d3⟩ := hc0 w3 hb3
  have hLg := large_any zv (hv0.below hb3)
  go_wp2_with fail
  refine hLg.mono ?_
  rintro e w4 ⟨rfl, hb4⟩
  have hB4 : Below w0.heap.size w0 w4 := hb3.trans (hb4.mono hb3.size)
  clear hLg hb4 hb3 d0 d1 d2 d3
  by_cases hlv : 65536 < wt v
  · rw [decide_eq_true hlv]
    go_wp2
    go_ret
    exact ⟨rfl, hBf _ hB4⟩
  rw [decide_eq_false hlv]
  obtain ⟨d0, d1, d2, d3⟩ := hc0 w4 hB4
  have hFt := fits_any htl (hv0.below hB4) (by omega)
  go_wp2_with fail
  refine hFt.mono ?_
  rintro e w5 ⟨rfl, hb5⟩
  have hB5 : Below w0.heap.size w0 w5 := hB4.trans (hb5.mono hB4.size)
  clear hFt hb5 hB4 d0 d1 d2 d3
  rcases hff : fitS t v with _ | _
  · go_wp2
    go_ret
    exact ⟨rfl, hBf _ hB5⟩
  have hShp : Hid (Shp (.map kb E) v ∧ wt v ≤ 16384) := by
    unfold fitS shpS at hff
    rw [hT] at hff
    simp only [Bool.and_eq_true, decide_eq_true_eq] at hff
    exact ⟨shpB_iff.1 hff.1, hff.2⟩
  clear hff
  by_cases h20 : 20 < lst.length
  · have h20I : (20 : Int) < (lst.length : Int) := by omega
    go_wp2
    go_ret
    exact ⟨rfl, hBf _ hB5⟩
  have h20I : ¬ (20 : Int) < (lst.length : Int) := by omega
  have hLs := list_any t htl w5
  go_wp2_with fail
  refine hLs.mono ?_
  rintro e w6 ⟨rfl, hb6⟩
  have hB6 : Below w0.heap.size w0 w6 := hB5.trans (hb6.mono hB5.size)
  clear hLs hb6 hB5
  have hMp := map_any t htl w6
  rw [hEl]
  go_wp2_with fail
  refine hMp.mono ?_
  rintro e w7 ⟨rfl, hb7⟩
  have hB7 : Below w0.heap.size w0 w7 := hB6.trans (hb7.mono hB6.size)
  clear hMp hb7 hB6
  rw [hMpT]
  have hl7 : Hid (IsVs (fun j => j < w.heap.size) w lst (.slice al lst.length cl)) := hl.base (fun j _ h => h)
  have hlw : Hid (∀ x ∈ lst, SzV x) := zl
  have hst : Hid (Below w.heap.size w w7 ∧ w7.heap[w.heap.size]? = some (.cells #[.int .i64 v.k, .int .i64 v.n, .string ⟨v.t.toArray⟩, .slice av v.l.length cv] 24) ∧ IsW (fun j => j ≠ w.heap.size) w7 v (.slice av v.l.length cv) ∧ Shp (.map kb E) v ∧ wt v ≤ 16384) := ⟨hBf _ hB7, (hB7.block _ (by omega)).trans hblk0, ((hv.base (B' := fun j => j ≠ w.heap.size) (fun j _ h => by show j ≠ w.heap.size; omega)).below hb0).below hB7, hShp.out.1, hShp.out.2⟩
  have hround : ∀ (q : Nat) (wr : World), q < lst.length → Below w.heap.size w wr →
      ∃ x g o ax cx, lst[q]? = some x ∧ al = some ⟨g, o, none⟩ ∧ g < w.heap.size ∧
        (wr.cell? ⟨g, o + q * 4, none⟩ = some (.int .i64 x.k) ∧ wr.cell? ⟨g, o + q * 4 + 1, none⟩ = some (.int .i64 x.n) ∧ wr.cell? ⟨g, o + q * 4 + 2, none⟩ = some (.string ⟨x.t.toArray⟩) ∧ wr.cell? ⟨g, o + q * 4 + 3, none⟩ = some (.slice ax x.l.length cx)) ∧ IsW Any wr x (.slice ax x.l.length cx) ∧ SzV x := by
    intro q wr h1 hBw
    have hx : lst[q]? = some lst[q] := List.getElem?_eq_getElem h1
    obtain ⟨g, o, ax, cx, e, _, hg, c0, c1, c2, c3, hw⟩ := hl.get hx
    obtain ⟨f, -⟩ := bcell hBw
    exact ⟨lst[q], g, o, ax, cx, hx, e, hg, ⟨(f _ _ hg).trans c0, (f _ _ hg).trans c1, (f _ _ hg).trans c2, (f _ _ hg).trans c3⟩, hw.below hBw, hlw.out _ (List.getElem_mem h1)⟩
  clear hv hl zv zl hv0 hc0 hBf hB7 hblk0 hlv hShp hEl hMpT
  go_wp2_with fail
  go_loopg [12] (lst.length + 1) (fun g i wr => ∃ (m : Nat) (vc : V) (sa : Option Addr) (sc : Nat), m ≤ lst.length + 1 ∧ g = lst.length + 1 - m ∧ i = .int .i64 m ∧ Hid (Below w.heap.size w wr ∧ wr.heap[w.heap.size]? = some (.cells #[.int .i64 vc.k, .int .i64 vc.n, .string ⟨vc.t.toArray⟩, .slice sa vc.l.length sc] 24) ∧ IsW (fun j => j ≠ w.heap.size) wr vc (.slice sa vc.l.length sc) ∧ Shp (.map kb E) vc ∧ wt vc ≤ 16384))
  case atStart => exact ⟨0, v, av, cv, by omega, rfl, rfl, hst⟩
  case round =>
    obtain ⟨m, vc, sa, sc, hm, rfl, rfl, HR⟩ := hrel
    clear hst
    have hBr := HR.out.1
    have hbr := HR.out.2.1
    have hvc := HR.out.2.2.1
    have hShp : Hid (Shp (.map kb E) vc) := HR.out.2.2.2.1
    have hwc := HR.out.2.2.2.2
    have hBrs := hBr.size
    have h0r : w.heap.size < wr.heap.size := (Array.getElem?_eq_some_iff.1 hbr).1
    clear HR
    by_cases hlt : m + 1 < lst.length
    · obtain ⟨k, g, o, ak, ck, hk, rfl, hg, ⟨c0, c1, c2, c3⟩, hwk, zk⟩ := hround m wr (by omega) hBr
      obtain ⟨x, g', o', ax, cx, hx, e, -, ⟨d0, d1, d2, d3⟩, hwx, zx⟩ := hround (m + 1) wr hlt hBr
      simp only [Option.some.injEq, Addr.mk.injEq] at e
      obtain ⟨rfl, rfl, -⟩ := e
      have hltI : (m : Int) + 1 < (lst.length : Int) := by omega
      have hltI2 : (m : Int) < (lst.length : Int) := by omega
      have hm0 : (0 : Int) ≤ (m : Int) := by omega
      obtain ⟨n, Hn⟩ : ∃ n : Nat, Hid (m + 1 = n) := ⟨_, rfl⟩
      have hn1 : IntKind.i64.wrap ((m : Int) + 1) = (n : Int) := by have := Hn.out; rw [IntKind.wrap_i64]; omega
      have hn2 : (m : Int) + 1 = (n : Int) := by have := Hn.out; omega
      have hn3 : IntKind.i64.wrap (n : Int) = (n : Int) := by have := Hn.out; rw [IntKind.wrap_i64]; omega
      have hn4 : (n : Int) < (lst.length : Int) := by have := Hn.out; omega
      have hn5 : (0 : Int) ≤ (n : Int) := by omega
      rw [Hn.out] at d0 d1 d2 d3
      have hgr : g < wr.heap.size := by omega
      have hSk : ∀ ww, Below wr.heap.size wr ww → ww.cell? ⟨g, o + m * 4, none⟩ = some (.int .i64 k.k) ∧ ww.cell? ⟨g, o + m * 4 + 1, none⟩ = some (.int .i64 k.n) ∧ ww.cell? ⟨g, o + m * 4 + 2, none⟩ = some (.string ⟨k.t.toArray⟩) ∧ ww.cell? ⟨g, o + m * 4 + 3, none⟩ = some (.slice ak k.l.length ck) ∧ ww.cell? ⟨g, o + n * 4, none⟩ = some (.int .i64 x.k) ∧ ww.cell? ⟨g, o + n * 4 + 1, none⟩ = some (.int .i64 x.n) ∧ ww.cell? ⟨g, o + n * 4 + 2, none⟩ = some (.string ⟨x.t.toArray⟩) ∧ ww.cell? ⟨g, o + n * 4 + 3, none⟩ = some (.slice ax x.l.length cx) := by
        intro ww hb
        obtain ⟨f, -⟩ := bcell hb
        exact ⟨(f _ _ hgr).trans c0, (f _ _ hgr).trans c1, (f _ _ hgr).trans c2, (f _ _ hgr).trans c3, (f _ _ hgr).trans d0, (f _ _ hgr).trans d1, (f _ _ hgr).trans d2, (f _ _ hgr).trans d3⟩
      clear hk hx c0 c1 c2 c3 d0 d1 d2 d3
      go_wp2_with fail
      refine wpE_begin (S := fun w' => w'.cell? ⟨g, o + m * 4, none⟩ = some (.int .i64 k.k) ∧ w'.cell? ⟨g, o + m * 4 + 1, none⟩ = some (.int .i64 k.n) ∧ w'.cell? ⟨g, o + m * 4 + 2, none⟩ = some (.string ⟨k.t.toArray⟩) ∧ w'.cell? ⟨g, o + m * 4 + 3, none⟩ = some (.slice ak k.l.length ck) ∧ w'.cell? ⟨g, o + n * 4, none⟩ = some (.int .i64 x.k) ∧ w'.cell? ⟨g, o + n * 4 + 1, none⟩ = some (.int .i64 x.n) ∧ w'.cell? ⟨g, o + n * 4 + 2, none⟩ = some (.string ⟨x.t.toArray⟩) ∧ w'.cell? ⟨g, o + n * 4 + 3, none⟩ = some (.slice ax x.l.length cx)) (N := fun _ => true) (by kernel_rfl) ?_
      have hS0 : wr.drew.cell? ⟨g, o + m * 4, none⟩ = some (.int .i64 k.k) ∧ wr.drew.cell? ⟨g, o + m * 4 + 1, none⟩ = some (.int .i64 k.n) ∧ wr.drew.cell? ⟨g, o + m * 4 + 2, none⟩ = some (.string ⟨k.t.toArray⟩) ∧ wr.drew.cell? ⟨g, o + m * 4 + 3, none⟩ = some (.slice ak k.l.length ck) ∧ wr.drew.cell? ⟨g, o + n * 4, none⟩ = some (.int .i64 x.k) ∧ wr.drew.cell? ⟨g, o + n * 4 + 1, none⟩ = some (.int .i64 x.n) ∧ wr.drew.cell? ⟨g, o + n * 4 + 2, none⟩ = some (.string ⟨x.t.toArray⟩) ∧ wr.drew.cell? ⟨g, o + n * 4 + 3, none⟩ = some (.slice ax x.l.length cx) := hSk _ (Below.refl _ _).drew
      refine wpE_takeX (some 59) (fun _ => false) (i := 0) (v := .slice (some ⟨g, o, none⟩) lst.length cl) rfl rfl (by kernel_rfl) (by kernel_rfl) (by kernel_rfl) (by kernel_rfl) (fun j hj => by cases hj) (fun _ _ _ h => h) rfl (fun w' hS => by obtain ⟨g0, g1, g2, g3, g4, g5, g6, g7⟩ := hS; go_simp) (hS0) ?_
      try simp only [Act.put, List.setIfInBounds_toArray, List.set_cons_zero, List.set_cons_succ]
      refine wpE_takeX (some 60) (fun _ => false) (i := 1) (v := .int .i64 m) rfl rfl (by kernel_rfl) (by kernel_rfl) (by kernel_rfl) (by kernel_rfl) (fun j hj => by cases hj) (fun _ _ _ h => h) rfl (fun w' hS => by obtain ⟨g0, g1, g2, g3, g4, g5, g6, g7⟩ := hS; go_simp) (hS0) ?_
      try simp only [Act.put, List.setIfInBounds_toArray, List.set_cons_zero, List.set_cons_succ]
      refine wpE_takeX (some 61) (fun _ => false) (i := 2) (v := .pointer (some ⟨g, o + m * 4, none⟩)) rfl rfl (by kernel_rfl) (by kernel_rfl) (by kernel_rfl) (by kernel_rfl) (fun j hj => by cases hj) (fun _ _ _ h => h) rfl (fun w' hS => by obtain ⟨g0, g1, g2, g3, g4, g5, g6, g7⟩ := hS; go_simp) (hS0) ?_
      try simp only [Act.put, List.setIfInBounds_toArray, List.set_cons_zero, List.set_cons_succ]
      refine wpE_takeX (some 62) (fun _ => false) (i := 3) (v := .agg #[.int .i64 k.k, .int .i64 k.n, .string ⟨k.t.toArray⟩, .slice ak k.l.length ck]) rfl rfl (by kernel_rfl) (by kernel_rfl) (by kernel_rfl) (by kernel_rfl) (fun j hj => by cases hj) (fun _ _ _ h => h) rfl (fun w' hS => by obtain ⟨g0, g1, g2, g3, g4, g5, g6, g7⟩ := hS; go_simp) (hS0) ?_
      try simp only [Act.put, List.setIfInBounds_toArray, List.set_cons_zero, List.set_cons_succ]
      refine wpE_takeX (some 63) (fun _ => false) (i := 4) (v := .slice (some ⟨g, o, none⟩) lst.length cl) rfl rfl (by kernel_rfl) (by kernel_rfl) (by kernel_rfl) (by kernel_rfl) (fun j hj => by cases hj) (fun _ _ _ h => h) rfl (fun w' hS => by obtain ⟨g0, g1, g2, g3, g4, g5, g6, g7⟩ := hS; go_simp) (hS0) ?_
      try simp only [Act.put, List.setIfInBounds_toArray, List.set_cons_zero, List.set_cons_succ]
      refine wpE_takeX (some 64) (fun _ => false) (i := 5) (v := .int .i64 m) rfl rfl (by kernel_rfl) (by kernel_rfl) (by kernel_rfl) (by kernel_rfl) (fun j hj => by cases hj) (fun _ _ _ h => h) rfl (fun w' hS => by obtain ⟨g0, g1, g2, g3, g4, g5, g6, g7⟩ := hS; go_simp) (hS0) ?_
      try simp only [Act.put, List.setIfInBounds_toArray, List.set_cons_zero, List.set_cons_succ]
      refine wpE_takeX (some 65) (fun _ => false) (i := 6) (v := .int .i64 n) rfl rfl (by kernel_rfl) (by kernel_rfl) (by kernel_rfl) (by kernel_rfl) (fun j hj => by cases hj) (fun _ _ _ h => h) rfl (fun w' hS => by obtain ⟨g0, g1, g2, g3, g4, g5, g6, g7⟩ := hS; go_simp) (hS0) ?_
      try simp only [Act.put, List.setIfInBounds_toArray, List.set_cons_zero, List.set_cons_succ]
      refine wpE_takeX (some 66) (fun _ => false) (i := 7) (v := .pointer (some ⟨g, o + n * 4, none⟩)) rfl rfl (by kernel_rfl) (by kernel_rfl) (by kernel_rfl) (by kernel_rfl) (fun j hj => by cases hj) (fun _ _ _ h => h) rfl (fun w' hS => by obtain ⟨g0, g1, g2, g3, g4, g5, g6, g7⟩ := hS; go_simp) (hS0) ?_
      try simp only [Act.put, List.setIfInBounds_toArray, List.set_cons_zero, List.set_cons_succ]
      refine wpE_takeX (some 67) (fun _ => false) (i := 8) (v := .agg #[.int .i64 x.k, .int .i64 x.n, .string ⟨x.t.toArray⟩, .slice ax x.l.length cx]) rfl rfl (by kernel_rfl) (by kernel_rfl) (by kernel_rfl) (by kernel_rfl) (fun j hj => by cases hj) (fun _ _ _ h => h) rfl (fun w' hS => by obtain ⟨g0, g1, g2, g3, g4, g5, g6, g7⟩ := hS; go_simp) (hS0) ?_
      try simp only [Act.put, List.setIfInBounds_toArray, List.set_cons_zero, List.set_cons_succ]
      refine wpE_name ?_
      intro ac l hac hl
      suffices key : ∀ (wq : World) (g3 g4 : Nat), Below wr.heap.size wr wq → wr.heap.size ≤ g3 → wr.heap.size ≤ g4 → g3 ≠ g4 → wq.heap[g3]? = some (.cells #[.int .i64 0, .int .i64 0, .string ⟨#[]⟩, .slice none 0 0] 24 (0, 0)) → wq.heap[g4]? = some (.cells #[.int .i64 0, .int .i64 0, .string ⟨#[]⟩, .slice none 0 0] 24 (0, 0)) → wpE Try.prog .any _ _ _ _ 2 #[true, true, true, true, true, true, true, true, true, true, true, false, false] ((ac.put (some 13) (.pointer (some ⟨g3, 0, none⟩))).put (some 14) (.pointer (some ⟨g4, 0, none⟩))) wq by
        rw [hac, hl]
        refine wpE_two (i := 9) (j := 10) (by kernel_rfl) rfl rfl rfl rfl (fun K hK => ?_) (fun K hK => ?_)
        · go_simp
          obtain ⟨wy, hWy, hby, hsy, hblky⟩ := alloc_z wr
          obtain ⟨wz, hWz, hbz, hsz', hblkz⟩ := alloc_z wy
          rw [hsy] at hblkz
          have hbyd : Below wr.heap.size wr wy.drew := hby.trans ((below_drewN wy 1).mono hby.size)
          have hbz' : Below wr.heap.size wr wz := hby.trans (hbz.mono hby.size)
          have hbzd : Below wr.heap.size wr wz.drew := hbz'.trans ((below_drewN wz 1).mono hbz'.size)
          try rw [hWy]
          refine hK _ _ (fun _ => hSk _ hbyd) ?_
          clear hK K
          try simp only [Act.put, List.setIfInBounds_toArray, List.set_cons_zero, List.set_cons_succ]
          refine wpE_one (i := 10) (by kernel_rfl) rfl rfl (fun K hK => ?_)
          go_simp
          try rw [hWz]
          refine hK _ _ (fun _ => hSk _ hbzd) ?_
          clear hK K
          try simp only [Act.put, List.setIfInBounds_toArray, List.set_cons_zero, List.set_cons_succ]
          have h := key wz.drew (wr.heap.size) (wr.heap.size + 1) hbzd (by omega) (by omega) (by omega) (by exact (hbz.block _ (by omega)).trans hblky) (by exact hblkz)
          rw [hac] at h
          simp only [Act.put, List.setIfInBounds_toArray, List.set_cons_zero, List.set_cons_succ] at h
          refine wpE_name ?_
          intro a2 l2 ha2 hl2
          have hl3 : l2 = #[true, true, true, true, true, true, true, true, true, true, true, false, false] := by rw [hl2]; kernel_rfl
          rw [hl3, ha2]
          try rw [hsy] at *
          exact h
        · go_simp
          obtain ⟨wy, hWy, hby, hsy, hblky⟩ := alloc_z wr
          obtain ⟨wz, hWz, hbz, hsz', hblkz⟩ := alloc_z wy
          rw [hsy] at hblkz
          have hbyd : Below wr.heap.size wr wy.drew := hby.trans ((below_drewN wy 1).mono hby.size)
          have hbz' : Below wr.heap.size wr wz := hby.trans (hbz.mono hby.size)
          have hbzd : Below wr.heap.size wr wz.drew := hbz'.trans ((below_drewN wz 1).mono hbz'.size)
          try rw [hWy]
          refine hK _ _ (fun _ => hSk _ hbyd) ?_
          clear hK K
          try simp only [Act.put, List.setIfInBounds_toArray, List.set_cons_zero, List.set_cons_succ]
          refine wpE_one (i := 9) (by kernel_rfl) rfl rfl (fun K hK => ?_)
          go_simp
          try rw [hWz]
          refine hK _ _ (fun _ => hSk _ hbzd) ?_
          clear hK K
          try simp only [Act.put, List.setIfInBounds_toArray, List.set_cons_zero, List.set_cons_succ]
          have h := key wz.drew (wr.heap.size + 1) (wr.heap.size) hbzd (by omega) (by omega) (by omega) (by exact hblkz) (by exact (hbz.block _ (by omega)).trans hblky)
          rw [hac] at h
          simp only [Act.put, List.setIfInBounds_toArray, List.set_cons_zero, List.set_cons_succ] at h
          refine wpE_name ?_
          intro a2 l2 ha2 hl2
          have hl3 : l2 = #[true, true, true, true, true, true, true, true, true, true, true, false, false] := by rw [hl2]; kernel_rfl
          rw [hl3, ha2]
          try rw [hsy] at *
          exact h
      intro wq g3 g4 hbq hg3 hg4 hne hz3 hz4
      rw [hac]
      simp only [Act.put, List.setIfInBounds_toArray, List.set_cons_zero, List.set_cons_succ]
      clear hac hl ac l hS0
      obtain ⟨s0', s1', s2', s3', t0', t1', t2', t3'⟩ := cells_of4 hz3
      obtain ⟨wA, hWA⟩ : ∃ wA, set4 wq g3 (.int .i64 k.k) (.int .i64 k.n) (.string ⟨k.t.toArray⟩) (.slice ak k.l.length ck) = wA := ⟨_, rfl⟩
      have hbA : Below wr.heap.size wr wA := by rw [← hWA]; exact below_set4 hbq hg3 _ _ _ _
      replace hz3 : wA.heap[g3]? = some (.cells #[.int .i64 k.k, .int .i64 k.n, .string ⟨k.t.toArray⟩, .slice ak k.l.length ck] 24) := by rw [← hWA]; exact set4_blk hz3 _ _ _ _
      replace hz4 : wA.heap[g4]? = some (.cells #[.int .i64 0, .int .i64 0, .string ⟨#[]⟩, .slice none 0 0] 24 (0, 0)) := by rw [← hWA, set4_other hne.symm]; exact hz4
      refine wpE_one (i := 11) (by kernel_rfl) rfl rfl (fun K hK => ?_)
      go_simp
      refine hK _ _ (fun _ => by first | exact hSk _ hbA | (simp only [set4] at hWA; rw [hWA]; exact hSk _ hbA)) ?_
      clear hK K
      try simp only [Act.put, List.setIfInBounds_toArray, List.set_cons_zero, List.set_cons_succ]
      simp only [set4] at hWA
      try rw [hWA]
      clear s0' s1' s2' s3' t0' t1' t2' t3' hWA
      obtain ⟨s0', s1', s2', s3', t0', t1', t2', t3'⟩ := cells_of4 hz4
      obtain ⟨w9, hW9⟩ : ∃ w9, set4 wA g4 (.int .i64 x.k) (.int .i64 x.n) (.string ⟨x.t.toArray⟩) (.slice ax x.l.length cx) = w9 := ⟨_, rfl⟩
      have hb9 : Below wr.heap.size wr w9 := by rw [← hW9]; exact below_set4 hbA hg4 _ _ _ _
      replace hz3 : w9.heap[g3]? = some (.cells #[.int .i64 k.k, .int .i64 k.n, .string ⟨k.t.toArray⟩, .slice ak k.l.length ck] 24) := by rw [← hW9, set4_other hne]; exact hz3
      replace hz4 : w9.heap[g4]? = some (.cells #[.int .i64 x.k, .int .i64 x.n, .string ⟨x.t.toArray⟩, .slice ax x.l.length cx] 24) := by rw [← hW9]; exact set4_blk hz4 _ _ _ _
      refine wpE_one (i := 12) (by kernel_rfl) rfl rfl (fun K hK => ?_)
      go_simp
      refine hK _ _ (fun _ => by first | exact hSk _ hb9 | (simp only [set4] at hW9; rw [hW9]; exact hSk _ hb9)) ?_
      clear hK K
      try simp only [Act.put, List.setIfInBounds_toArray, List.set_cons_zero, List.set_cons_succ]
      simp only [set4] at hW9
      try rw [hW9]
      clear s0' s1' s2' s3' t0' t1' t2' t3' hW9
      refine wpE_done (by kernel_rfl) ?_
      have hlt3 : g3 < w9.heap.size := (Array.getElem?_eq_some_iff.1 hz3).1
      have hlt4 : g4 < w9.heap.size := (Array.getElem?_eq_some_iff.1 hz4).1
      have hs9 := hb9.size
      have hbr9 : w9.heap[w.heap.size]? = some (.cells #[.int .i64 vc.k, .int .i64 vc.n, .string ⟨vc.t.toArray⟩, .slice sa vc.l.length sc] 24) := (hb9.block _ h0r).trans hbr
      have hB9 : Below w.heap.size w w9 := hBr.trans (hb9.mono hBr.size)
      have hcb : ∀ w', Below w9.heap.size w9 w' → At4 w' g3 k (.slice ak k.l.length ck) ∧ At4 w' g4 x (.slice ax x.l.length cx) ∧ At4 w' w.heap.size vc (.slice sa vc.l.length sc) := fun w' h => by
        obtain ⟨x0, x1, x2, x3, -⟩ := cells_of4 hz3
        obtain ⟨y0, y1, y2, y3, -⟩ := cells_of4 hz4
        obtain ⟨v0, v1, v2, v3, -⟩ := cells_of4 hbr9
        exact ⟨At4.below ⟨x0, x1, x2, x3⟩ hlt3 h, At4.below ⟨y0, y1, y2, y3⟩ hlt4 h, At4.below ⟨v0, v1, v2, v3⟩ (by omega) h⟩
      have hvc9 : IsW (fun j => j ≠ w.heap.size) w9 vc (.slice sa vc.l.length sc) := hvc.below hb9
      have hjv : IsW Any w9 vc (.slice sa vc.l.length sc) := hvc9.base (fun _ _ _ => trivial)
      have hjk := hwk.below hb9
      have hjx := hwx.below hb9
      clear hwk hwx hvc hbr hSk hbq hbA hb9
      simp only [Exit.inBlock, Exit.then]
      refine ‹∀ (a : Act) (w : World), _ → _› _ _ ?_
      obtain ⟨⟨p0, p1, p2, p3⟩, ⟨q0, q1, q2, q3⟩, ⟨r0, r1, r2, r3⟩⟩ := hcb w9 (Below.refl _ _)
      have hLk := large_any zk hjk
      go_wp2_with fail
      refine hLk.mono ?_
      rintro e wE ⟨rfl, hbE⟩
      clear hLk
      clear p0 p1 p2 p3 q0 q1 q2 q3 r0 r1 r2 r3
      have hBE : Below w.heap.size w wE := hB9.trans (hbE.mono hB9.size)
      by_cases hlk : 65536 < wt k
      · rw [decide_eq_true hlk]
        go_wp2
        go_ret
        exact ⟨rfl, hBE⟩
      rw [decide_eq_false hlk]
      obtain ⟨⟨p0, p1, p2, p3⟩, ⟨q0, q1, q2, q3⟩, ⟨r0, r1, r2, r3⟩⟩ := hcb wE hbE
      have hLx := large_any zx (hjx.below hbE)
      go_wp2_with fail
      refine hLx.mono ?_
      rintro e wF ⟨rfl, hbF'⟩
      have hbF : Below w9.heap.size w9 wF := hbE.trans (hbF'.mono hbE.size)
      clear hLx hbF' hbE hBE
      clear p0 p1 p2 p3 q0 q1 q2 q3 r0 r1 r2 r3
      have hBF : Below w.heap.size w wF := hB9.trans (hbF.mono hB9.size)
      by_cases hlx : 65536 < wt x
      · rw [decide_eq_true hlx]
        go_wp2
        go_ret
        exact ⟨rfl, hBF⟩
      rw [decide_eq_false hlx]
      have htK := (tyT_len (keyTy kb)).2
      have htE := (tyT_len E).2
      have hdk := keyTy_dp kb
      have hFk := fits_any (y := keyT kb) (by rw [← keyTy_T]; omega) (hjk.below hbF) (by omega)
      obtain ⟨⟨p0, p1, p2, p3⟩, ⟨q0, q1, q2, q3⟩, ⟨r0, r1, r2, r3⟩⟩ := hcb wF hbF
      go_wp2_with fail
      refine hFk.mono ?_
      rintro e wG ⟨rfl, hbG'⟩
      have hbG : Below w9.heap.size w9 wG := hbF.trans (hbG'.mono hbF.size)
      clear hFk hbG' hbF hBF
      clear p0 p1 p2 p3 q0 q1 q2 q3 r0 r1 r2 r3
      rcases hfk : fitS (keyT kb) k with _ | _
      · have hnew : Hid (Below w.heap.size w wG ∧ wG.heap[w.heap.size]? = some (.cells #[.int .i64 vc.k, .int .i64 vc.n, .string ⟨vc.t.toArray⟩, .slice sa vc.l.length sc] 24) ∧ IsW (fun j => j ≠ w.heap.size) wG vc (.slice sa vc.l.length sc) ∧ Shp (.map kb E) vc ∧ wt vc ≤ 16384) := ⟨hB9.trans ((hbG).mono hB9.size), ((hbG).block _ (by omega)).trans hbr9, hvc9.below (hbG), hShp.out, hwc⟩
        clear hcb hround
        go_wp2_with fail
        go_roundg (lst.length + 1 - (m + 2))
        case measure => omega
        case rel => exact ⟨m + 2, vc, sa, sc, by omega, by omega, by go_num, hnew⟩
      have hkS : Hid (KeyS kb k) := by
        unfold fitS at hfk
        rw [← keyTy_T, shpS_ty (by omega), Bool.and_eq_true] at hfk
        exact (keyS_shp kb k).2 (shpB_iff.1 hfk.1)
      clear hfk
      have hFx := fits_any (y := tyT E) (by omega) (hjx.below hbG) (by omega)
      obtain ⟨⟨p0, p1, p2, p3⟩, ⟨q0, q1, q2, q3⟩, ⟨r0, r1, r2, r3⟩⟩ := hcb wG hbG
      go_wp2_with fail
      refine hFx.mono ?_
      rintro e wP ⟨rfl, hbP'⟩
      have hbP : Below w9.heap.size w9 wP := hbG.trans (hbP'.mono hbG.size)
      clear hFx hbP' hbG
      clear p0 p1 p2 p3 q0 q1 q2 q3 r0 r1 r2 r3
      rcases hfx : fitS (tyT E) x with _ | _
      · have hnew : Hid (Below w.heap.size w wP ∧ wP.heap[w.heap.size]? = some (.cells #[.int .i64 vc.k, .int .i64 vc.n, .string ⟨vc.t.toArray⟩, .slice sa vc.l.length sc] 24) ∧ IsW (fun j => j ≠ w.heap.size) wP vc (.slice sa vc.l.length sc) ∧ Shp (.map kb E) vc ∧ wt vc ≤ 16384) := ⟨hB9.trans ((hbP).mono hB9.size), ((hbP).block _ (by omega)).trans hbr9, hvc9.below (hbP), hShp.out, hwc⟩
        clear hcb hround
        go_wp2_with fail
        go_roundg (lst.length + 1 - (m + 2))
        case measure => omega
        case rel => exact ⟨m + 2, vc, sa, sc, by omega, by omega, by go_num, hnew⟩
      have hxS : Hid (Shp E x) := by
        unfold fitS at hfx
        rw [shpS_ty hE, Bool.and_eq_true] at hfx
        exact shpB_iff.1 hfx.1
      clear hfx
      have hP := put_any (hjv.below hbP) (hjk.below hbP) (hjx.below hbP) (by omega) (by omega) (by omega) hShp.out.tidy
      obtain ⟨⟨yy, ee⟩, HO⟩ : ∃ o, Hid (putV vc k x = o) := ⟨_, rfl⟩
      have hall := put_all hShp.out hkS.out hxS.out HO.out
      rw [HO.out] at hP
      obtain ⟨⟨p0, p1, p2, p3⟩, ⟨q0, q1, q2, q3⟩, ⟨r0, r1, r2, r3⟩⟩ := hcb wP hbP
      go_wp2_with fail
      refine hP.mono ?_
      rintro e u1 ⟨⟨ay, cy, rfl, hy1⟩, hbu1⟩
      clear hP
      clear p0 p1 p2 p3 q0 q1 q2 q3 r0 r1 r2 r3
      have hbu : Below w9.heap.size w9 u1 := hbP.trans (hbu1.mono hbP.size)
      replace hy1 : IsW (From w9.heap.size) u1 yy (.slice ay yy.l.length cy) := hy1.base (fun j hj _ => by show w9.heap.size ≤ j; have : wP.heap.size ≤ j := hj; have := hbP.size; omega)
      obtain ⟨uz, Uy, hUz, hUU, hbUy', hsUy, hsz2, hblkUy, ⟨y0, y1, y2, y3⟩, ⟨z0, z1, z2, z3⟩⟩ := rbox_set u1 (.int .i64 yy.k) (.int .i64 yy.n) (.string ⟨yy.t.toArray⟩) (.slice ay yy.l.length cy)
      have hbU : Below w9.heap.size w9 Uy := hbu.trans (hbUy'.mono hbu.size)
      rcases hall with h53 | ⟨h0, hSy', hwy, haty, hhit, hoth⟩
      · have hE1 : (ee != 0) = true := by rw [h53]; rfl
        have hE2 : (ee != 53) = false := by rw [h53]; rfl
        clear h53 hy1
        have hnew : Hid (Below w.heap.size w Uy ∧ Uy.heap[w.heap.size]? = some (.cells #[.int .i64 vc.k, .int .i64 vc.n, .string ⟨vc.t.toArray⟩, .slice sa vc.l.length sc] 24) ∧ IsW (fun j => j ≠ w.heap.size) Uy vc (.slice sa vc.l.length sc) ∧ Shp (.map kb E) vc ∧ wt vc ≤ 16384) := ⟨hB9.trans ((hbU).mono hB9.size), ((hbU).block _ (by omega)).trans hbr9, hvc9.below (hbU), hShp.out, hwc⟩
        clear hcb hround
        go_wp2_with fail
        go_roundg (lst.length + 1 - (m + 2))
        case measure => omega
        case rel => exact ⟨m + 2, vc, sa, sc, by omega, by omega, by go_num, hnew⟩
      have hE1 : (ee != 0) = false := by rw [h0]; rfl
      have hSy : Hid (Shp (.map kb E) yy) := hSy'
      have hyU : IsW (From w9.heap.size) Uy yy (.slice ay yy.l.length cy) := hy1.below hbUy'
      have hjy : IsW Any Uy yy (.slice ay yy.l.length cy) := hyU.base (fun _ _ _ => trivial)
      have hothH : Hid (∀ i a b, vc.l[2 * i]? = some a → vc.l[2 * i + 1]? = some b → a ≠ k → atV yy a = (b, 0)) := fun i a b h1 h2 h3 => hoth a b ⟨i, h1, h2⟩ h3
      have hhitH : Hid (hit k yy.l = true) := hhit
      have hAt := at_any hjy (hjk.below hbU) (by omega) hSy.out.tidy
      rw [haty] at hAt
      have hu1 : u1.heap.size < Uy.heap.size := by omega
      have hs1U := hbu.size
      have hbox : ∀ w', Below Uy.heap.size Uy w' → At4 w' u1.heap.size yy (.slice ay yy.l.length cy) := fun w' h => by
        obtain ⟨x0, x1, x2, x3, -⟩ := cells_of4 hblkUy
        exact At4.below ⟨x0, x1, x2, x3⟩ hu1 h
      clear HO h0 haty hoth hhit hSy' hy1
      obtain ⟨⟨p0, p1, p2, p3⟩, ⟨q0, q1, q2, q3⟩, ⟨r0, r1, r2, r3⟩⟩ := hcb Uy hbU
      obtain ⟨j0, j1, j2, j3⟩ := hbox Uy (Below.refl _ _)
      go_wp2_with fail
      refine hAt.mono ?_
      rintro e u2 ⟨⟨a6, c6, rfl, hx2⟩, hbu2⟩
      clear hAt j0 j1 j2 j3
      clear y0 y1 y2 y3 z0 z1 z2 z3 hUz hUU hsz2
      clear p0 p1 p2 p3 q0 q1 q2 q3 r0 r1 r2 r3
      obtain ⟨uz, Ug, hUz, hUU, hbUg', hsUg, hsz2, hblkUg, ⟨y0, y1, y2, y3⟩, ⟨z0, z1, z2, z3⟩⟩ := rbox_set u2 (.int .i64 x.k) (.int .i64 x.n) (.string ⟨x.t.toArray⟩) (.slice a6 x.l.length c6)
      have hbUUg : Below Uy.heap.size Uy Ug := hbu2.trans (hbUg'.mono hbu2.size)
      have hb9g : Below w9.heap.size w9 Ug := hbU.trans (hbUUg.mono hbU.size)
      have hxg : IsW Any Ug x (.slice a6 x.l.length c6) := (hx2.below hbUg').base (fun _ _ _ => trivial)
      have hCm := compare_any hxg (hjx.below hb9g)
      rw [cmpV_self] at hCm
      obtain ⟨⟨p0, p1, p2, p3⟩, ⟨q0, q1, q2, q3⟩, ⟨r0, r1, r2, r3⟩⟩ := hcb Ug hb9g
      obtain ⟨j0, j1, j2, j3⟩ := hbox Ug hbUUg
      obtain ⟨i0, i1, i2, i3, -⟩ := cells_of4 hblkUg
      go_wp2_with fail
      clear y0 y1 y2 y3 z0 z1 z2 z3 hUz hUU hsz2
      refine hCm.mono ?_
      rintro e wI ⟨rfl, hbI⟩
      clear hCm i0 i1 i2 i3 j0 j1 j2 j3
      clear p0 p1 p2 p3 q0 q1 q2 q3 r0 r1 r2 r3
      have hb9I : Below w9.heap.size w9 wI := hb9g.trans (hbI.mono hb9g.size)
      have hbUI : Below Uy.heap.size Uy wI := hbUUg.trans (hbI.mono hbUUg.size)
      have hFy := fits_any (v := yy) htl (hjy.below hbUI) (by omega)
      rw [fitS_of hT hSy.out hwy] at hFy
      obtain ⟨⟨p0, p1, p2, p3⟩, ⟨q0, q1, q2, q3⟩, ⟨r0, r1, r2, r3⟩⟩ := hcb wI hb9I
      obtain ⟨j0, j1, j2, j3⟩ := hbox wI hbUI
      go_wp2_with fail
      refine hFy.mono ?_
      rintro e wJ ⟨rfl, hbJ⟩
      clear hFy j0 j1 j2 j3
      clear p0 p1 p2 p3 q0 q1 q2 q3 r0 r1 r2 r3
      have hb9J : Below w9.heap.size w9 wJ := hb9I.trans (hbJ.mono hb9I.size)
      have hbUJ : Below Uy.heap.size Uy wJ := hbUI.trans (hbJ.mono hbUI.size)
      have hwtc := wt_eq vc
      have hwlc := wts_len vc.l
      have hwty := wt_eq yy
      have hwly := wts_len yy.l
      have hOt := others_any (hjv.below hb9J) (hjy.below hbUJ) (hjk.below hb9J) (by omega) (by omega) hSy.out.tidy hothH.out
      obtain ⟨⟨p0, p1, p2, p3⟩, ⟨q0, q1, q2, q3⟩, ⟨r0, r1, r2, r3⟩⟩ := hcb wJ hb9J
      obtain ⟨j0, j1, j2, j3⟩ := hbox wJ hbUJ
      go_wp2_with fail
      refine hOt.mono ?_
      rintro e wK ⟨rfl, hbK⟩
      clear hOt j0 j1 j2 j3 hothH
      clear p0 p1 p2 p3 q0 q1 q2 q3 r0 r1 r2 r3
      have hb9K : Below w9.heap.size w9 wK := hb9J.trans (hbK.mono hb9J.size)
      have hbUK : Below Uy.heap.size Uy wK := hbUJ.trans (hbK.mono hbUJ.size)
      have hD := del_any (hjy.below hbUK) (hjk.below hb9K) (by omega) hSy.out.tidy
      obtain ⟨⟨zz, e2⟩, HD⟩ : ∃ o, Hid (delV yy k = o) := ⟨_, rfl⟩
      obtain ⟨hd0, hSz', hwz, hhz, hoz⟩ := del_all hSy.out hwy hhitH.out HD.out
      rw [HD.out] at hD
      subst hd0
      have hSz : Hid (Shp (.map kb E) zz) := hSz'
      have hozH : Hid (∀ i a b, yy.l[2 * i]? = some a → yy.l[2 * i + 1]? = some b → a ≠ k → atV zz a = (b, 0)) := fun i a b h1 h2 h3 => hoz a b ⟨i, h1, h2⟩ h3
      clear HD hSz' hoz hhitH
      obtain ⟨⟨p0, p1, p2, p3⟩, ⟨q0, q1, q2, q3⟩, ⟨r0, r1, r2, r3⟩⟩ := hcb wK hb9K
      obtain ⟨j0, j1, j2, j3⟩ := hbox wK hbUK
      go_wp2_with fail
      refine hD.mono ?_
      rintro e u3 ⟨⟨a7, c7, rfl, hz3'⟩, hbu3⟩
      clear hD j0 j1 j2 j3
      clear p0 p1 p2 p3 q0 q1 q2 q3 r0 r1 r2 r3
      obtain ⟨uz, Ud, hUz, hUU, hbUd', hsUd, hsz2, hblkUd, ⟨y0, y1, y2, y3⟩, ⟨z0, z1, z2, z3⟩⟩ := rbox_set u3 (.int .i64 zz.k) (.int .i64 zz.n) (.string ⟨zz.t.toArray⟩) (.slice a7 zz.l.length c7)
      have hbKd : Below wK.heap.size wK Ud := hbu3.trans (hbUd'.mono hbu3.size)
      have hb9d : Below w9.heap.size w9 Ud := hb9K.trans (hbKd.mono hb9K.size)
      have hbUd : Below Uy.heap.size Uy Ud := hbUK.trans (hbKd.mono hbUK.size)
      have hjz : IsW Any Ud zz (.slice a7 zz.l.length c7) := (hz3'.below hbUd').base (fun _ _ _ => trivial)
      have hu3 : u3.heap.size < Ud.heap.size := by omega
      have hboz : ∀ w', Below Ud.heap.size Ud w' → At4 w' u3.heap.size zz (.slice a7 zz.l.length c7) := fun w' h => by
        obtain ⟨x0, x1, x2, x3, -⟩ := cells_of4 hblkUd
        exact At4.below ⟨x0, x1, x2, x3⟩ hu3 h
      have hwtz := wt_eq zz
      have hwlz := wts_len zz.l
      have hkz : zz.k = 5 := hSz.out.kind
      have hHs := has_any hjz (hjk.below hb9d) (by omega) hSz.out.tidy
      rw [hhz, Bool.and_false, if_pos hkz] at hHs
      clear hhz hkz
      obtain ⟨⟨p0, p1, p2, p3⟩, ⟨q0, q1, q2, q3⟩, ⟨r0, r1, r2, r3⟩⟩ := hcb Ud hb9d
      obtain ⟨i0, i1, i2, i3⟩ := hboz Ud (Below.refl _ _)
      go_wp2_with fail
      clear y0 y1 y2 y3 z0 z1 z2 z3 hUz hUU hsz2
      refine hHs.mono ?_
      rintro e wM ⟨rfl, hbM⟩
      clear hHs i0 i1 i2 i3
      clear p0 p1 p2 p3 q0 q1 q2 q3 r0 r1 r2 r3
      have hb9M : Below w9.heap.size w9 wM := hb9d.trans (hbM.mono hb9d.size)
      have hbUM : Below Uy.heap.size Uy wM := hbUd.trans (hbM.mono hbUd.size)
      have hFz := fits_any (v := zz) htl (hjz.below hbM) (by omega)
      rw [fitS_of hT hSz.out hwz] at hFz
      obtain ⟨i0, i1, i2, i3⟩ := hboz wM hbM
      go_wp2_with fail
      refine hFz.mono ?_
      rintro e wO ⟨rfl, hbO⟩
      clear hFz i0 i1 i2 i3
      have hb9O : Below w9.heap.size w9 wO := hb9M.trans (hbO.mono hb9M.size)
      have hbUO : Below Uy.heap.size Uy wO := hbUM.trans (hbO.mono hbUM.size)
      have hbdO : Below Ud.heap.size Ud wO := hbM.trans (hbO.mono hbM.size)
      have hOt := others_any (hjy.below hbUO) (hjz.below hbdO) (hjk.below hb9O) (by omega) (by omega) hSz.out.tidy hozH.out
      obtain ⟨⟨p0, p1, p2, p3⟩, ⟨q0, q1, q2, q3⟩, ⟨r0, r1, r2, r3⟩⟩ := hcb wO hb9O
      obtain ⟨i0, i1, i2, i3⟩ := hboz wO hbdO
      obtain ⟨j0, j1, j2, j3⟩ := hbox wO hbUO
      go_wp2_with fail
      refine hOt.mono ?_
      rintro e wQ ⟨rfl, hbQ⟩
      clear hOt i0 i1 i2 i3 j0 j1 j2 j3 hozH
      clear p0 p1 p2 p3 q0 q1 q2 q3 r0 r1 r2 r3
      have hb9Q : Below w9.heap.size w9 wQ := hb9O.trans (hbQ.mono hb9O.size)
      have hbUQ : Below Uy.heap.size Uy wQ := hbUO.trans (hbQ.mono hbUO.size)
      have hyQ := hyU.below hbUQ
      obtain ⟨j0, j1, j2, j3⟩ := hbox wQ hbUQ
      have hbrW : wQ.heap[w.heap.size]? = some (.cells #[.int .i64 vc.k, .int .i64 vc.n, .string ⟨vc.t.toArray⟩, .slice sa vc.l.length sc] 24) := (hb9Q.block _ (by omega)).trans hbr9
      obtain ⟨s0', s1', s2', s3', t0', t1', t2', t3'⟩ := cells_of4 hbrW
      obtain ⟨wN, hWN⟩ : ∃ wN, set4 wQ w.heap.size (.int .i64 yy.k) (.int .i64 yy.n) (.string ⟨yy.t.toArray⟩) (.slice ay yy.l.length cy) = wN := ⟨_, rfl⟩
      have hnew : Hid (Below w.heap.size w wN ∧ wN.heap[w.heap.size]? = some (.cells #[.int .i64 yy.k, .int .i64 yy.n, .string ⟨yy.t.toArray⟩, .slice ay yy.l.length cy] 24) ∧ IsW (fun j => j ≠ w.heap.size) wN yy (.slice ay yy.l.length cy) ∧ Shp (.map kb E) yy ∧ wt yy ≤ 16384) := by
        rw [← hWN]
        exact ⟨below_set4 (hB9.trans (hb9Q.mono hB9.size)) (Nat.le_refl _) _ _ _ _, set4_blk hbrW _ _ _ _, (hyQ.base (B' := fun j => j ≠ w.heap.size) (fun j hj _ => by show j ≠ w.heap.size; have : w9.heap.size ≤ j := hj; omega)).since (since_set4 (by simp) _ _ _ _), hSy.out, hwy⟩
      clear hcb hround hbox hboz
      go_wp2_with fail
      go_roundg (lst.length + 1 - (m + 2))
      case measure => omega
      case rel => exact ⟨m + 2, yy, ay, cy, by omega, by omega, by go_num, hnew⟩
    · have hltI : ¬ (m : Int) + 1 < (lst.length : Int) := by omega
      clear hround
      go_wp2
      go_ret
      exact ⟨rfl, hBr⟩
end Go.Proofs.Ytkbplffckkjbfaa
