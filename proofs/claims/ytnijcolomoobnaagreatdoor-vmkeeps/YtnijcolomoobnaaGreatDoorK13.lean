/- Texts of ours, joined: Vsp. -/
import Derived.Test.YtnijcolomoobnaaGreatDoorK10
import Derived.Test.YtnijcolomoobnaaGreatDoorK08
import Derived.Test.YtnijcolomoobnaaGreatDoorK02
import Derived.Deep.RegionWith
import Derived.Deep.RegionHeld3
import Derived.Deep.DrawnRows
namespace Go.Proofs.YtnijcolomoobnaaGreatDoor
open Go.RowKit
set_option linter.unusedVariables false
set_option linter.unusedSimpArgs false
attribute [local go_sem ↓] Go.wp_at_zero Go.wp_at_succ

def cutA (a : Option Addr) (lo cap : Nat) : Option Addr := if cap = lo then a else a.map (·.add (lo * 4))
theorem vsize (wx : World) : (sizeOf (Tryz.prog.elem 22)).run Tryz.prog wx = .ok 4 wx := by kernel_rfl
theorem velem : Tryz.prog.underlying 22 = some (.slice (Tryz.prog.elem 22)) := by kernel_rfl
theorem cut_high (a : Option Addr) (len cap hi : Nat) (h : hi ≤ cap) (wx : World) :
    (Instr.slice 22 (.slice a len cap) none (some (.int .i64 (hi : Int))) none).run Tryz.prog wx = .ok (.slice a hi cap) wx := by
  rw [run_slice_h (P := Tryz.prog) wx 22 a len cap velem .i64 hi (by omega) (by omega), vsize]
  cases a <;> simp [Result.andThen, sliced, Addr.add]
theorem cut_low (a : Option Addr) (len cap lo : Nat) (h1 : lo ≤ len) (wx : World) :
    (Instr.slice 22 (.slice a len cap) (some (.int .i64 (lo : Int))) none none).run Tryz.prog wx = .ok (.slice (cutA a lo cap) (len - lo) (cap - lo)) wx := by
  rw [run_slice_l (P := Tryz.prog) wx 22 a len cap velem .i64 lo (by omega) (by omega), vsize]
  rfl
theorem IsVs.take {B : Nat → Prop} {w : World} {l : List V} {ao : Option Addr} {n cap : Nat} (h : IsVs B w l (.slice ao n cap)) {q : Nat} (hq : q ≤ l.length) : IsVs B w (l.take q) (.slice ao q cap) := by
  obtain ⟨row, ⟨h1, h2⟩, h3⟩ := h
  have e : (l.take q).length = q := by simp; omega
  have hall := h3
  rw [← List.take_append_drop q l] at hall
  obtain ⟨r1, r2, hr, k1, k2⟩ := AllV.split hall
  have hr1 := k1.len
  rw [e] at hr1
  refine ⟨r1, ⟨by rw [e]; exact hr1, ?_⟩, k1⟩
  rcases h2 with ⟨e0 | ⟨a0, cap0, e0, hcm⟩, h0⟩ | ⟨g, o, cap', e0, c1, c2, hB, hg, hc⟩
  · simp only [Value.slice.injEq] at e0
    obtain ⟨rfl, _, rfl⟩ := e0
    exact Or.inl ⟨Or.inl (by rw [show q = 0 by omega]), by rw [e]; omega⟩
  · simp only [Value.slice.injEq] at e0
    obtain ⟨rfl, _, rfl⟩ := e0
    exact Or.inl ⟨Or.inr ⟨a0, cap, by rw [show q = 0 by omega], hcm⟩, by rw [e]; omega⟩
  · simp only [Value.slice.injEq] at e0
    obtain ⟨rfl, _, rfl⟩ := e0
    exact Or.inr ⟨g, o, cap, by rw [e], by rw [e]; omega, c2, hB, hg, fun j u hj => hc j u (by rw [hr, List.getElem?_append_left (by have := (List.getElem?_eq_some_iff.1 hj).1; omega)]; exact hj)⟩
theorem IsVs.drop {B : Nat → Prop} {w : World} {l : List V} {ao : Option Addr} {n cap : Nat} (h : IsVs B w l (.slice ao n cap)) {q : Nat} (hq : q ≤ l.length) : IsVs B w (l.drop q) (.slice (cutA ao q cap) (l.length - q) (cap - q)) := by
  obtain ⟨row, ⟨h1, h2⟩, h3⟩ := h
  have e : (l.drop q).length = l.length - q := by simp
  have hall := h3
  rw [← List.take_append_drop q l] at hall
  obtain ⟨r1, r2, hr, k1, k2⟩ := AllV.split hall
  have hr1 := k1.len
  have hr2 := k2.len
  have e1 : (l.take q).length = q := by simp; omega
  rw [e1] at hr1
  refine ⟨r2, ⟨hr2, ?_⟩, k2⟩
  rcases h2 with ⟨e0 | ⟨a0, cap0, e0, hcm⟩, h0⟩ | ⟨g, o, cap', e0, c1, c2, hB, hg, hc⟩
  rotate_left
  · simp only [Value.slice.injEq] at e0
    obtain ⟨rfl, _, rfl⟩ := e0
    refine Or.inl ⟨Or.inr ?_, by rw [e]; omega⟩
    unfold cutA
    rw [show l.length - q = 0 by omega]
    split
    · exact ⟨a0, _, rfl, by omega⟩
    · exact ⟨_, _, rfl, by omega⟩
  rotate_left
  · simp only [Value.slice.injEq] at e0
    obtain ⟨rfl, _, rfl⟩ := e0
    refine Or.inl ⟨Or.inl ?_, by rw [e]; omega⟩
    unfold cutA
    rw [show l.length - q = 0 by omega, show 0 - q = 0 by omega]
    split <;> rfl
  · simp only [Value.slice.injEq] at e0
    obtain ⟨rfl, _, rfl⟩ := e0
    unfold cutA
    by_cases hcap : cap = q
    · rw [if_pos hcap]
      refine Or.inr ⟨g, o, cap - q, by rw [e], by rw [e]; omega, by omega, hB, hg, fun j u hj => ?_⟩
      have := (List.getElem?_eq_some_iff.1 hj).1
      omega
    · rw [if_neg hcap]
      refine Or.inr ⟨g, o + q * 4, cap - q, ?_, by rw [e]; omega, by omega, hB, hg, fun j u hj => ?_⟩
      · rw [e]
        by_cases h0 : q = 0
        · simp [Addr.add, h0]
        · have : ¬ q * 4 = 0 := by omega
          simp [Addr.add, this]
      · have := hc (q * 4 + j) u (by rw [hr, List.getElem?_append_right (by omega), hr1]; simpa using hj)
        rw [Nat.add_assoc]; exact this
set_option maxRecDepth 100000 in
set_option maxHeartbeats 4000000 in
theorem spliced_any {B : Nat → Prop} {v : V} {ao ax : Option Addr} {cap cx f t : Nat} {xs : List V} {w : World} (hv : IsW B w v (.slice ao v.l.length cap)) (hx : IsVs B w xs (.slice ax xs.length cx)) (hf : f ≤ v.l.length) (ht : t ≤ v.l.length) (hsum : (spl v.l f t xs).length ≤ 1000000) :
    Calls Tryz.prog 97 #[.agg #[.int .i64 v.k, .int .i64 v.n, .string ⟨v.t.toArray⟩, .slice ao v.l.length cap], .int .i64 f, .int .i64 t, .slice ax xs.length cx] w fun r w' => (∃ ao' cap', r = .returned (.agg #[.int .i64 v.k, .int .i64 v.n, .string ⟨v.t.toArray⟩, .slice ao' (spl v.l f t xs).length cap']) ∧ IsVs (Up B w.heap.size) w' (spl v.l f t xs) (.slice ao' (spl v.l f t xs).length cap')) ∧ Below w.heap.size w w' := by
  obtain ⟨ao', cap', e, c1, c2⟩ := hv.vs.slice
  simp only [Value.slice.injEq] at e
  obtain ⟨rfl, -, rfl⟩ := e
  obtain ⟨w0, hW, hb0, hsz, d0, d1, d2, d3⟩ := boxed w v (.slice ao v.l.length cap)
  obtain ⟨w1, hW1, hb1, hsz1, hr⟩ := rbox w0
  rw [hsz] at hr
  have hs1 : w1.heap.size = w.heap.size + 2 := by omega
  have hB1 : Below w.heap.size w w1 := hb0.trans (hb1.mono (by omega))
  obtain ⟨f1, -⟩ := bcell hb1
  rw [← f1 w.heap.size _ (by omega)] at d0 d1 d2 d3
  clear f1 hsz1
  have q1 := cut_high ao v.l.length cap f (by omega)
  have q2 := cut_low ao v.l.length cap t ht
  have hbox1 : w1.heap[w.heap.size]? = some (.cells #[.int .i64 v.k, .int .i64 v.n, .string ⟨v.t.toArray⟩, .slice ao v.l.length cap] 31) := by
    rw [hb1.block _ (by omega), ← hW]; exact heap_new _ _
  obtain ⟨wa, hWa⟩ : ∃ wa, w1.alloc (.cells #[.slice ao f cap, .slice ax xs.length cx, .slice (cutA ao t cap) (v.l.length - t) (cap - t)] 22) = wa := ⟨_, rfl⟩
  have hba : Below w1.heap.size w1 wa := by rw [← hWa]; exact (Below.refl _ _).alloc (Nat.le_refl _) _
  have hblk : wa.heap[w.heap.size + 2]? = some (.cells #[.slice ao f cap, .slice ax xs.length cx, .slice (cutA ao t cap) (v.l.length - t) (cap - t)] 22) := by rw [← hWa, ← hs1]; exact heap_new _ _
  have hsa : wa.heap.size = w.heap.size + 3 := by rw [← hWa]; simp [hs1]
  have hBa : Below w.heap.size w wa := hB1.trans (hba.mono hB1.size)
  have hL : ∀ w2, Below wa.heap.size wa w2 → Calls Tryz.prog 66 #[.slice (some ⟨w.heap.size + 2, 0, none⟩) 3 3] w2 fun r w' => (∃ ao' cap', r = .returned (.slice ao' (spl v.l f t xs).length cap') ∧ IsVs (fun k => (B k ∧ k < w.heap.size) ∨ wa.heap.size ≤ k) w' (spl v.l f t xs) (.slice ao' (spl v.l f t xs).length cap')) ∧ Below w2.heap.size w2 w' := by
    intro w2 hb2
    have hblk2 := (hb2.block _ (by omega)).trans hblk
    have e1 : (v.l.take f).length = f := by simp; omega
    have e2 : (v.l.drop t).length = v.l.length - t := by simp
    have hbw : Below w.heap.size w w2 := hBa.trans (hb2.mono hBa.size)
    have hC := concat_any (B := Lob B w.heap.size) (L := fun q => match q with | 0 => v.l.take f | 1 => xs | _ => v.l.drop t) (a := fun q => match q with | 0 => ao | 1 => ax | _ => cutA ao t cap) (c := fun q => match q with | 0 => cap | 1 => cx | _ => cap - t) (g0 := w.heap.size + 2) (w := w2) ?_ (by have := hb2.size; omega) ?_ (by simpa [catL, spl] using hsum)
    · have hcat : catL (fun q => match q with | 0 => v.l.take f | 1 => xs | _ => v.l.drop t) 3 = spl v.l f t xs := by simp [catL, spl]
      rw [hcat] at hC
      refine hC.mono fun e w' h => ?_
      obtain ⟨⟨x, y, h1, h2⟩, h3⟩ := h
      refine ⟨⟨x, y, h1, h2.base fun k hk _ => ?_⟩, h3⟩
      rcases hk with hk | hk
      · exact Or.inl hk.1
      · exact Or.inr (by have := hb2.size; omega)
    · intro q hq
      rw [cell_block hblk2]
      have : q = 0 ∨ q = 1 ∨ q = 2 := by omega
      rcases this with rfl | rfl | rfl
      · simp [e1]
      · simp
      · simp
    · intro q hq
      have : q = 0 ∨ q = 1 ∨ q = 2 := by omega
      rcases this with rfl | rfl | rfl
      · have := ((hv.vs.base (B' := Lob B w.heap.size) (fun k h1 h2 => ⟨h1, h2⟩)).below hbw).take hf
        simp only [e1]; exact this
      · exact (hx.base (B' := Lob B w.heap.size) (fun k h1 h2 => ⟨h1, h2⟩)).below hbw
      · have := ((hv.vs.base (B' := Lob B w.heap.size) (fun k h1 h2 => ⟨h1, h2⟩)).below hbw).drop ht
        simp only [e2]; exact this
  have ka3 : wa.cell? ⟨w.heap.size, 3, none⟩ = some (.slice ao v.l.length cap) := ((bcell hba).1 _ _ (by omega)).trans d3
  clear hv hx
  go_enter Tryz.func97, Tryz.ntmps97
  go_wp2_with fail
  refine wpE_begin (S := fun w' => w'.cell? ⟨w.heap.size, 3, none⟩ = some (.slice ao v.l.length cap)) (N := fun j => decide (j < 12)) (by kernel_rfl) ?_
  have hS0 : w1.drew.cell? ⟨w.heap.size, 3, none⟩ = some (.slice ao v.l.length cap) := d3
  refine wpE_takeW (W := fun j => [1, 3, 9, 10, 12].contains j) (i := 0) (v := .pointer (some ⟨w.heap.size, 3, none⟩)) rfl (by kernel_rfl) (by kernel_rfl) (by kernel_rfl) (by kernel_rfl) (fun j hj => by simp at hj; show j < 13; omega) (fun _ _ _ h => h) rfl (fun w' hS => by go_simp) hS0 ?_
  try simp only [Act.put, List.setIfInBounds_toArray, List.set_cons_zero, List.set_cons_succ]
  refine wpE_takeW (W := fun j => [3, 9, 10, 12].contains j) (i := 1) (v := .slice ao v.l.length cap) rfl (by kernel_rfl) (by kernel_rfl) (by kernel_rfl) (by kernel_rfl) (fun j hj => by simp at hj; show j < 13; omega) (fun _ _ _ h => h) rfl (fun w' hS => by go_simp) hS0 ?_
  try simp only [Act.put, List.setIfInBounds_toArray, List.set_cons_zero, List.set_cons_succ]
  refine wpE_takeW (W := fun j => [3, 9, 10, 12].contains j) (i := 2) (v := .int .i64 f) rfl (by kernel_rfl) (by kernel_rfl) (by kernel_rfl) (by kernel_rfl) (fun j hj => by simp at hj; show j < 13; omega) (fun _ _ _ h => h) rfl (fun w' hS => by go_simp) hS0 ?_
  try simp only [Act.put, List.setIfInBounds_toArray, List.set_cons_zero, List.set_cons_succ]
  refine wpE_takeW (W := fun j => [9, 10, 12].contains j) (i := 3) (v := .slice ao f cap) rfl (by kernel_rfl) (by kernel_rfl) (by kernel_rfl) (by kernel_rfl) (fun j hj => by simp at hj; show j < 13; omega) (fun _ _ _ h => h) rfl (fun w' hS => by go_simp) hS0 ?_
  try simp only [Act.put, List.setIfInBounds_toArray, List.set_cons_zero, List.set_cons_succ]
  refine wpE_takeW (W := fun j => [9, 10, 12].contains j) (i := 4) (v := .slice ax xs.length cx) rfl (by kernel_rfl) (by kernel_rfl) (by kernel_rfl) (by kernel_rfl) (fun j hj => by simp at hj; show j < 13; omega) (fun _ _ _ h => h) rfl (fun w' hS => by go_simp) hS0 ?_
  try simp only [Act.put, List.setIfInBounds_toArray, List.set_cons_zero, List.set_cons_succ]
  refine wpE_takeW (W := fun j => [6, 8, 9, 10, 12].contains j) (i := 5) (v := .pointer (some ⟨w.heap.size, 3, none⟩)) rfl (by kernel_rfl) (by kernel_rfl) (by kernel_rfl) (by kernel_rfl) (fun j hj => by simp at hj; show j < 13; omega) (fun _ _ _ h => h) rfl (fun w' hS => by go_simp) hS0 ?_
  try simp only [Act.put, List.setIfInBounds_toArray, List.set_cons_zero, List.set_cons_succ]
  refine wpE_takeW (W := fun j => [8, 9, 10, 12].contains j) (i := 6) (v := .slice ao v.l.length cap) rfl (by kernel_rfl) (by kernel_rfl) (by kernel_rfl) (by kernel_rfl) (fun j hj => by simp at hj; show j < 13; omega) (fun _ _ _ h => h) rfl (fun w' hS => by go_simp) hS0 ?_
  try simp only [Act.put, List.setIfInBounds_toArray, List.set_cons_zero, List.set_cons_succ]
  refine wpE_takeW (W := fun j => [8, 9, 10, 12].contains j) (i := 7) (v := .int .i64 t) rfl (by kernel_rfl) (by kernel_rfl) (by kernel_rfl) (by kernel_rfl) (fun j hj => by simp at hj; show j < 13; omega) (fun _ _ _ h => h) rfl (fun w' hS => by go_simp) hS0 ?_
  try simp only [Act.put, List.setIfInBounds_toArray, List.set_cons_zero, List.set_cons_succ]
  refine wpE_takeW (W := fun j => [9, 10, 12].contains j) (i := 8) (v := .slice (cutA ao t cap) (v.l.length - t) (cap - t)) rfl (by kernel_rfl) (by kernel_rfl) (by kernel_rfl) (by kernel_rfl) (fun j hj => by simp at hj; show j < 13; omega) (fun _ _ _ h => h) rfl (fun w' hS => by go_simp) hS0 ?_
  try simp only [Act.put, List.setIfInBounds_toArray, List.set_cons_zero, List.set_cons_succ]
  refine wpE_one (i := 9) (by kernel_rfl) rfl rfl (fun K hK => ?_)
  go_simp
  refine hK _ _ (fun _ => ka3) ?_
  clear hK K
  try simp only [Act.put, List.setIfInBounds_toArray, List.set_cons_zero, List.set_cons_succ]
  refine wpE_one (i := 10) (by kernel_rfl) rfl rfl (fun K hK => ?_)
  go_simp
  refine (hL _ (Below.refl _ _).drew).mono ?_
  rintro e w5 ⟨⟨a5, c5, rfl, h5⟩, hb5⟩
  replace hb5 : Below wa.heap.size wa w5 := below_undrew hb5
  have k5 : w5.heap[w.heap.size]? = some (.cells #[.int .i64 v.k, .int .i64 v.n, .string ⟨v.t.toArray⟩, .slice ao v.l.length cap] 31) := (hb5.block _ (by omega)).trans ((hba.block _ (by omega)).trans hbox1)
  obtain ⟨b0, b1, b2, b3, z0, z1, z2, z3⟩ := cells_of4 k5
  refine hK _ _ (fun _ => b3) ?_
  clear hK K
  try simp only [Act.put, List.setIfInBounds_toArray, List.set_cons_zero, List.set_cons_succ]
  refine wpE_one (i := 11) (by kernel_rfl) rfl rfl (fun K hK => ?_)
  go_simp
  refine hK _ _ (fun _ => b3) ?_
  clear hK K
  try simp only [Act.put, List.setIfInBounds_toArray, List.set_cons_zero, List.set_cons_succ]
  refine wpE_one (i := 12) (by kernel_rfl) rfl rfl (fun K hK => ?_)
  go_simp
  refine hK _ _ (fun h => by cases h) ?_
  clear hK K
  try simp only [Act.put, List.setIfInBounds_toArray, List.set_cons_zero, List.set_cons_succ]
  refine wpE_done (by kernel_rfl) ?_
  have hw1 : Below w1.heap.size w1 w5 := hba.trans (hb5.mono hba.size)
  have hBw5 : Below w.heap.size w w5 := hB1.trans (hw1.mono (by omega))
  obtain ⟨r0, r1, r2, r3, s0, s1, s2, s3, hz⟩ := hr w5 hw1
  have hsz5 := hb5.size
  obtain ⟨w6, hW6⟩ : ∃ w6, w5.setCell ⟨w.heap.size, 3, none⟩ (.slice a5 (spl v.l f t xs).length c5) = w6 := ⟨_, rfl⟩
  have k6 : w6.heap[w.heap.size]? = some (.cells #[.int .i64 v.k, .int .i64 v.n, .string ⟨v.t.toArray⟩, .slice a5 (spl v.l f t xs).length c5] 31) := by rw [← hW6]; exact set_3 k5 _
  have hB6 : Below w.heap.size w w6 := by rw [← hW6]; exact hBw5.setCell (p := ⟨w.heap.size, 3, none⟩) (Nat.le_refl _) _
  have hs6 : w6.heap.size = w5.heap.size := by rw [← hW6]; simp [World.setCell]
  have ho6 : ∀ k, k ≠ w.heap.size → w6.heap[k]? = w5.heap[k]? := fun k hk => by rw [← hW6]; exact Below.heap_setCell _ _ _ _ hk
  have hc6 : ∀ o, w6.cell? ⟨w.heap.size + 1, o, none⟩ = w5.cell? ⟨w.heap.size + 1, o, none⟩ := fun o => World.cell?_of_block (ho6 (w.heap.size + 1) (by omega))
  have hf6 : ∀ o, w6.frozen? ⟨w.heap.size + 1, o, none⟩ = w5.frozen? ⟨w.heap.size + 1, o, none⟩ := fun o => World.frozen?_of_block (ho6 (w.heap.size + 1) (by omega))
  rw [← hc6] at r0 r1 r2 r3
  rw [← hf6] at s0 s1 s2 s3
  have h6 : IsVs (fun k => (B k ∧ k < w.heap.size) ∨ wa.heap.size ≤ k) w6 (spl v.l f t xs) (.slice a5 (spl v.l f t xs).length c5) := h5.since ⟨by omega, fun k h1 _ => ho6 k (by omega)⟩
  obtain ⟨q0, q1', q2', q3, -⟩ := cells_of4 k6
  have hz6 : w.heap.size + 1 < w6.heap.size := by omega
  have hfin : IsVs (Up B w.heap.size) (set4 w6 (w.heap.size + 1) (.int .i64 v.k) (.int .i64 v.n) (.string ⟨v.t.toArray⟩) (.slice a5 (spl v.l f t xs).length c5)) (spl v.l f t xs) (.slice a5 (spl v.l f t xs).length c5) := (h6.since (since_set4 (by show ¬ ((B (w.heap.size + 1) ∧ w.heap.size + 1 < w.heap.size) ∨ wa.heap.size ≤ w.heap.size + 1); omega) _ _ _ _)).base (fun k hk _ => by
    rcases hk with hk | hk
    · exact Or.inl hk
    · exact Or.inr (by omega))
  rw [hW6]
  clear hr h5 h6 hL q1 q2 b0 b1 b2 b3 z0 z1 z2 z3 k5 hc6 hf6 ho6 hW6
  simp only [Exit.then]
  refine ‹∀ (a : Act) (w : World), _ → _› _ _ ?_
  go_wp2_with fail
  exact bodyPost_ret (v := .agg #[.int .i64 v.k, .int .i64 v.n, .string ⟨v.t.toArray⟩, .slice a5 (spl v.l f t xs).length c5]) (by simp [results, Tryz.results97, go_sem, hz6, r0, r1, r2, r3]) rfl ⟨⟨a5, c5, rfl, hfin⟩, below_set4 hB6 (by omega) _ _ _ _⟩
end Go.Proofs.YtnijcolomoobnaaGreatDoor
