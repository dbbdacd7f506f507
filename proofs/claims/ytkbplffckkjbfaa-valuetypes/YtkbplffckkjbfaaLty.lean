/- The statement of types walked. -/
import Derived.Test.YtkbplffckkjbfaaRo3
import Derived.Test.YtkbplffckkjbfaaLor
namespace Go.Proofs.Ytkbplffckkjbfaa
open Go.RowKit
set_option linter.unusedVariables false
set_option linter.unusedSimpArgs false
attribute [local go_sem ↓] Go.wp_at_zero Go.wp_at_succ

theorem same_self (k n : Int) (t : List UInt8) (hk : InR k) (hn : InR n) (ht : t.length ≤ maxLen) (w : World) : Calls Try.prog 11 #[.agg #[.int .i64 k, .int .i64 n, .string ⟨t.toArray⟩, .slice none 0 0], .agg #[.int .i64 k, .int .i64 n, .string ⟨t.toArray⟩, .slice none 0 0]] w fun r w' => r = .returned (.bool true) ∧ Below w.heap.size w w' := by
  have := rsame_any (B := Any) (a := .mk k n t []) (b := .mk k n t []) (sa := .slice none 0 0) (sb := .slice none 0 0) (w := w) ⟨ht, hk, hn, IsVs.nil⟩ ⟨ht, hk, hn, IsVs.nil⟩
  rw [cmpV_self] at this
  exact this
theorem el_ne (l : List UInt8) : ((elT l).1 == []) = !(elT l).2 := by
  unfold elT
  rcases tyOf l with _ | T
  · rfl
  · cases T with
    | list t => obtain ⟨c, r, hc, -⟩ := tyT_first t; simp [hc]
    | _ => rfl
theorem mp_ne (l : List UInt8) : ((mpT l).1 == []) = !(mpT l).2.2 := by
  unfold mpT
  rcases tyOf l with _ | T
  · rfl
  · cases T with
    | map k t => cases k <;> rfl
    | _ => rfl
theorem kdOf_r (l : List UInt8) : InR (kdOf l) := by
  unfold kdOf InR
  rcases tyOf l with _ | T
  · simp
  · cases T <;> simp [kd]
set_option maxRecDepth 100000 in
set_option maxHeartbeats 8000000 in
theorem types_walk {l : List UInt8} (hl : l.length ≤ 9223372036854775807) {v : V} {ao : Option Addr} {cap : Nat} {w : World} (hv : IsW Any w v (.slice ao v.l.length cap)) (hz : SzV v) :
    Calls Try.prog 3 #[.string ⟨l.toArray⟩, .agg #[.int .i64 v.k, .int .i64 v.n, .string ⟨v.t.toArray⟩, .slice ao v.l.length cap]] w fun r w' => r = .returned (.bool true) ∧ Below w.heap.size w w' := by
  obtain ⟨W, hW, hBW, hsW, d0, d1, d2, d3⟩ := boxed w v (.slice ao v.l.length cap)
  replace hv := hv.below hBW
  have hBf : ∀ w', Below W.heap.size W w' → Below w.heap.size w w' := fun w' h => hBW.trans (h.mono hBW.size)
  have hgb : w.heap.size < W.heap.size := by omega
  have hcell : ∀ w', Below W.heap.size W w' → w'.cell? ⟨w.heap.size, 0, none⟩ = some (.int .i64 v.k) ∧ w'.cell? ⟨w.heap.size, 1, none⟩ = some (.int .i64 v.n) ∧ w'.cell? ⟨w.heap.size, 2, none⟩ = some (.string ⟨v.t.toArray⟩) ∧ w'.cell? ⟨w.heap.size, 3, none⟩ = some (.slice ao v.l.length cap) := fun w' h => by
    obtain ⟨f, -⟩ := bcell h
    exact ⟨by rw [f _ _ hgb]; exact d0, by rw [f _ _ hgb]; exact d1, by rw [f _ _ hgb]; exact d2, by rw [f _ _ hgb]; exact d3⟩
  have up : ∀ w2 w', Below W.heap.size W w2 → Below w2.heap.size w2 w' → Below W.heap.size W w' := fun w2 w' h1 h2 => h1.trans (h2.mono h1.size)
  have hWk := wakes_any W
  have hL : ∀ w2, Below W.heap.size W w2 → Calls Try.prog 10 #[.agg #[.int .i64 v.k, .int .i64 v.n, .string ⟨v.t.toArray⟩, .slice ao v.l.length cap]] w2 fun r w' => r = .returned (.bool (decide (65536 < wt v))) ∧ Below W.heap.size W w' := fun w2 hb2 => (large_any hz (hv.below hb2)).mono (fun r w' h => ⟨h.1, up _ _ hb2 h.2⟩)
  go_enter Try.func3, Try.ntmps3
  go_wp2_with fail
  refine hWk.mono ?_
  rintro e w3 ⟨rfl, hbX⟩
  obtain ⟨p0, p1, p2, p3⟩ := hcell w3 hbX
  clear hW hWk
  go_wp2_with fail
  refine (hL w3 hbX).mono ?_
  rintro e w4 ⟨rfl, hbX4⟩
  clear hL hbX p0 p1 p2 p3 d0 d1 d2 d3
  obtain ⟨p0, p1, p2, p3⟩ := hcell w4 hbX4
  by_cases hla : 65536 < wt v
  · rw [decide_eq_true hla]
    go_wp2
    go_ret
    exact ⟨rfl, hBf _ hbX4⟩
  rw [decide_eq_false hla]
  have hwt := wt_eq v
  have htl : v.t.length ≤ 281474976710656 := by omega
  obtain ⟨b, hb⟩ : ∃ b, (v.n == 1) = b := ⟨_, rfl⟩
  obtain ⟨nb, hnb, hnr⟩ : ∃ nb : Int, (if b then 1 else 0 : Int) = nb ∧ InR nb := ⟨_, rfl, by unfold InR; cases b <;> simp⟩
  have hBo : ∀ w2, Below W.heap.size W w2 → Calls Try.prog 12 #[.bool b] w2 fun e w' => e = .returned (.agg #[.int .i64 2, .int .i64 nb, .string ⟨#[]⟩, .slice none 0 0]) ∧ Below W.heap.size W w' := fun w2 hb2 => (bool_any b w2).mono (fun r w' h => by rw [hnb] at h; exact ⟨h.1, up _ _ hb2 h.2⟩)
  have hFl : ∀ w2, Calls Try.prog 13 #[.bool b] w2 fun e w' => e = .returned (.int .i64 nb) ∧ w' = w2 := fun w2 => by rw [← hnb]; exact flag_any b w2
  have hIn : ∀ w2, Below W.heap.size W w2 → Calls Try.prog 14 #[.int .i64 v.n] w2 fun e w' => e = .returned (.agg #[.int .i64 1, .int .i64 v.n, .string ⟨#[]⟩, .slice none 0 0]) ∧ Below W.heap.size W w' := fun w2 hb2 => (int_any v.n w2).mono (fun r w' h => ⟨h.1, up _ _ hb2 h.2⟩)
  have hTx : ∀ w2, Below W.heap.size W w2 → Calls Try.prog 15 #[.string ⟨v.t.toArray⟩] w2 fun e w' => e = .returned (.agg #[.int .i64 3, .int .i64 0, .string ⟨v.t.toArray⟩, .slice none 0 0]) ∧ Below W.heap.size W w' := fun w2 hb2 => (text_any v.t htl w2).mono (fun r w' h => ⟨h.1, up _ _ hb2 h.2⟩)
  have r0 : InR 0 := by unfold InR; omega
  have r1 : InR 1 := by unfold InR; omega
  have r2 : InR 2 := by unfold InR; omega
  have r3 : InR 3 := by unfold InR; omega
  have tn : ([] : List UInt8).length ≤ maxLen := by simp
  have hS1 : ∀ w2, Below W.heap.size W w2 → Calls Try.prog 11 #[.agg #[.int .i64 2, .int .i64 nb, .string ⟨#[]⟩, .slice none 0 0], .agg #[.int .i64 2, .int .i64 nb, .string ⟨#[]⟩, .slice none 0 0]] w2 fun r w' => r = .returned (.bool true) ∧ Below W.heap.size W w' := fun w2 hb2 => (same_self 2 nb [] r2 hnr tn w2).mono (fun r w' h => ⟨h.1, up _ _ hb2 h.2⟩)
  have hS2 : ∀ w2, Below W.heap.size W w2 → Calls Try.prog 11 #[.agg #[.int .i64 1, .int .i64 v.n, .string ⟨#[]⟩, .slice none 0 0], .agg #[.int .i64 1, .int .i64 v.n, .string ⟨#[]⟩, .slice none 0 0]] w2 fun r w' => r = .returned (.bool true) ∧ Below W.heap.size W w' := fun w2 hb2 => (same_self 1 v.n [] r1 hv.nr tn w2).mono (fun r w' h => ⟨h.1, up _ _ hb2 h.2⟩)
  have hS3 : ∀ w2, Below W.heap.size W w2 → Calls Try.prog 11 #[.agg #[.int .i64 3, .int .i64 0, .string ⟨v.t.toArray⟩, .slice none 0 0], .agg #[.int .i64 3, .int .i64 0, .string ⟨v.t.toArray⟩, .slice none 0 0]] w2 fun r w' => r = .returned (.bool true) ∧ Below W.heap.size W w' := fun w2 hb2 => (same_self 3 0 v.t r3 r0 hv.txt w2).mono (fun r w' h => ⟨h.1, up _ _ hb2 h.2⟩)
  have hS4 : ∀ w2, Below W.heap.size W w2 → Calls Try.prog 11 #[.agg #[.int .i64 (kdOf l), .int .i64 0, .string ⟨#[]⟩, .slice none 0 0], .agg #[.int .i64 (kdOf l), .int .i64 0, .string ⟨#[]⟩, .slice none 0 0]] w2 fun r w' => r = .returned (.bool true) ∧ Below W.heap.size W w' := fun w2 hb2 => (same_self (kdOf l) 0 [] (kdOf_r l) r0 tn w2).mono (fun r w' h => ⟨h.1, up _ _ hb2 h.2⟩)
  have hLi : ∀ w2, Below W.heap.size W w2 → Calls Try.prog 16 #[.string ⟨l.toArray⟩] w2 fun e w' => e = .returned (.tuple #[.string ⟨(elT l).1.toArray⟩, .bool (elT l).2]) ∧ Below W.heap.size W w' := fun w2 hb2 => (list_any l hl w2).mono (fun r w' h => ⟨h.1, up _ _ hb2 h.2⟩)
  have hRLi := fun w2 => rlist_any l hl w2
  have hMa : ∀ w2, Below W.heap.size W w2 → Calls Try.prog 17 #[.string ⟨l.toArray⟩] w2 fun e w' => e = .returned (.tuple #[.string ⟨(mpT l).1.toArray⟩, .string ⟨(mpT l).2.1.toArray⟩, .bool (mpT l).2.2]) ∧ Below W.heap.size W w' := fun w2 hb2 => (map_any l hl w2).mono (fun r w' h => ⟨h.1, up _ _ hb2 h.2⟩)
  have hRMa : ∀ w2, Below W.heap.size W w2 → Calls Try.prog 18 #[.string ⟨l.toArray⟩] w2 fun e w' => e = .returned (.tuple #[.string ⟨(mpT l).1.toArray⟩, .string ⟨(mpT l).2.1.toArray⟩]) ∧ Below W.heap.size W w' := fun w2 hb2 => (rmap_any l hl w2).mono (fun r w' h => ⟨h.1, up _ _ hb2 h.2⟩)
  have hZe : ∀ w2, Below W.heap.size W w2 → Calls Try.prog 20 #[.string ⟨l.toArray⟩] w2 fun e w' => e = .returned (.agg #[.int .i64 (kdOf l), .int .i64 0, .string ⟨#[]⟩, .slice none 0 0]) ∧ Below W.heap.size W w' := fun w2 hb2 => (zero_any l hl w2).mono (fun r w' h => ⟨h.1, up _ _ hb2 h.2⟩)
  have hRZe : ∀ w2, Below W.heap.size W w2 → Calls Try.prog 21 #[.string ⟨l.toArray⟩] w2 fun e w' => e = .returned (.agg #[.int .i64 (kdOf l), .int .i64 0, .string ⟨#[]⟩, .slice none 0 0]) ∧ Below W.heap.size W w' := fun w2 hb2 => (rzero_any l hl w2).mono (fun r w' h => ⟨h.1, up _ _ hb2 h.2⟩)
  have hFi : ∀ w2, Below W.heap.size W w2 → Calls Try.prog 22 #[.agg #[.int .i64 v.k, .int .i64 v.n, .string ⟨v.t.toArray⟩, .slice ao v.l.length cap], .string ⟨l.toArray⟩] w2 fun r w' => r = .returned (.bool (fitS l v)) ∧ Below W.heap.size W w' := fun w2 hb2 => (fits_any hl (hv.below hb2) (by omega)).mono (fun r w' h => ⟨h.1, up _ _ hb2 h.2⟩)
  have hRFi : ∀ w2, Below W.heap.size W w2 → Calls Try.prog 23 #[.agg #[.int .i64 v.k, .int .i64 v.n, .string ⟨v.t.toArray⟩, .slice ao v.l.length cap], .string ⟨l.toArray⟩] w2 fun r w' => r = .returned (.bool (fitS l v)) ∧ Below W.heap.size W w' := fun w2 hb2 => (rfits_any hl (hv.below hb2) (by omega)).mono (fun r w' h => ⟨h.1, up _ _ hb2 h.2⟩)
  have q1 := el_ne l
  have q2 := mp_ne l
  clear hwt hla hv hz htl hnb hnr r0 r1 r2 r3 tn up
  generalize (elT l).1 = y1 at *
  generalize (elT l).2 = b1 at *
  generalize (mpT l).1 = y2 at *
  generalize (mpT l).2.1 = y3 at *
  generalize (mpT l).2.2 = b2 at *
  generalize kdOf l = kz at *
  generalize fitS l v = ft at *
  have hbX := hbX4
  go_wp2_with fail
  go_region_held3 (fun w' => w'.cell? ⟨w.heap.size, 0, none⟩ = some (.int .i64 v.k) ∧ w'.cell? ⟨w.heap.size, 1, none⟩ = some (.int .i64 v.n) ∧ w'.cell? ⟨w.heap.size, 2, none⟩ = some (.string ⟨v.t.toArray⟩) ∧ w'.cell? ⟨w.heap.size, 3, none⟩ = some (.slice ao v.l.length cap)) (exact hcell _ (by first | exact hbX | exact hbX.drew))
    (first
      | (go_at_call 12; refine (hBo _ (by first | exact hbX | exact hbX.drew)).mono ?_; rintro e w8 ⟨rfl, hbX⟩)
      | (go_at_call 13; refine (hFl _).mono ?_; rintro e w8 ⟨rfl, rfl⟩)
      | (go_at_call 11; refine (hS1 _ (by first | exact hbX | exact hbX.drew)).mono ?_; rintro e w8 ⟨rfl, hbX⟩)
      | (go_at_call 14; refine (hIn _ (by first | exact hbX | exact hbX.drew)).mono ?_; rintro e w8 ⟨rfl, hbX⟩)
      | (go_at_call 11; refine (hS2 _ (by first | exact hbX | exact hbX.drew)).mono ?_; rintro e w8 ⟨rfl, hbX⟩)
      | (go_at_call 15; refine (hTx _ (by first | exact hbX | exact hbX.drew)).mono ?_; rintro e w8 ⟨rfl, hbX⟩)
      | (go_at_call 11; refine (hS3 _ (by first | exact hbX | exact hbX.drew)).mono ?_; rintro e w8 ⟨rfl, hbX⟩))
  clear p0 p1 p2 p3 hBo hFl hIn hTx hS1 hS2 hS3 hb hbX4
  go_wp2_with fail
  refine (hLi _ hbX).mono ?_
  rintro e w9 ⟨rfl, hbX9⟩
  go_wp2_with fail
  refine (hMa _ hbX9).mono ?_
  rintro e w10 ⟨rfl, hbX10⟩
  go_wp2_with fail
  refine (hRMa _ hbX10).mono ?_
  rintro e w11 ⟨rfl, hbX11⟩
  clear hLi hMa hRMa hbX9 hbX10
  have q3 : (y1 != []) = b1 := by show (!(y1 == [])) = b1; rw [q1]; simp
  have q4 : (y2 != []) = b2 := by show (!(y2 == [])) = b2; rw [q2]; simp
  obtain ⟨p0, p1, p2, p3⟩ := hcell w11 hbX11
  have hbX := hbX11
  go_wp2_with fail
  go_region_held3 (fun w' => w'.cell? ⟨w.heap.size, 0, none⟩ = some (.int .i64 v.k) ∧ w'.cell? ⟨w.heap.size, 1, none⟩ = some (.int .i64 v.n) ∧ w'.cell? ⟨w.heap.size, 2, none⟩ = some (.string ⟨v.t.toArray⟩) ∧ w'.cell? ⟨w.heap.size, 3, none⟩ = some (.slice ao v.l.length cap)) (exact hcell _ (by first | exact hbX | exact hbX.drew))
    (first
      | (go_at_call 19; refine (hRLi _).mono ?_; rintro e w12 ⟨rfl, rfl⟩)
      | (go_at_call 20; refine (hZe _ (by first | exact hbX | exact hbX.drew)).mono ?_; rintro e w12 ⟨rfl, hbX⟩)
      | (go_at_call 21; refine (hRZe _ (by first | exact hbX | exact hbX.drew)).mono ?_; rintro e w12 ⟨rfl, hbX⟩)
      | (go_at_call 11; refine (hS4 _ (by first | exact hbX | exact hbX.drew)).mono ?_; rintro e w12 ⟨rfl, hbX⟩)
      | (go_at_call 22; refine (hFi _ (by first | exact hbX | exact hbX.drew)).mono ?_; rintro e w12 ⟨rfl, hbX⟩)
      | (go_at_call 23; refine (hRFi _ (by first | exact hbX | exact hbX.drew)).mono ?_; rintro e w12 ⟨rfl, hbX⟩))
  all_goals
    go_wp2
    go_ret
    exact ⟨ret_bool (by simp), hBf _ hbX⟩
end Go.Proofs.Ytkbplffckkjbfaa
