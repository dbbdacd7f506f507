/- Where an element, or a key's value, stands: the program's place; Has and Len. -/
import Derived.Test.YtkbplffckkjbfaaVfe
import Derived.Deep.QuietTactic
namespace Go.Proofs.Ytkbplffckkjbfaa
open Go.RowKit
set_option linter.unusedVariables false
set_option linter.unusedSimpArgs false
attribute [local go_sem ↓] Go.wp_at_zero Go.wp_at_succ

theorem ret_two {k k' : IntKind} {a b c d : Int} (h : a = b) (h' : c = d) : Ending.returned (.tuple #[.int k a, .int k' c]) = .returned (.tuple #[.int k b, .int k' d]) := by rw [h, h']
set_option maxRecDepth 100000 in
set_option maxHeartbeats 1000000 in
theorem place_any {B : Nat → Prop} {v k : V} {ao ak : Option Addr} {cap ck : Nat} {w : World} (hv : IsW B w v (.slice ao v.l.length cap)) (hk : IsW B w k (.slice ak k.l.length ck)) (hn : v.l.length ≤ 1000000) (ht : Tidy v) :
    Calls Try.prog 57 #[.agg #[.int .i64 v.k, .int .i64 v.n, .string ⟨v.t.toArray⟩, .slice ao v.l.length cap], .agg #[.int .i64 k.k, .int .i64 k.n, .string ⟨k.t.toArray⟩, .slice ak k.l.length ck]] w fun r w' => r = .returned (.tuple #[.int .i64 ((plV v k).1 : Nat), .int .i64 (plV v k).2]) ∧ Below w.heap.size w w' := by
  obtain ⟨w0, w1, hW, hW1, hs0, hs1, hB, d0, d1, d2, d3, e0, e1, e2, e3⟩ := boxed2 w v (.slice ao v.l.length cap) k (.slice ak k.l.length ck)
  by_cases h4 : v.k = 4
  · by_cases k1 : k.k = 1
    · have hk4 : (v.k == 4) = true := by simp [h4]
      have hk1 : (k.k == 1) = true := by simp [k1]
      have hfin : plV v k = if 0 ≤ k.n ∧ k.n < v.l.length then (k.n.toNat, 0) else (0, 52) := by unfold plV; rw [if_pos ⟨h4, k1⟩]
      have hkr := hk.nr
      clear hv hk
      rw [h4] at d0 hW
      rw [k1] at e0 hW1
      by_cases a1 : 0 ≤ k.n
      · by_cases a2 : k.n < (v.l.length : Int)
        · rw [if_pos ⟨a1, a2⟩] at hfin
          have hfin' : Hid (plV v k = (k.n.toNat, 0)) := hfin
          clear hfin
          go_enter Try.func57, Try.ntmps57
          go_wp2_with fail
          go_quiet (fail)
          go_wp2
          go_ret2
          exact ⟨by rw [hfin'.out]; exact ret_two (by simp; omega) rfl, hB.trans ((below_drewN _ _).mono hB.size)⟩
        · rw [if_neg (fun h => a2 h.2)] at hfin
          have hfin' : Hid (plV v k = (0, 52)) := hfin
          have hd1 : decide (0 ≤ k.n) = true := by simp [a1]
          have hd2 : decide (k.n < (v.l.length : Int)) = false := by simp; omega
          clear hfin
          go_enter Try.func57, Try.ntmps57
          go_wp2_with fail
          go_quiet (fail)
          go_wp2
          go_ret2
          exact ⟨by rw [hfin'.out]; exact ret_two rfl rfl, hB.trans ((below_drewN _ _).mono hB.size)⟩
      · rw [if_neg (fun h => a1 h.1)] at hfin
        have hfin' : Hid (plV v k = (0, 52)) := hfin
        have hd1 : decide (0 ≤ k.n) = false := by simp; omega
        clear hfin
        go_enter Try.func57, Try.ntmps57
        go_wp2_with fail
        go_quiet (fail)
        go_wp2
        go_ret2
        exact ⟨by rw [hfin'.out]; exact ret_two rfl rfl, hB.trans ((below_drewN _ _).mono hB.size)⟩
    · have hfin : Hid (plV v k = (0, 40)) := by show _ = _; unfold plV; rw [if_neg (fun h => k1 h.2), if_neg (by omega)]
      have hk4 : (v.k == 4) = true := by simp [h4]
      have hk5 : (v.k == 5) = false := by simp; omega
      have hk1 : (k.k == 1) = false := by simp [k1]
      clear hv hk h4
      go_enter Try.func57, Try.ntmps57
      go_wp2
      go_ret2
      exact ⟨by rw [hfin.out]; exact ret_two rfl rfl, hB⟩
  · have hk4 : (v.k == 4) = false := by simp [h4]
    by_cases h5 : v.k = 5
    · have hk5 : (v.k == 5) = true := by simp [h5]
      obtain ⟨t1, t2⟩ := ht h5
      have hF := find_any (hv.below hB) (hk.below hB) hn t1 t2
      have hfin : Hid (plV v k = if hit k v.l = true then (2 * kat k v.l + 1, 0) else (0, 52)) := by show _ = _; unfold plV; rw [if_neg (fun h => h4 h.1), if_pos h5]
      have hle := kat_le k v.l
      clear hv hk h5
      generalize kat k v.l = q at *
      generalize hit k v.l = t at *
      go_enter Try.func57, Try.ntmps57
      go_wp2_with fail
      refine hF.mono ?_
      rintro e w2 ⟨rfl, hb2⟩
      have hB2 : Below w.heap.size w w2 := hB.trans (hb2.mono hB.size)
      clear hF
      cases t
      · go_wp2
        go_ret2
        exact ⟨by rw [hfin.out]; exact ret_two rfl rfl, hB2⟩
      · go_wp2
        go_ret2
        exact ⟨by rw [hfin.out]; exact ret_two (by simp) rfl, hB2⟩
    · have hk5 : (v.k == 5) = false := by simp [h5]
      have hfin : Hid (plV v k = (0, 40)) := by show _ = _; unfold plV; rw [if_neg (fun h => h4 h.1), if_neg h5]
      clear hv hk
      go_enter Try.func57, Try.ntmps57
      go_wp2
      go_ret2
      exact ⟨by rw [hfin.out]; exact ret_two rfl rfl, hB⟩
set_option maxRecDepth 100000 in
set_option maxHeartbeats 1000000 in
theorem has_any {B : Nat → Prop} {v k : V} {ao ak : Option Addr} {cap ck : Nat} {w : World} (hv : IsW B w v (.slice ao v.l.length cap)) (hk : IsW B w k (.slice ak k.l.length ck)) (hn : v.l.length ≤ 1000000) (ht : Tidy v) :
    Calls Try.prog 33 #[.agg #[.int .i64 v.k, .int .i64 v.n, .string ⟨v.t.toArray⟩, .slice ao v.l.length cap], .agg #[.int .i64 k.k, .int .i64 k.n, .string ⟨k.t.toArray⟩, .slice ak k.l.length ck]] w fun r w' => r = .returned (.tuple #[.bool (decide (v.k = 5) && hit k v.l), .int .i64 (if v.k = 5 then 0 else 40)]) ∧ Below w.heap.size w w' := by
  obtain ⟨w0, w1, hW, hW1, hs0, hs1, hB, d0, d1, d2, d3, e0, e1, e2, e3⟩ := boxed2 w v (.slice ao v.l.length cap) k (.slice ak k.l.length ck)
  by_cases h5 : v.k = 5
  · have hk5 : (v.k != 5) = false := by simp [h5]
    obtain ⟨t1, t2⟩ := ht h5
    have hF := find_any (hv.below hB) (hk.below hB) hn t1 t2
    have hfin : Hid (v.k = 5) := h5
    clear hv hk h5
    generalize kat k v.l = q at *
    generalize hit k v.l = t at *
    go_enter Try.func33, Try.ntmps33
    go_wp2_with fail
    refine hF.mono ?_
    rintro e w2 ⟨rfl, hb2⟩
    have hB2 : Below w.heap.size w w2 := hB.trans (hb2.mono hB.size)
    clear hF
    go_wp2
    go_ret2
    exact ⟨by simp [hfin.out], hB2⟩
  · have hk5 : (v.k != 5) = true := by simp [h5]
    clear hv hk
    go_enter Try.func33, Try.ntmps33
    go_wp2
    go_ret2
    exact ⟨by simp [h5], hB⟩
set_option maxRecDepth 100000 in
set_option maxHeartbeats 1000000 in
theorem len_any {B : Nat → Prop} {v : V} {ao : Option Addr} {cap : Nat} {w : World} (hv : IsW B w v (.slice ao v.l.length cap)) :
    Calls Try.prog 29 #[.agg #[.int .i64 v.k, .int .i64 v.n, .string ⟨v.t.toArray⟩, .slice ao v.l.length cap]] w fun r w' => r = .returned (.tuple #[.int .i64 ((lenV v).1 : Nat), .int .i64 (lenV v).2]) ∧ Below w.heap.size w w' := by
  obtain ⟨w0, hW, hb0, hsz, d0, d1, d2, d3⟩ := boxed w v (.slice ao v.l.length cap)
  have hP := prs_any (hv.below hb0)
  have htx := hv.txt
  clear hv
  by_cases h3 : v.k = 3
  · have hk3 : (v.k == 3) = true := by simp [h3]
    have hfin : Hid (lenV v = (v.t.length, 0)) := by show _ = _; unfold lenV; rw [if_pos h3]
    clear hP h3
    go_enter Try.func29, Try.ntmps29
    go_wp2
    go_ret2
    exact ⟨by rw [hfin.out]; exact ret_two (by simp) rfl, hb0⟩
  · have hk3 : (v.k == 3) = false := by simp [h3]
    by_cases h4 : v.k = 4
    · have hk4 : (v.k == 4) = true := by simp [h4]
      have hfin : Hid (lenV v = (v.l.length, 0)) := by show _ = _; unfold lenV; rw [if_neg h3, if_pos h4]
      clear hP h4
      go_enter Try.func29, Try.ntmps29
      go_wp2
      go_ret2
      exact ⟨by rw [hfin.out]; exact ret_two (by simp) rfl, hb0⟩
    · have hk4 : (v.k == 4) = false := by simp [h4]
      by_cases h5 : v.k = 5
      · have hk5 : (v.k == 5) = true := by simp [h5]
        have hfin : Hid (lenV v = (v.l.length / 2, 0)) := by show _ = _; unfold lenV; rw [if_neg h3, if_neg h4, if_pos h5]
        clear h5
        generalize hL : v.l.length / 2 = m at *
        go_enter Try.func29, Try.ntmps29
        go_wp2_with fail
        refine hP.mono ?_
        rintro e w2 ⟨rfl, hb2⟩
        have hB2 : Below w.heap.size w w2 := hb0.trans (hb2.mono hb0.size)
        clear hP
        go_wp2
        go_ret2
        exact ⟨by rw [hfin.out]; exact ret_two rfl rfl, hB2⟩
      · have hk5 : (v.k == 5) = false := by simp [h5]
        have hfin : Hid (lenV v = (0, 40)) := by show _ = _; unfold lenV; rw [if_neg h3, if_neg h4, if_neg h5]
        clear hP
        go_enter Try.func29, Try.ntmps29
        go_wp2
        go_ret2
        exact ⟨by rw [hfin.out]; exact ret_two rfl rfl, hb0⟩
end Go.Proofs.Ytkbplffckkjbfaa
