/- Put and numbers: the program's. -/
import Derived.Test.YtkbplffckkjbfaaVpk
import Derived.Laws.MakeOwn
namespace Go.Proofs.Ytkbplffckkjbfaa
open Go.RowKit
set_option linter.unusedVariables false
set_option linter.unusedSimpArgs false

/-- Numbers that lie in a block. -/
def IntsAt (w : World) (g : Nat) (xs : List Int) : Prop := g < w.heap.size ∧ ∀ q x, xs[q]? = some x → w.cell? ⟨g, q, none⟩ = some (.int .i64 x)
theorem IntsAt.below {w w' : World} {g : Nat} {xs : List Int} (h : IntsAt w g xs) (hb : Below w.heap.size w w') : IntsAt w' g xs := ⟨by have := hb.size; have := h.1; omega, fun q x hq => ((bcell hb).1 g q h.1).trans (h.2 q x hq)⟩
theorem nums_take_succ {xs : List Int} {i : Nat} {x : Int} (h : xs[i]? = some x) : nums (xs.take (i + 1)) = nums (xs.take i) ++ num x.toNat := by
  obtain ⟨hi, rfl⟩ := List.getElem?_eq_some_iff.1 h
  rw [List.take_succ_eq_append_getElem hi]
  unfold nums
  rw [List.flatMap_append]
  simp
theorem nums_len : ∀ xs : List Int, (∀ x ∈ xs, InR x) → (nums xs).length ≤ 9 * xs.length
  | [], _ => by simp [nums]
  | x :: r, h => by
    have h1 := num_len10 (n := x.toNat) (by have := (h x (by simp)).2; omega)
    have h2 := nums_len r (fun y hy => h y (by simp [hy]))
    simp [nums] at h2 ⊢; omega
set_option maxRecDepth 100000 in
set_option maxHeartbeats 2000000 in
theorem put_nil {g : Nat} {xs : List Int} {w : World} (hxs : IntsAt w g xs) (hr : ∀ x ∈ xs, InR x) (hm : xs.length ≤ 2) :
    Calls Try.prog 97 #[.slice none 0 0, .slice (some ⟨g, 0, none⟩) xs.length xs.length] w fun r w' => (∃ ao cap, r = .returned (.slice ao (nums xs).length cap) ∧ w'.ownsRow w.heap.size 5 1 (.slice ao (nums xs).length cap) (nums xs).length (c8 (nums xs))) ∧ Below w.heap.size w w' := by
  have hsize : ∀ q x, xs[q]? = some x → Calls Try.prog 107 #[.int .i64 x] w fun r w' => (∃ m : Nat, r = .returned (.int .i64 m) ∧ m ≤ 9) ∧ w' = w := fun q x h => size_any x (hr x (List.mem_of_getElem? h)) w
  have hstart : ∀ n : Nat, n ≤ 100 → ∃ w1 ao cap w2, (Instr.makeSlice 52 (.int .i64 0) (.int .i64 n)).run Try.prog w = .ok (.slice (some ⟨w.heap.size, 0, none⟩) 0 n) w1 ∧ (Builtin.append_ #[52, 52] 52 #[.slice (some ⟨w.heap.size, 0, none⟩) 0 n, .slice none 0 0]).run Try.prog w1 = .ok (.slice ao 0 cap) w2 ∧ w2.ownsRow w.heap.size 5 1 (.slice ao 0 cap) 0 (c8 []) ∧ Below w.heap.size w w2 := by
    intro n hn
    obtain ⟨i, hi, hz, hs, hb⟩ := info_parts byteInfo
    obtain ⟨w1, h1, h2, h3⟩ := run_make_own (P := Try.prog) w w.heap.size 52 5 i _ 1 Try.underlying52 hi hz hs .i64 .i64 n (by rw [hb]; omega) (by unfold maxLen; omega) (Nat.le_refl _)
    have hb1 : Below w.heap.size w w1 := (Below.refl _ _).grown h3 (Nat.le_refl _) (fun k hk => by cases hk)
    obtain ⟨ao, cap, w2, hr2, ho, hb2, _⟩ := app_run (news := []) Try.underlying52 byteInfo rfl (by decide) 52 (m := 0) (c := 0) (ad := none) h2 (by simp) (by simp) (by simp) (by simp) (by omega) (by decide) hb1.size
    exact ⟨w1, ao, cap, w2, h1, hr2, ho, hb1.trans hb2⟩
  have hput : ∀ (q : Nat) (x : Int) (wr : World) (ao : Option Addr) (cap : Nat), xs[q]? = some x → Below w.heap.size w wr → wr.ownsRow w.heap.size 5 1 (.slice ao (nums (xs.take q)).length cap) (nums (xs.take q)).length (c8 (nums (xs.take q))) →
      Calls Try.prog 108 #[.slice ao (nums (xs.take q)).length cap, .int .i64 (max x 0)] wr fun r w' => (∃ ao' cap', r = .returned (.slice ao' (nums (xs.take (q + 1))).length cap') ∧ w'.ownsRow w.heap.size 5 1 (.slice ao' (nums (xs.take (q + 1))).length cap') (nums (xs.take (q + 1))).length (c8 (nums (xs.take (q + 1))))) ∧ Below w.heap.size w w' := by
    intro q x wr ao cap hx hB ho
    have hxr := hr x (List.mem_of_getElem? hx)
    have hle := nums_len (xs.take q) (fun y hy => hr y (List.mem_of_mem_take hy))
    have hql : (xs.take q).length ≤ 2 := by simp; omega
    have hP := putOne_any (x := x.toNat) ho (by omega) (by have := hxr.2; omega) hB.size
    have e : ((x.toNat : Nat) : Int) = max x 0 := by omega
    rw [e] at hP
    have e2 : (nums (xs.take (q + 1))).length = (nums (xs.take q)).length + (num x.toNat).length := by rw [nums_take_succ hx]; simp
    rw [e2, nums_take_succ hx]
    exact hP.mono fun e w' ⟨h1, h2⟩ => ⟨h1, hB.trans h2⟩
  have hcell : ∀ (q : Nat) (wr : World), q < xs.length → Below w.heap.size w wr → ∃ x, xs[q]? = some x ∧ wr.cell? ⟨g, q, none⟩ = some (.int .i64 x) := fun q wr hq hB => ⟨xs[q], List.getElem?_eq_getElem hq, (hxs.below hB).2 q _ (List.getElem?_eq_getElem hq)⟩
  have hg := hxs.1
  clear hxs hr
  go_enter Try.func97, Try.ntmps97
  go_wp2_with fail
  go_loopg [5, 15] xs.length (fun gh s i wr => ∃ (q n : Nat), q ≤ xs.length ∧ gh = xs.length - q ∧ n ≤ 9 * q ∧ i = .int .i64 q ∧ s = .int .i64 n ∧ w = wr)
  case atStart => exact ⟨0, 0, by omega, rfl, by omega, rfl, rfl, rfl⟩
  case round =>
    obtain ⟨q, n, hq, rfl, hn, rfl, rfl, rfl⟩ := hrel
    by_cases hlt : q < xs.length
    · have hltI : (q : Int) < (xs.length : Int) := by omega
      obtain ⟨x, hx, hc⟩ := hcell q w hlt (Below.refl _ _)
      have hS := hsize q x hx
      clear hsize hstart hput hcell hx
      go_wp2_with fail
      refine hS.mono ?_
      rintro e w' ⟨⟨m, rfl, hm9⟩, rfl⟩
      clear hS
      go_wp2_with fail
      go_roundg (xs.length - (q + 1))
      case measure => omega
      case rel => exact ⟨q + 1, n + m, by omega, rfl, by omega, by go_num, by go_num, rfl⟩
    · have hltI : ¬ (q : Int) < (xs.length : Int) := by omega
      obtain ⟨w1, ao, cap, w2, hmk, happ, hown, hb2⟩ := hstart n (by omega)
      clear hsize hstart
      go_wp2_with (at_builtin; refine Lib.wpList_append_run _ rfl _ _ 52 52 rfl _ _ rfl rfl _ _ happ ?_)
      go_loopg [8, 30] xs.length (fun gh s i wr => ∃ (q : Nat) (ao : Option Addr) (cap : Nat), q ≤ xs.length ∧ gh = xs.length - q ∧ i = .int .i64 q ∧ s = .slice ao (nums (xs.take q)).length cap ∧ Hid (wr.ownsRow w.heap.size 5 1 (.slice ao (nums (xs.take q)).length cap) (nums (xs.take q)).length (c8 (nums (xs.take q)))) ∧ Below w.heap.size w wr)
      case atStart => exact ⟨0, ao, cap, by omega, rfl, rfl, rfl, hown, hb2⟩
      case round =>
        clear hown hb2 hmk happ
        obtain ⟨q, ao, cap, hq, rfl, rfl, rfl, HO, hB⟩ := hrel
        by_cases hlt : q < xs.length
        · have hltI : (q : Int) < (xs.length : Int) := by omega
          obtain ⟨x, hx, hc⟩ := hcell q wr hlt hB
          have hP := hput q x wr ao cap hx hB HO.out
          have hg2 : g < wr.heap.size := by have := hB.size; omega
          have hmx : ∀ (ts : Array TypeId) (t : TypeId) (wx : World), (Builtin.max_ ts t #[.int .i64 x, .int .i64 0]).run Try.prog wx = .ok (.int .i64 (max x 0)) wx := by
            intro ts t wx
            rw [run_max_int2]
            have : (if (0 : Int) > x then (0 : Int) else x) = max x 0 := by split <;> omega
            rw [this]
          generalize max x 0 = xm at *
          clear hput hcell hx HO
          go_wp2_with fail
          refine hP.mono ?_
          rintro e w' ⟨⟨a3, c3, rfl, h3⟩, hb3⟩
          have HO2 : Hid (w'.ownsRow w.heap.size 5 1 (.slice a3 (nums (xs.take (q + 1))).length c3) (nums (xs.take (q + 1))).length (c8 (nums (xs.take (q + 1))))) := h3
          clear hP h3
          go_wp2_with fail
          go_roundg (xs.length - (q + 1))
          case measure => omega
          case rel => exact ⟨q + 1, a3, c3, by omega, rfl, by go_num, rfl, HO2, hb3⟩
        · have hltI : ¬ (q : Int) < (xs.length : Int) := by omega
          have hqe : q = xs.length := by omega
          have hfin : w.heap.size ≤ wr.heap.size ∧ wr.ownsRow w.heap.size 5 1 (.slice ao (nums xs).length cap) (nums xs).length (c8 (nums xs)) := by
            have := HO.out
            rw [hqe, List.take_length] at this
            exact ⟨hB.size, this⟩
          have etk : Hid (nums (xs.take q) = nums xs) := by show _ = _; rw [hqe, List.take_length]
          clear hput hcell HO hqe
          rw [etk.out]
          go_wp2
          go_ret
          exact ⟨⟨ao, cap, rfl, hfin.2⟩, hB⟩
end Go.Proofs.Ytkbplffckkjbfaa
