/- Texts of ours, joined: Vn, Vb, Vi, Vj. -/
import Derived.Test.YtnijcolomoobnaaGreatDoorK05
import Derived.Test.YtnijcolomoobnaaGreatDoorK02
import Derived.Deep.LoopGhost
import Derived.Deep.RegionHeld3
import Derived.Deep.DrawnRows
namespace Go.Proofs.YtnijcolomoobnaaGreatDoor
open Go.RowKit
set_option linter.unusedVariables false
set_option linter.unusedSimpArgs false

set_option maxRecDepth 100000 in
set_option maxHeartbeats 1000000 in
theorem lcut_l (k : Bool) (y : List UInt8) (w : World) (hy : y.length ≤ 1000) : Calls Tryz.prog 183 #[.string ⟨(keyT k ++ 58 :: y).toArray⟩, .string ⟨#[58]⟩] w fun e w' => e = .returned (.tuple #[.string ⟨(keyT k).toArray⟩, .string ⟨y.toArray⟩, .bool true]) ∧ Below w.heap.size w w' := by
  have hI := lindex_l k y w hy
  have hz : (⟨(keyT k ++ 58 :: y).toArray⟩ : ByteArray).size = (keyT k).length + 1 + y.length := by show (keyT k ++ 58 :: y).toArray.size = _; simp; omega
  have h1 : (⟨(keyT k ++ 58 :: y).toArray⟩ : ByteArray).extract 0 (keyT k).length = ⟨(keyT k).toArray⟩ := ba_eq (by rw [ext_list]; simp)
  have h2 : (⟨(keyT k ++ 58 :: y).toArray⟩ : ByteArray).extract ((keyT k).length + 1) ((keyT k).length + 1 + y.length) = ⟨y.toArray⟩ := ba_eq (by
    rw [ext_list, List.take_of_length_le (by simp; omega), List.drop_append]
    simp)
  have hkl : (keyT k).length ≤ 4 := by cases k <;> simp [keyT]
  generalize (⟨(keyT k ++ 58 :: y).toArray⟩ : ByteArray) = s at *
  generalize hn : (keyT k).length = n at *
  clear hn
  generalize keyT k = kt at *
  have b1 : (0 : Int) ≤ (n : Int) := by omega
  have b2 : (n : Int) ≤ (s.size : Int) := by omega
  have b3 : (n : Int) + 1 ≤ (s.size : Int) := by omega
  go_enter Tryz.func183, Tryz.ntmps183
  go_wp2_with fail
  refine hI.mono ?_
  rintro e w' ⟨rfl, rfl⟩
  clear hI
  go_wp2_with fail
  go_quiet (fail)
  go_wp2
  go_ret3
  exact ⟨rfl, below_drewN _ _⟩
set_option maxRecDepth 100000 in
set_option maxHeartbeats 1000000 in
theorem scut_l (k : Bool) (y : List UInt8) (w : World) (hy : y.length ≤ 1000) : Calls Tryz.prog 181 #[.string ⟨(keyT k ++ 58 :: y).toArray⟩, .string ⟨#[58]⟩] w fun e w' => e = .returned (.tuple #[.string ⟨(keyT k).toArray⟩, .string ⟨y.toArray⟩, .bool true]) ∧ Below w.heap.size w w' := by
  have hI := lcut_l k y w hy
  generalize (⟨(keyT k ++ 58 :: y).toArray⟩ : ByteArray) = s at *
  go_enter Tryz.func181, Tryz.ntmps181
  go_wp2_with fail
  refine hI.mono ?_
  rintro e w' ⟨rfl, hb⟩
  clear hI
  go_wp2
  go_ret3
  exact ⟨rfl, hb⟩
set_option maxRecDepth 100000 in
set_option maxHeartbeats 1000000 in
theorem map_any (l : List UInt8) (hl : l.length ≤ 9223372036854775807) (w : World) : Calls Tryz.prog 176 #[.string ⟨l.toArray⟩] w fun e w' => e = .returned (.tuple #[.string ⟨(mpT l).1.toArray⟩, .string ⟨(mpT l).2.1.toArray⟩, .bool (mpT l).2.2]) ∧ Below w.heap.size w w' := by
  have hK := kindOf_any l hl w
  rcases h : tyOf l with _ | T
  · have hk : kdOf l = 0 := by unfold kdOf; rw [h]
    have he : mpT l = ([], [], false) := by unfold mpT; rw [h]
    rw [hk] at hK; rw [he]
    clear h hk he
    go_enter Tryz.func176, Tryz.ntmps176
    go_wp2_with (go_at_call 164; refine hK.mono ?_; rintro e w' ⟨rfl, rfl⟩)
    go_ret3
    exact ⟨rfl, Below.refl _ _⟩
  · have hk : kdOf l = kd T := by unfold kdOf; rw [h]
    obtain ⟨h1, h2⟩ := (tyOf_iff _ _).1 h
    rw [hk] at hK
    by_cases h4 : kd T = 5
    · cases T with
      | map k t =>
        have he : mpT l = (keyT k, tyT t, true) := by unfold mpT; rw [h]
        rw [he]
        clear h hk he
        subst h1
        have hlen := tyT_len t
        have hkl : (keyT k).length ≤ 4 := by cases k <;> simp [keyT]
        simp only [Ty.dp] at h2
        have hI := inside_l 123 125 (keyT k ++ 58 :: tyT t) (by simp; omega) w
        have hC := scut_l k (tyT t) w (by omega)
        have hC1 := fun w => sclone_l (keyT k) w (by omega)
        have hC2 := fun w => sclone_l (tyT t) w (by omega)
        have e : tyT (.map k t) = 123 :: ((keyT k ++ 58 :: tyT t) ++ [125]) := by simp [tyT]
        rw [← e] at hI
        have e4 : kd (.map k t) = 5 := rfl
        rw [e4] at hK
        clear e e4 h4 hl
        generalize tyT (.map k t) = z at *
        generalize keyT k ++ 58 :: tyT t = m at *
        generalize tyT t = y at *
        generalize keyT k = kt at *
        clear hlen hkl
        go_enter Tryz.func176, Tryz.ntmps176
        go_wp2_with fail
        refine hK.mono ?_
        rintro e w' ⟨rfl, rfl⟩
        go_wp2_with fail
        refine hI.mono ?_
        rintro e w' ⟨rfl, rfl⟩
        go_wp2_with fail
        refine hC.mono ?_
        rintro e w2 ⟨rfl, hb2⟩
        go_wp2_with fail
        refine (hC1 _).mono ?_
        rintro e w3 ⟨rfl, hb3⟩
        go_wp2_with fail
        refine (hC2 _).mono ?_
        rintro e w4 ⟨rfl, hb4⟩
        go_wp2
        go_ret3
        exact ⟨rfl, hb2.trans ((hb3.trans (hb4.mono hb3.size)).mono hb2.size)⟩
      | _ => exact absurd h4 (by simp [kd])
    · have he : mpT l = ([], [], false) := by
        unfold mpT; rw [h]
        cases T <;> first | rfl | exact absurd rfl h4
      rw [he]
      have h4' : (kd T != 5) = true := by simp [h4]
      clear h hk he h1
      generalize kd T = z at *
      go_enter Tryz.func176, Tryz.ntmps176
      go_wp2_with (go_at_call 164; refine hK.mono ?_; rintro e w' ⟨rfl, rfl⟩)
      go_ret3
      exact ⟨rfl, Below.refl _ _⟩
set_option maxRecDepth 100000 in
set_option maxHeartbeats 1000000 in
theorem int_any (n : Int) (w : World) : Calls Tryz.prog 65 #[.int .i64 n] w fun e w' => e = .returned (.agg #[.int .i64 1, .int .i64 n, .string ⟨#[]⟩, .slice none 0 0]) ∧ Below w.heap.size w w' := by
  go_enter Tryz.func65, Tryz.ntmps65
  go_wp2
  exact bodyPost_ret (v := .agg #[.int .i64 1, .int .i64 n, .string ⟨#[]⟩, .slice none 0 0]) (by simp [results, Tryz.results65, go_sem]) rfl ⟨rfl, (Below.refl _ _).alloc (Nat.le_refl _) _⟩
set_option maxRecDepth 100000 in
set_option maxHeartbeats 1000000 in
theorem bool_any (b : Bool) (w : World) : Calls Tryz.prog 87 #[.bool b] w fun e w' => e = .returned (.agg #[.int .i64 2, .int .i64 (if b then 1 else 0), .string ⟨#[]⟩, .slice none 0 0]) ∧ Below w.heap.size w w' := by
  cases b
  · go_enter Tryz.func87, Tryz.ntmps87
    go_wp2
    exact bodyPost_ret (v := .agg #[.int .i64 2, .int .i64 0, .string ⟨#[]⟩, .slice none 0 0]) (by simp [results, Tryz.results87, go_sem]) rfl ⟨rfl, ((Below.refl _ _).alloc (Nat.le_refl _) _).alloc (by simp) _⟩
  · go_enter Tryz.func87, Tryz.ntmps87
    go_wp2
    exact bodyPost_ret (v := .agg #[.int .i64 2, .int .i64 1, .string ⟨#[]⟩, .slice none 0 0]) (by simp [results, Tryz.results87, go_sem]) rfl ⟨rfl, ((Below.refl _ _).alloc (Nat.le_refl _) _).alloc (by simp) _⟩
set_option maxRecDepth 100000 in
set_option maxHeartbeats 1000000 in
theorem text_any (l : List UInt8) (hl : l.length ≤ 281474976710656) (w : World) : Calls Tryz.prog 90 #[.string ⟨l.toArray⟩] w fun e w' => e = .returned (.agg #[.int .i64 3, .int .i64 0, .string ⟨l.toArray⟩, .slice none 0 0]) ∧ Below w.heap.size w w' := by
  have hC := fun w => sclone_l l w hl
  obtain ⟨w0, hW, hb0, hs0, hr⟩ := rbox w
  go_enter Tryz.func90, Tryz.ntmps90
  go_wp2_with fail
  refine (hC _).mono ?_
  rintro e w3 ⟨rfl, hb3⟩
  obtain ⟨c0, c1, c2, c3, f0, f1, f2, f3, hz⟩ := hr w3 hb3
  clear hr hW
  go_wp2_with fail
  exact bodyPost_ret (v := .agg #[.int .i64 3, .int .i64 0, .string ⟨l.toArray⟩, .slice none 0 0]) (by simp [results, Tryz.results90, go_sem, hz, c0, c1, c2, c3]) rfl ⟨rfl, below_set4 (hb0.trans (hb3.mono (by omega))) (Nat.le_refl _) _ _ _ _⟩
end Go.Proofs.YtnijcolomoobnaaGreatDoor
namespace Go.Proofs.YtnijcolomoobnaaGreatDoor
open Go.RowKit
set_option linter.unusedVariables false
set_option linter.unusedSimpArgs false

theorem int_len0 (n : Nat) : ((n : Int) == 0) = (n == 0) := by rw [Bool.eq_iff_iff]; simp
set_option maxRecDepth 100000 in
set_option maxHeartbeats 2000000 in
theorem isBare_any {B : Nat → Prop} {v : V} {sl : Value} {w : World} (hv : IsW B w v sl) :
    Calls Tryz.prog 165 #[.agg #[.int .i64 v.k, .int .i64 v.n, .string ⟨v.t.toArray⟩, sl]] w fun r w' => r = .returned (.bool (bareB v)) ∧ Below w.heap.size w w' := by
  obtain ⟨ao, cap, rfl, hc1, hc2⟩ := hv.vs.slice
  obtain ⟨w0, hW, hb0, hsz, d0, d1, d2, d3⟩ := boxed w v (.slice ao v.l.length cap)
  clear hv
  by_cases k1 : v.k = 1
  · have q1 : (v.k == 1) = true := by simp [k1]
    have q2 : (v.k == 2) = false := by simp [k1]
    have q3 : (v.k == 3) = false := by simp [k1]
    have q4 : (v.k == 4) = false := by simp [k1]
    have q5 : (v.k == 5) = false := by simp [k1]
    clear k1
    go_enter Tryz.func165, Tryz.ntmps165
    go_wp2_with fail
    all_goals
      go_ret
      exact ⟨ret_bool (by simp_all [bareB, int_len0]), hb0⟩
  by_cases k2 : v.k = 2
  · have q1 : (v.k == 1) = false := by simp [k2]
    have q2 : (v.k == 2) = true := by simp [k2]
    have q3 : (v.k == 3) = false := by simp [k2]
    have q4 : (v.k == 4) = false := by simp [k2]
    have q5 : (v.k == 5) = false := by simp [k2]
    clear k2 k1
    go_enter Tryz.func165, Tryz.ntmps165
    go_wp2_with fail
    all_goals
      go_ret
      exact ⟨ret_bool (by simp_all [bareB, int_len0]), hb0⟩
  by_cases k3 : v.k = 3
  · have q1 : (v.k == 1) = false := by simp [k3]
    have q2 : (v.k == 2) = false := by simp [k3]
    have q3 : (v.k == 3) = true := by simp [k3]
    have q4 : (v.k == 4) = false := by simp [k3]
    have q5 : (v.k == 5) = false := by simp [k3]
    clear k3 k1 k2
    go_enter Tryz.func165, Tryz.ntmps165
    go_wp2_with fail
    all_goals
      go_ret
      exact ⟨ret_bool (by simp_all [bareB, int_len0]), hb0⟩
  by_cases k4 : v.k = 4
  · have q1 : (v.k == 1) = false := by simp [k4]
    have q2 : (v.k == 2) = false := by simp [k4]
    have q3 : (v.k == 3) = false := by simp [k4]
    have q4 : (v.k == 4) = true := by simp [k4]
    have q5 : (v.k == 5) = false := by simp [k4]
    clear k4 k1 k2 k3
    go_enter Tryz.func165, Tryz.ntmps165
    go_wp2_with fail
    all_goals
      go_ret
      exact ⟨ret_bool (by simp_all [bareB, int_len0]), hb0⟩
  by_cases k5 : v.k = 5
  · have q1 : (v.k == 1) = false := by simp [k5]
    have q2 : (v.k == 2) = false := by simp [k5]
    have q3 : (v.k == 3) = false := by simp [k5]
    have q4 : (v.k == 4) = false := by simp [k5]
    have q5 : (v.k == 5) = true := by simp [k5]
    clear k5 k1 k2 k3 k4
    go_enter Tryz.func165, Tryz.ntmps165
    go_wp2_with fail
    all_goals
      go_ret
      exact ⟨ret_bool (by simp_all [bareB, int_len0]), hb0⟩
  have q1 : (v.k == 1) = false := by simp [k1]
  have q2 : (v.k == 2) = false := by simp [k2]
  have q3 : (v.k == 3) = false := by simp [k3]
  have q4 : (v.k == 4) = false := by simp [k4]
  have q5 : (v.k == 5) = false := by simp [k5]
  clear k1 k2 k3 k4 k5
  go_enter Tryz.func165, Tryz.ntmps165
  go_wp2_with fail
  all_goals
    go_ret
    exact ⟨ret_bool (by simp_all [bareB, int_len0]), hb0⟩
end Go.Proofs.YtnijcolomoobnaaGreatDoor
namespace Go.Proofs.YtnijcolomoobnaaGreatDoor
open Go.RowKit
set_option linter.unusedVariables false
set_option linter.unusedSimpArgs false

def HsOk (B : Nat → Prop) (y : List UInt8) (p : V → Bool) : Prop := ∀ (v : V) (sl : Value) (w : World), IsW B w v sl →
    Calls Tryz.prog 159 #[.agg #[.int .i64 v.k, .int .i64 v.n, .string ⟨v.t.toArray⟩, sl], .string ⟨y.toArray⟩] w fun r w' => r = .returned (.bool (p v)) ∧ Below w.heap.size w w'

set_option maxRecDepth 100000 in
set_option maxHeartbeats 1000000 in
theorem closure_any {B : Nat → Prop} {y : List UInt8} {p : V → Bool} (hok : HsOk B y p) {v : V} {sl : Value} {w : World} {g : Nat} (hv : IsW B w v sl) (hg : w.cell? ⟨g, 0, none⟩ = some (.string ⟨y.toArray⟩)) (hgl : g < w.heap.size) :
    Calls Tryz.prog 175 #[.agg #[.int .i64 v.k, .int .i64 v.n, .string ⟨v.t.toArray⟩, sl], .pointer (some ⟨g, 0, none⟩)] w fun r w' => r = .returned (.bool (!p v)) ∧ Below w.heap.size w w' := by
  obtain ⟨ao, cap, rfl, hc1, hc2⟩ := hv.vs.slice
  obtain ⟨w0, hW, hb0, hsz, d0, d1, d2, d3⟩ := boxed w v (.slice ao v.l.length cap)
  have hg' : w0.cell? ⟨g, 0, none⟩ = some (.string ⟨y.toArray⟩) := by rw [(bcell hb0).1 _ _ hgl]; exact hg
  have hC := hok v _ w0 (hv.below hb0)
  clear hv hok hg
  go_enter Tryz.func175, Tryz.ntmps175
  go_wp2_with fail
  refine hC.mono ?_
  rintro e w3 ⟨rfl, hb3⟩
  go_wp2
  go_ret
  exact ⟨rfl, hb0.trans (hb3.mono hb0.size)⟩
set_option maxRecDepth 100000 in
set_option maxHeartbeats 1000000 in
theorem indexFunc_any {B : Nat → Prop} {y : List UInt8} {p : V → Bool} (hok : HsOk B y p) {l : List V} {ao : Option Addr} {cap : Nat} {w : World} {g0 : Nat} (hl : IsVs B w l (.slice ao l.length cap)) (hg : w.cell? ⟨g0, 0, none⟩ = some (.string ⟨y.toArray⟩)) (hgl : g0 < w.heap.size) :
    Calls Tryz.prog 114 #[.slice ao l.length cap, .func (Fn.func 175) #[] #[.pointer (some ⟨g0, 0, none⟩)]] w fun r w' => (∃ i : Int, r = .returned (.int .i64 i) ∧ decide (0 ≤ i) = l.any (fun x => !p x)) ∧ Below w.heap.size w w' := by
  obtain ⟨ao', cap', e, a1, a2⟩ := hl.slice
  simp only [Value.slice.injEq] at e
  obtain ⟨rfl, -, rfl⟩ := e
  have hround : ∀ (q : Nat) (wr : World), q < l.length → Below w.heap.size w wr →
      ∃ x g o ax cx, l[q]? = some x ∧ ao = some ⟨g, o, none⟩ ∧ g < wr.heap.size ∧ wr.cell? ⟨g, o + q * 4, none⟩ = some (.int .i64 x.k) ∧ wr.cell? ⟨g, o + q * 4 + 1, none⟩ = some (.int .i64 x.n) ∧ wr.cell? ⟨g, o + q * 4 + 2, none⟩ = some (.string ⟨x.t.toArray⟩) ∧ wr.cell? ⟨g, o + q * 4 + 3, none⟩ = some (.slice ax x.l.length cx) ∧
        Calls Tryz.prog 175 #[.agg #[.int .i64 x.k, .int .i64 x.n, .string ⟨x.t.toArray⟩, .slice ax x.l.length cx], .pointer (some ⟨g0, 0, none⟩)] wr fun r w' => r = .returned (.bool (!p x)) ∧ Below wr.heap.size wr w' := by
    intro q wr hq hB
    have hx : l[q]? = some l[q] := List.getElem?_eq_getElem hq
    obtain ⟨g, o, ax, cx, e, _, hg1, c0, c1, c2, c3, hw⟩ := (hl.below hB).get hx
    have hs := hB.size
    exact ⟨l[q], g, o, ax, cx, hx, e, hg1, c0, c1, c2, c3, closure_any hok hw (by rw [(bcell hB).1 _ _ hgl]; exact hg) (by omega)⟩
  clear hok hl hg
  go_enter Tryz.func114, Tryz.ntmps114
  go_wp2_with fail
  go_loopg [8] l.length (fun g i wr => ∃ q : Nat, q ≤ l.length ∧ g = l.length - q ∧ i = .int .i64 q ∧ Hid (∀ j x, j < q → l[j]? = some x → p x = true) ∧ Below w.heap.size w wr)
  case atStart => exact ⟨0, Nat.zero_le _, rfl, rfl, fun j x h => by omega, Below.refl _ _⟩
  case round =>
    obtain ⟨q, hq, rfl, rfl, HA, hB⟩ := hrel
    by_cases hlt : q < l.length
    · obtain ⟨x, g, o, ax, cx, hx, rfl, hg, c0, c1, c2, c3, hcall⟩ := hround q wr hlt hB
      have hltI : (q : Int) < (l.length : Int) := by omega
      have hx' : Hid (l[q]? = some x) := hx
      clear hround hx
      go_wp2_with fail
      refine hcall.mono ?_
      rintro e w3 ⟨rfl, hb3⟩
      clear hcall
      have hB3 : Below w.heap.size w w3 := hB.trans (hb3.mono hB.size)
      rcases hp : p x with _ | _
      · have hfin : Hid (decide (0 ≤ (q : Int)) = l.any fun x => !p x) := by
          show _ = _
          rw [decide_eq_true (by omega)]
          symm
          rw [List.any_eq_true]
          exact ⟨x, List.mem_of_getElem? hx'.out, by simp [hp]⟩
        go_wp2
        go_ret
        exact ⟨⟨q, rfl, hfin⟩, hB3⟩
      · have HA2 : Hid (∀ j x, j < q + 1 → l[j]? = some x → p x = true) := by
          intro j z hj hz
          by_cases e : j = q
          · subst e; rw [hx'.out] at hz; cases hz; exact hp
          · exact HA.out j z (by omega) hz
        go_wp2_with fail
        go_roundg (l.length - (q + 1))
        case measure => omega
        case rel => exact ⟨q + 1, by omega, rfl, by go_num, HA2, hB3⟩
    · have hltI : ¬ (q : Int) < (l.length : Int) := by omega
      have hfin : Hid (decide (0 ≤ (-1 : Int)) = l.any fun x => !p x) := by
        show _ = _
        rw [decide_eq_false (by omega)]
        symm
        rw [List.any_eq_false]
        intro x hx
        obtain ⟨j, hj⟩ := List.mem_iff_getElem?.1 hx
        have := (List.getElem?_eq_some_iff.1 hj).1
        simp [HA.out j x (by omega) hj]
      clear hround HA
      go_wp2
      go_ret
      exact ⟨⟨-1, rfl, hfin⟩, hB⟩
set_option maxRecDepth 100000 in
set_option maxHeartbeats 1000000 in
theorem contains_any {B : Nat → Prop} {y : List UInt8} {p : V → Bool} (hok : HsOk B y p) {l : List V} {ao : Option Addr} {cap : Nat} {w : World} {g0 : Nat} (hl : IsVs B w l (.slice ao l.length cap)) (hg : w.cell? ⟨g0, 0, none⟩ = some (.string ⟨y.toArray⟩)) (hgl : g0 < w.heap.size) :
    Calls Tryz.prog 76 #[.slice ao l.length cap, .func (Fn.func 175) #[] #[.pointer (some ⟨g0, 0, none⟩)]] w fun r w' => r = .returned (.bool (l.any (fun x => !p x))) ∧ Below w.heap.size w w' := by
  have hC := indexFunc_any hok hl hg hgl
  clear hok hl hg
  go_enter Tryz.func76, Tryz.ntmps76
  go_wp2_with fail
  refine hC.mono ?_
  rintro e w3 ⟨⟨i, rfl, hi⟩, hb3⟩
  clear hC
  have Hi : Hid (decide (0 ≤ i) = l.any fun x => !p x) := hi
  clear hi
  go_wp2
  go_ret
  exact ⟨ret_bool Hi.out, hb3⟩
set_option maxRecDepth 100000 in
set_option maxHeartbeats 1000000 in
theorem isListOf_any {B : Nat → Prop} {y : List UInt8} {p : V → Bool} (hok : HsOk B (elT y).1 p) (hy : y.length ≤ 9223372036854775807) {l : List V} {ao : Option Addr} {cap : Nat} {w : World} (hl : IsVs B w l (.slice ao l.length cap)) :
    Calls Tryz.prog 166 #[.slice ao l.length cap, .string ⟨y.toArray⟩] w fun r w' => r = .returned (.bool (decide (l.length ≤ 64) && l.all p)) ∧ Below w.heap.size w w' := by
  obtain ⟨ao', cap', e, a1, a2⟩ := hl.slice
  simp only [Value.slice.injEq] at e
  obtain ⟨rfl, -, rfl⟩ := e
  by_cases h64 : l.length ≤ 64
  · have h64I : ¬ (64 : Int) < (l.length : Int) := by omega
    have hL := list_any y hy w
    have hC : ∀ w2, Below w.heap.size w w2 → Calls Tryz.prog 76 #[.slice ao l.length cap, .func (Fn.func 175) #[] #[.pointer (some ⟨w2.heap.size, 0, none⟩)]] (w2.alloc (.cells #[.string ⟨(elT y).1.toArray⟩] 9)) fun r w' => r = .returned (.bool (l.any (fun x => !p x))) ∧ Below w.heap.size w w' := by
      intro w2 hb
      have hba : Below w2.heap.size w2 (w2.alloc (.cells #[.string ⟨(elT y).1.toArray⟩] 9)) := (Below.refl _ _).alloc (Nat.le_refl _) _
      have hbw : Below w.heap.size w (w2.alloc (.cells #[.string ⟨(elT y).1.toArray⟩] 9)) := hb.trans (hba.mono hb.size)
      refine (contains_any hok (hl.below hbw) (g0 := w2.heap.size) ?_ ?_).mono ?_
      · exact cell_of_one (heap_new w2 (.cells #[.string ⟨(elT y).1.toArray⟩] 9))
      · simp
      · rintro e w3 ⟨rfl, h3⟩
        exact ⟨rfl, hbw.trans (h3.mono hbw.size)⟩
    have hfin : Hid ((decide (l.length ≤ 64) && l.all p) = !(l.any (fun x => !p x))) := by
      show _ = _
      rw [decide_eq_true h64, Bool.true_and, Bool.eq_iff_iff]
      simp
    clear hok hl
    generalize (elT y).1 = z at *
    generalize (elT y).2 = zb at *
    generalize l.any (fun x => !p x) = r at *
    go_enter Tryz.func166, Tryz.ntmps166
    go_wp2_with fail
    refine hL.mono ?_
    rintro e w2 ⟨rfl, hb2⟩
    go_wp2_with fail
    refine (hC w2 hb2).mono ?_
    rintro e w3 ⟨rfl, hb3⟩
    clear hC hL
    go_wp2
    go_ret
    exact ⟨ret_bool hfin.out.symm, hb3⟩
  · have h64I : (64 : Int) < (l.length : Int) := by omega
    clear hok hl
    go_enter Tryz.func166, Tryz.ntmps166
    go_wp2
    go_ret
    exact ⟨ret_bool (by rw [decide_eq_false h64]; rfl), Below.refl _ _⟩
end Go.Proofs.YtnijcolomoobnaaGreatDoor
namespace Go.Proofs.YtnijcolomoobnaaGreatDoor
open Go.RowKit
set_option linter.unusedVariables false
set_option linter.unusedSimpArgs false
attribute [local go_sem ↓] Go.wp_at_zero Go.wp_at_succ

def BoolIs (P : Prop) (r : Ending) : Prop := ∃ b : Bool, r = .returned (.bool b) ∧ (b = true ↔ P)
theorem BoolIs.mk {P : Prop} {b : Bool} (h : b = true ↔ P) : BoolIs P (.returned (.bool b)) := ⟨b, rfl, h⟩
def MapR (pk pv : V → Bool) (l : List V) : Prop := l.length % 2 = 0 ∧ l.length ≤ 128 ∧ (∀ i x, l[2 * i]? = some x → pk x = true) ∧ (∀ i x, l[2 * i + 1]? = some x → pv x = true) ∧ (∀ i x y, l[2 * i]? = some x → l[2 * i + 2]? = some y → cmpV x y < 0)
def MapQ (pk pv : V → Bool) (l : List V) (q : Nat) : Prop := (∀ i x, i < q → l[2 * i]? = some x → pk x = true) ∧ (∀ i x, i < q → l[2 * i + 1]? = some x → pv x = true) ∧ (∀ i x y, i + 1 < q → l[2 * i]? = some x → l[2 * i + 2]? = some y → cmpV x y < 0)
theorem MapQ.step {pk pv : V → Bool} {l : List V} {q : Nat} (h : MapQ pk pv l q) {x y : V} (hx : l[2 * q]? = some x) (hy : l[2 * q + 1]? = some y) (h1 : pk x = true) (h2 : pv y = true) (h3 : ∀ j z, q = j + 1 → l[2 * j]? = some z → cmpV z x < 0) : MapQ pk pv l (q + 1) := by
  refine ⟨fun i z hi hz => ?_, fun i z hi hz => ?_, fun i a b hi ha hb => ?_⟩
  · by_cases e : i = q
    · subst e; rw [hx] at hz; cases hz; exact h1
    · exact h.1 i z (by omega) hz
  · by_cases e : i = q
    · subst e; rw [hy] at hz; cases hz; exact h2
    · exact h.2.1 i z (by omega) hz
  · by_cases e : i + 1 = q
    · have hb' : l[2 * q]? = some b := by rw [← e]; exact hb
      rw [hx] at hb'; cases hb'
      exact h3 i a e.symm ha
    · exact h.2.2 i a b (by omega) ha hb
theorem MapQ.all {pk pv : V → Bool} {l : List V} {q : Nat} (h : MapQ pk pv l q) (h1 : l.length % 2 = 0) (h2 : l.length ≤ 128) (hq : l.length ≤ 2 * q) : MapR pk pv l := by
  refine ⟨h1, h2, fun i x hx => ?_, fun i x hx => ?_, fun i a b ha hb => ?_⟩
  · have := (List.getElem?_eq_some_iff.1 hx).1; exact h.1 i x (by omega) hx
  · have := (List.getElem?_eq_some_iff.1 hx).1; exact h.2.1 i x (by omega) hx
  · have := (List.getElem?_eq_some_iff.1 hb).1; exact h.2.2 i a b (by omega) ha hb

set_option maxRecDepth 100000 in
set_option maxHeartbeats 4000000 in
theorem isMapOf_any {B : Nat → Prop} {y : List UInt8} {pk pv : V → Bool} (hokk : HsOk B (mpT y).1 pk) (hokv : HsOk B (mpT y).2.1 pv) (hy : y.length ≤ 9223372036854775807) {l : List V} {ao : Option Addr} {cap : Nat} {w : World} (hl : IsVs B w l (.slice ao l.length cap)) :
    Calls Tryz.prog 167 #[.slice ao l.length cap, .string ⟨y.toArray⟩] w fun r w' => BoolIs (MapR pk pv l) r ∧ Below w.heap.size w w' := by
  obtain ⟨ao', cap', e, a1, a2⟩ := hl.slice
  simp only [Value.slice.injEq] at e
  obtain ⟨rfl, -, rfl⟩ := e
  by_cases hbad : ¬ (l.length % 2 = 0 ∧ l.length ≤ 128)
  · have hfin : Hid (false = true ↔ MapR pk pv l) := ⟨fun h => (by cases h), fun h => absurd ⟨h.1, h.2.1⟩ hbad⟩
    clear hokk hokv hl
    by_cases h2 : l.length % 2 = 0
    · have h2I : ((l.length : Int) % 2 != 0) = false := by simp; omega
      have h3I : (64 : Int) < (l.length : Int) / 2 := by omega
      clear hbad
      go_enter Tryz.func167, Tryz.ntmps167
      go_wp2
      go_ret
      exact ⟨BoolIs.mk (b := false) hfin, Below.refl _ _⟩
    · have h2I : ((l.length : Int) % 2 != 0) = true := by simp; omega
      clear hbad
      go_enter Tryz.func167, Tryz.ntmps167
      go_wp2
      go_ret
      exact ⟨BoolIs.mk (b := false) hfin, Below.refl _ _⟩
  have hok : l.length % 2 = 0 ∧ l.length ≤ 128 := Decidable.not_not.1 hbad
  clear hbad
  have h2I : ((l.length : Int) % 2 != 0) = false := by simp; omega
  have h3I : ¬ (64 : Int) < (l.length : Int) / 2 := by omega
  have hL := map_any y hy w
  have hround : ∀ (q : Nat) (wr : World), q < l.length → Below w.heap.size w wr →
      ∃ x g o ax cx, l[q]? = some x ∧ ao = some ⟨g, o, none⟩ ∧ g < wr.heap.size ∧ wr.cell? ⟨g, o + q * 4, none⟩ = some (.int .i64 x.k) ∧ wr.cell? ⟨g, o + q * 4 + 1, none⟩ = some (.int .i64 x.n) ∧ wr.cell? ⟨g, o + q * 4 + 2, none⟩ = some (.string ⟨x.t.toArray⟩) ∧ wr.cell? ⟨g, o + q * 4 + 3, none⟩ = some (.slice ax x.l.length cx) ∧ IsW B wr x (.slice ax x.l.length cx) := by
    intro q wr hq hB
    have hx : l[q]? = some l[q] := List.getElem?_eq_getElem hq
    obtain ⟨g, o, ax, cx, e, _, hg1, c0, c1, c2, c3, hw⟩ := (hl.below hB).get hx
    exact ⟨l[q], g, o, ax, cx, hx, e, hg1, c0, c1, c2, c3, hw⟩
  clear hl
  generalize (mpT y).1 = zk at *
  generalize (mpT y).2.1 = zv at *
  generalize (mpT y).2.2 = zb at *
  go_enter Tryz.func167, Tryz.ntmps167
  go_wp2_with fail
  refine hL.mono ?_
  rintro e w1 ⟨rfl, hb1⟩
  clear hL
  go_wp2_with fail
  go_loopg [8] l.length (fun g i wr => ∃ q m : Nat, Hid (m = 2 * q) ∧ m ≤ l.length ∧ g = l.length - m ∧ i = .int .i64 m ∧ Hid (MapQ pk pv l q) ∧ Below w.heap.size w wr)
  case atStart => exact ⟨0, 0, rfl, Nat.zero_le _, rfl, rfl, ⟨fun i x h => by omega, fun i x h => by omega, fun i x y h => by omega⟩, hb1⟩
  case round =>
    obtain ⟨q, m, Hm, hm, rfl, rfl, HQ, hB⟩ := hrel
    by_cases hlt : m < l.length
    · have hmq := Hm.out
      have hlt1 : m + 1 < l.length := by omega
      obtain ⟨x, g, o, ax, cx, hx, rfl, hg, c0, c1, c2, c3, hwx⟩ := hround m wr hlt hB
      have hltI : (m : Int) < (l.length : Int) := by omega
      have hltI1 : (m : Int) + 1 < (l.length : Int) := by omega
      have hx' : Hid (l[2 * q]? = some x) := by rw [← hmq]; exact hx
      have hC1 := hokk x _ wr hwx
      clear hx hmq
      rcases hp : pk x with _ | _
      · have hfin : Hid (false = true ↔ MapR pk pv l) := ⟨fun h => (by cases h), fun h => by have := h.2.2.1 q x hx'.out; rw [hp] at this; cases this⟩
        rw [hp] at hC1
        clear hround hokk hokv
        go_wp2_with fail
        refine hC1.mono ?_
        rintro e w3 ⟨rfl, hb3⟩
        clear hC1
        go_wp2
        go_ret
        exact ⟨BoolIs.mk (b := false) hfin, hB.trans (hb3.mono hB.size)⟩
      · rw [hp] at hC1
        go_wp2_with fail
        refine hC1.mono ?_
        rintro e w3 ⟨rfl, hb3⟩
        clear hC1 c0 c1 c2 c3
        have hB3 : Below w.heap.size w w3 := hB.trans (hb3.mono hB.size)
        obtain ⟨z, g', o', az, cz, hz, e, hg', c0, c1, c2, c3, hwz⟩ := hround (m + 1) w3 hlt1 hB3
        simp only [Option.some.injEq, Addr.mk.injEq] at e
        obtain ⟨rfl, rfl, -⟩ := e
        have hz' : Hid (l[2 * q + 1]? = some z) := by rw [← Hm.out]; exact hz
        have hC2 := hokv z _ w3 hwz
        clear hz
        rcases hpz : pv z with _ | _
        · have hfin : Hid (false = true ↔ MapR pk pv l) := ⟨fun h => (by cases h), fun h => by have := h.2.2.2.1 q z hz'.out; rw [hpz] at this; cases this⟩
          rw [hpz] at hC2
          clear hround hokk hokv
          go_wp2_with fail
          refine hC2.mono ?_
          rintro e w4 ⟨rfl, hb4⟩
          clear hC2
          go_wp2
          go_ret
          exact ⟨BoolIs.mk (b := false) hfin, hB3.trans (hb4.mono hB3.size)⟩
        · rw [hpz] at hC2
          go_wp2_with fail
          refine hC2.mono ?_
          rintro e w4 ⟨rfl, hb4⟩
          clear hC2 c0 c1 c2 c3
          have hB4 : Below w.heap.size w w4 := hB3.trans (hb4.mono hB3.size)
          rcases q with _ | j
          · have hm0 : m = 0 := Hm.out
            subst hm0
            have HQ2 : Hid (MapQ pk pv l 1) := HQ.out.step hx'.out hz'.out hp hpz (fun j z h => by omega)
            clear hround hokk hokv HQ
            go_wp2_with fail
            go_quiet (fail)
            go_wp2_with fail
            go_roundg (l.length - 2)
            case measure => omega
            case rel => exact ⟨1, 2, rfl, by omega, rfl, by go_num, HQ2, hB4.trans ((below_drewN _ _).mono hB4.size)⟩
          · obtain ⟨m', hmm⟩ : ∃ m', m = m' + 2 := ⟨m - 2, by have := Hm.out; omega⟩
            have hm'q : m' = 2 * j := by have := Hm.out; omega
            obtain ⟨p, g', o', ap, cp, hpx, e, hgp, p0, p1, p2, p3, hwp⟩ := hround m' w4 (by omega) hB4
            simp only [Option.some.injEq, Addr.mk.injEq] at e
            obtain ⟨rfl, rfl, -⟩ := e
            obtain ⟨x2, g', o', ax2, cx2, hx2, e, hgx, x0, x1, x2', x3, hwx2⟩ := hround m w4 (by omega) hB4
            simp only [Option.some.injEq, Addr.mk.injEq] at e
            obtain ⟨rfl, rfl, -⟩ := e
            have ex : x2 = x := by
              have h1 := hx'.out
              rw [show 2 * (j + 1) = m by omega, hx2] at h1
              exact Option.some.inj h1
            subst ex
            have hC3 : ∀ w5, Below w4.heap.size w4 w5 → Calls Tryz.prog 78 #[.agg #[.int .i64 p.k, .int .i64 p.n, .string ⟨p.t.toArray⟩, .slice ap p.l.length cp], .agg #[.int .i64 x2.k, .int .i64 x2.n, .string ⟨x2.t.toArray⟩, .slice ax2 x2.l.length cx2]] w5 fun r w' => r = .returned (.int .i64 (cmpV p x2)) ∧ Below w5.heap.size w5 w' := fun w5 hb5 => compare_any (hwp.below hb5) (hwx2.below hb5)
            have hpx' : Hid (l[2 * j]? = some p) := by rw [← hm'q]; exact hpx
            have hI0 : (0 : Int) ≤ (m' : Int) := by omega
            have hI1 : (m' : Int) < (l.length : Int) := by omega
            have hI2 : (0 : Int) < (m : Int) := by omega
            have hI4 : (0 : Int) ≤ (m : Int) := by omega
            have hs22 : (m : Int) - 2 = (m' : Int) := by omega
            have hw22 : IntKind.i64.wrap ((m : Int) - 2) = (m' : Int) := by rw [hs22, IntKind.wrap_i64]; omega
            have hd : decide ((0 : Int) < (m : Int)) = true := by simp; omega
            have hw23 : IntKind.i64.wrap (m' : Int) = (m' : Int) := by rw [IntKind.wrap_i64]; omega
            have hN : 0 < m := by omega
            have hdN : decide (0 < m) = true := by simp; omega
            clear hround hokk hokv hwp hwx2 hwx hwz hx2 hpx hm'q hmm
            go_wp2_with fail
            go_region_held3 (fun w' => w'.cell? ⟨g, o + m' * 4, none⟩ = some (.int .i64 p.k) ∧ w'.cell? ⟨g, o + m' * 4 + 1, none⟩ = some (.int .i64 p.n) ∧ w'.cell? ⟨g, o + m' * 4 + 2, none⟩ = some (.string ⟨p.t.toArray⟩) ∧ w'.cell? ⟨g, o + m' * 4 + 3, none⟩ = some (.slice ap p.l.length cp) ∧ w'.cell? ⟨g, o + m * 4, none⟩ = some (.int .i64 x2.k) ∧ w'.cell? ⟨g, o + m * 4 + 1, none⟩ = some (.int .i64 x2.n) ∧ w'.cell? ⟨g, o + m * 4 + 2, none⟩ = some (.string ⟨x2.t.toArray⟩) ∧ w'.cell? ⟨g, o + m * 4 + 3, none⟩ = some (.slice ax2 x2.l.length cx2)) (go_keep)
              ((go_at_call 78; refine (hC3 _ (Below.refl _ _).drew).mono ?_; rintro e w5 ⟨rfl, hb5⟩; replace hb5 := below_undrew hb5; obtain ⟨f3, -⟩ := bcell hb5))
            have hB5 : Below w.heap.size w w5 := hB4.trans (hb5.mono hB4.size)
            have hge : Hid (cmpV p x2 < 0 ∨ 0 ≤ cmpV p x2) := by show _ ∨ _; omega
            have hneg : Hid (0 ≤ cmpV p x2 → (false = true ↔ MapR pk pv l)) := fun h0 => ⟨fun h => (by cases h), fun h => by have := h.2.2.2.2 j p x2 hpx'.out hx'.out; omega⟩
            have hpos : Hid (cmpV p x2 < 0 → MapQ pk pv l (j + 1 + 1)) := fun h0 => HQ.out.step hx'.out hz'.out hp hpz (fun j' z h hz => by
              obtain rfl : j' = j := by omega
              rw [hpx'.out] at hz; cases hz; exact h0)
            clear f3 hC3 p0 p1 p2 p3 x0 x1 x2' x3 hp hpz hw22 hs22
            generalize cmpV p x2 = c at *
            rcases hge.out with hc | hc
            · have hcI : ¬ (0 : Int) ≤ c := by omega
              have HQ2 := hpos.out hc
              have HQ3 : Hid (MapQ pk pv l (j + 1 + 1)) := HQ2
              clear hneg hpos hge HQ2 HQ
              go_wp2_with fail
              go_roundg (l.length - (m + 2))
              case measure => omega
              case rel => exact ⟨j + 1 + 1, m + 2, by have := Hm.out; show _ = _; omega, by omega, rfl, by go_num, HQ3, hB5⟩
            · have hfin : Hid (false = true ↔ MapR pk pv l) := hneg.out hc
              clear hneg hpos hge HQ
              go_wp2
              go_ret
              exact ⟨BoolIs.mk (b := false) hfin, hB5⟩
    · have hltI : ¬ (m : Int) < (l.length : Int) := by omega
      have hfin : Hid (MapR pk pv l) := HQ.out.all hok.1 hok.2 (by have := Hm.out; omega)
      clear hround hokk hokv HQ
      go_wp2
      go_ret
      exact ⟨BoolIs.mk (b := true) ⟨fun _ => hfin.out, fun _ => rfl⟩, hB⟩
end Go.Proofs.YtnijcolomoobnaaGreatDoor
