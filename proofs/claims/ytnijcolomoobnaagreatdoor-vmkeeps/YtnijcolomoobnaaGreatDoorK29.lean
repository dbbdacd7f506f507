/- Texts of ours, joined: Si, Sj, Ni. -/
import Derived.Test.YtnijcolomoobnaaGreatDoorK22
import Derived.Test.YtnijcolomoobnaaGreatDoorK12
import Derived.Laws.Bits64b
import Derived.Laws.CopyRow
import Derived.Laws.CopyOwn
import Derived.Deep.LoopGhost
import Derived.Test.YtnijcolomoobnaaGreatDoorK10
import Derived.Test.YtnijcolomoobnaaGreatDoorK16
import Derived.Test.YtnijcolomoobnaaGreatDoorK17
namespace Go.Proofs.YtnijcolomoobnaaGreatDoor
open Go.RowKit
set_option linter.unusedVariables false
set_option linter.unusedSimpArgs false
attribute [local go_sem ↓] Go.wp_at_zero Go.wp_at_succ

set_option maxRecDepth 100000 in
set_option maxHeartbeats 1000000 in
theorem mul64_one (n : Nat) (hn : n ≤ 1000000) (w : World) : Calls Tryz.prog 134 #[.int .u64 1, .int .u64 n] w fun e w' => e = .returned (.tuple #[.int .u64 0, .int .u64 n]) ∧ w' = w := by
  have h1 : bits .and .u64 (1 : Int) 4294967295 = 1 := by kernel_rfl
  have h0 : bits .and .u64 (0 : Int) 4294967295 = 0 := by kernel_rfl
  have hN : bits .and .u64 (n : Int) 4294967295 = (n : Int) := by
    have h := bits_and_u64_nat n 4294967295 (by omega) (by omega)
    have e : n &&& 4294967295 = n % 4294967296 := Nat.and_two_pow_sub_one_eq_mod n 32
    rw [e, Nat.mod_eq_of_lt (by omega)] at h
    exact h
  have hd : (n : Int) / 4294967296 = 0 := by omega
  have hw : IntKind.u64.wrap (n : Int) = (n : Int) := by rw [IntKind.wrap_u64]; omega
  have hw0 : IntKind.u64.wrap 0 = 0 := by rw [IntKind.wrap_u64]; rfl
  go_enter Tryz.func134, Tryz.ntmps134
  go_wp2
  go_ret2
  exact ⟨rfl, rfl⟩
set_option maxRecDepth 100000 in
set_option maxHeartbeats 1000000 in
theorem mul_one_any (n : Nat) (hn : n ≤ 1000000) (w : World) : Calls Tryz.prog 100 #[.int .u64 1, .int .u64 n] w fun e w' => e = .returned (.tuple #[.int .u64 0, .int .u64 n]) ∧ w' = w := by
  have hC := mul64_one n hn w
  go_enter Tryz.func100, Tryz.ntmps100
  go_wp2_with (go_at_call 134; refine hC.mono ?_; rintro e w' ⟨rfl, hw⟩; rw [hw])
  go_ret2
  exact ⟨rfl, rfl⟩
theorem run_copy4 (w : World) (g o dLen dCap : Nat) (a : Addr) (sLen sCap : Nat) (cur : Array Value) (t : TypeId) (cs : List Value) (hg : w.heap[g]? = some (.cells cur t (0, 0))) (hn : cs.length = Nat.min sLen dLen * 4)
    (hsrc : ∀ j v, cs[j]? = some v → w.cell? (a.add j) = some v) (hfit : o + cs.length ≤ cur.size) (h1 : ∀ v ∈ cs, v.oneCell' = true) :
    (Builtin.copy_ #[22, 22] 3 #[.slice (some ⟨g, o, none⟩) dLen dCap, .slice (some a) sLen sCap]).run Tryz.prog w =
      .ok (goInt (Nat.min sLen dLen)) (w.setRow g (cur.toList.take o ++ cs ++ cur.toList.drop (o + cs.length)).toArray) := by
  have hl := run_loadCells_list (P := Tryz.prog) w a cs hsrc
  have hst := run_storeCells_at Tryz.prog g o t cs 0 cur w hg (by simpa using hfit) h1
  have hs : (Tryz.prog.info? 31).map (fun i => (i.zero, i.size, i.bytes)) = some (some (.agg #[.int .i64 0, .int .i64 0, .string ⟨#[]⟩, .slice none 0 0]), 4, 56) := by kernel_rfl
  rcases hq : Tryz.prog.info? 31 with _ | i
  · rw [hq] at hs; cases hs
  · have hi : i.size = 4 := by
      rw [hq] at hs
      simp at hs
      exact hs.2.1
    simp [Builtin.copy_, run_underlying Tryz.underlying22, Builtin.lenOf, Builtin.firstCells, sizeOf, typeInfo, hq, hi, ← hn, hl, hst]
def rowN (n : Nat) : List Value := (List.replicate n [Value.int .i64 1, .int .i64 0, .string ⟨#[]⟩, .slice none 0 0]).flatten
theorem rowN_len (n : Nat) : (rowN n).length = n * 4 := by
  unfold rowN
  induction n with
  | zero => rfl
  | succ n ih => rw [List.replicate_succ, List.flatten_cons, List.length_append, ih]; simp; omega
theorem rowN_add (a b : Nat) : rowN (a + b) = rowN a ++ rowN b := by unfold rowN; rw [← List.replicate_append_replicate, List.flatten_append]
theorem rowN_one (n : Nat) : ∀ v ∈ rowN n, v.oneCell' = true := by
  intro v hv
  unfold rowN at hv
  obtain ⟨l, hl, hv⟩ := List.mem_flatten.1 hv
  obtain ⟨-, rfl⟩ := List.mem_replicate.1 hl
  simp at hv
  rcases hv with rfl | rfl | rfl | rfl <;> rfl
theorem fill_step {w : World} {g k n : Nat} {rest : List Value} (hg : w.heap[g]? = some (.cells (rowN k ++ rest).toArray 31 (0, 0))) (hr : rest.length = (n - k) * 4) (hk : k < n) (h0 : 0 < k) :
    ∃ m w' rest', 0 < m ∧ k + m ≤ n ∧ (Builtin.copy_ #[22, 22] 3 #[.slice (some ⟨g, k * 4, none⟩) (n - k) (n - k), .slice (some ⟨g, 0, none⟩) k n]).run Tryz.prog w = .ok (.int .i64 (m : Int)) w' ∧ w'.heap[g]? = some (.cells (rowN (k + m) ++ rest').toArray 31 (0, 0)) ∧ rest'.length = (n - (k + m)) * 4 ∧ ∀ B, B ≤ g → Below B w w' := by
  have hm : Nat.min k (n - k) ≤ k ∧ Nat.min k (n - k) ≤ n - k ∧ 0 < Nat.min k (n - k) := ⟨Nat.min_le_left _ _, Nat.min_le_right _ _, Nat.lt_min.2 ⟨h0, by omega⟩⟩
  have hrun := run_copy4 w g (k * 4) (n - k) (n - k) ⟨g, 0, none⟩ k n (rowN k ++ rest).toArray 31 (rowN (Nat.min k (n - k))) hg (rowN_len _) (fun j v hv => by
    have hlt := (List.getElem?_eq_some_iff.1 hv).1
    rw [rowN_len] at hlt
    have e : (⟨g, 0, none⟩ : Addr).add j = ⟨g, j, none⟩ := by simp [Addr.add]; omega
    rw [e, cell_block hg]
    have hd : rowN k = rowN (Nat.min k (n - k)) ++ rowN (k - Nat.min k (n - k)) := by rw [← rowN_add]; congr 1; omega
    simp only [List.getElem?_toArray]
    rw [hd, List.append_assoc, List.getElem?_append_left (by rw [rowN_len]; omega)]
    exact hv) (by rw [rowN_len]; simp [rowN_len]; omega) (rowN_one _)
  generalize Nat.min k (n - k) = m at *
  refine ⟨m, _, rest.drop (m * 4), hm.2.2, by omega, hrun, ?_, by simp; omega, fun B hB => below_setRow (Below.refl _ _) hB _⟩
  rw [setRow_heap w g _ _ 31 _ hg]
  refine congrArg (fun l : List Value => some (Obj.cells l.toArray 31 (0, 0))) ?_
  rw [rowN_add, rowN_len]
  simp only [List.toList_toArray]
  rw [List.take_left' (by rw [rowN_len]), List.drop_append, List.append_assoc, List.append_assoc, List.drop_of_length_le (by rw [rowN_len]; omega), rowN_len, Nat.add_sub_cancel_left, List.nil_append]
set_option maxRecDepth 100000 in
set_option maxHeartbeats 4000000 in
theorem repeat_any {gs n : Nat} {w : World} (hn : n ≤ 300) (hs : w.heap[gs]? = some (.cells #[.int .i64 1, .int .i64 0, .string ⟨#[]⟩, .slice none 0 0] 31 (0, 0))) : Calls Tryz.prog 64 #[.slice (some ⟨gs, 0, none⟩) 1 1, .int .i64 (n : Int)] w fun r w' => (∃ g, r = .returned (.slice (some ⟨g, 0, none⟩) n n) ∧ w.heap.size ≤ g ∧ w'.heap[g]? = some (.cells (rowN n).toArray 31 (0, 0))) ∧ Below w.heap.size w w' := by
  obtain ⟨arr0, ha0, hmk⟩ := made_row n (by omega)
  have hM := mul_one_any n (by omega) w
  have hu1 : IntKind.u64.wrap 1 = 1 := by rw [IntKind.wrap_u64]; rfl
  have hun : IntKind.u64.wrap (n : Int) = (n : Int) := by rw [IntKind.wrap_u64]; omega
  have hin : IntKind.i64.wrap (n : Int) = (n : Int) := by rw [IntKind.wrap_i64]; omega
  have hn0 : ¬ (n : Int) < 0 := by omega
  have hnI : (n : Int) ≤ 9223372036854775807 := by omega
  obtain ⟨w1, hW1⟩ : ∃ w1, w.alloc (.cells arr0 31) = w1 := ⟨_, rfl⟩
  have hmk1 := hmk w
  rw [hW1] at hmk1
  have hb1 : Below w.heap.size w w1 := by rw [← hW1]; exact (Below.refl _ _).alloc (Nat.le_refl _) _
  have hx1 : w1.heap[w.heap.size]? = some (.cells arr0 31 (0, 0)) := by rw [← hW1]; exact heap_new _ _
  have hgs := (Array.getElem?_eq_some_iff.1 hs).1
  have hs1 : w1.heap[gs]? = _ := (hb1.block _ hgs).trans hs
  have hfirst : ∃ (k : Nat) (w2 : World) (rest : List Value), (Builtin.copy_ #[22, 22] 3 #[.slice (some ⟨w.heap.size, 0, none⟩) n n, .slice (some ⟨gs, 0, none⟩) 1 1]).run Tryz.prog w1 = .ok (.int .i64 (k : Int)) w2 ∧ k ≤ n ∧ (0 < n → 0 < k) ∧ w2.heap[w.heap.size]? = some (.cells (rowN k ++ rest).toArray 31 (0, 0)) ∧ rest.length = (n - k) * 4 ∧ Below w.heap.size w w2 := by
    have hm : Nat.min 1 n ≤ 1 ∧ Nat.min 1 n ≤ n ∧ (0 < n → 0 < Nat.min 1 n) := ⟨Nat.min_le_left _ _, Nat.min_le_right _ _, fun h => Nat.lt_min.2 ⟨by omega, h⟩⟩
    have hrun := run_copy4 w1 w.heap.size 0 n n ⟨gs, 0, none⟩ 1 1 arr0 31 (rowN (Nat.min 1 n)) hx1 (rowN_len _) (fun j v hv => by
      have e : (⟨gs, 0, none⟩ : Addr).add j = ⟨gs, j, none⟩ := by simp [Addr.add]; omega
      rw [e, cell_block hs1]
      have h2 : Nat.min 1 n = 0 ∨ Nat.min 1 n = 1 := by omega
      rcases h2 with h2 | h2
      · rw [h2] at hv; simp [rowN] at hv
      · rw [h2] at hv; simpa [rowN] using hv) (by rw [rowN_len]; omega) (rowN_one _)
    refine ⟨Nat.min 1 n, _, arr0.toList.drop (Nat.min 1 n * 4), hrun, hm.2.1, hm.2.2, ?_, by simp; omega, hb1.trans (below_setRow (Below.refl _ _) (Nat.le_refl _) _)⟩
    rw [setRow_heap w1 w.heap.size _ _ 31 _ hx1, rowN_len]
    simp
  obtain ⟨k, w2, rest, hr2, hk, hk0, hx2, hrest, hb2⟩ := hfirst
  have Hk0 : Hid (0 < n → 0 < k) := hk0
  have Hrest : Hid (rest.length = (n - k) * 4) := hrest
  clear hmk ha0 hs hs1 hx1 hW1 hb1 hk0 hrest
  go_enter Tryz.func64, Tryz.ntmps64
  go_wp2_with fail
  refine hM.mono ?_
  rintro e w' ⟨rfl, hw⟩
  obtain rfl := hw.symm
  clear hM
  go_wp2_with fail
  go_loopg [8] (n - k) (fun gm i wr => ∃ (j : Nat) (rst : List Value), j ≤ n ∧ (0 < n → 0 < j) ∧ gm = n - j ∧ i = .int .i64 (j : Int) ∧ Hid (wr.heap[w.heap.size]? = some (.cells (rowN j ++ rst).toArray 31 (0, 0)) ∧ rst.length = (n - j) * 4) ∧ Below w.heap.size w wr)
  case atStart => exact ⟨k, rest, hk, Hk0.out, rfl, rfl, ⟨hx2, Hrest.out⟩, hb2⟩
  case round =>
    clear hr2 hx2 hb2 Hk0 Hrest hmk1
    obtain ⟨j, rst, hj, hj0, rfl, rfl, HX, hBr⟩ := hrel
    by_cases hlt : j < n
    · have hltI : (j : Int) < (n : Int) := by omega
      have hjp : 0 < j := hj0 (by omega)
      obtain ⟨m, w4, rst', hm0, hmn, hrun, hx4, hr4, hB4⟩ := fill_step (w := wr.drew) HX.out.1 HX.out.2 hlt hjp
      have hB4' : Below w.heap.size w w4 := (hBr.trans ((below_drewN wr 1).mono hBr.size)).trans (hB4 _ (Nat.le_refl _))
      have HX4 : Hid (w4.heap[w.heap.size]? = some (.cells (rowN (j + m) ++ rst').toArray 31 (0, 0)) ∧ rst'.length = (n - (j + m)) * 4) := ⟨hx4, hr4⟩
      have r1 := fun wx => cut_low (some ⟨w.heap.size, 0, none⟩) n n j hj wx
      have r2 := fun wx => cut_high (some ⟨w.heap.size, 0, none⟩) n n j hj wx
      rw [cutA_some hlt] at r1
      have hadd : IntKind.i64.wrap ((j : Int) + (m : Int)) = (j : Int) + (m : Int) := by rw [IntKind.wrap_i64]; omega
      clear HX hx4 hr4 hB4 hBr hj0
      go_wp2_with fail
      refine wpE_begin (S := fun w' => True ∧ True) (N := fun j => decide (j < 10)) (by kernel_rfl) ?_
      have hS0 : True ∧ True := ⟨trivial, trivial⟩
      refine wpE_takeX (some 38) (fun j => [8, 9].contains j) (i := 0) (v := .int .i64 (j : Int)) rfl rfl (by kernel_rfl) (by kernel_rfl) (by kernel_rfl) (by kernel_rfl) (fun j hj => by simp at hj; show j < 10; omega) (fun _ _ _ h => h) rfl (fun wq hS => by go_simp) hS0 ?_
      try simp only [Act.put, List.setIfInBounds_toArray, List.set_cons_zero, List.set_cons_succ]
      refine wpE_takeX (some 39) (fun j => [3, 7, 8, 9].contains j) (i := 1) (v := .slice (some ⟨w.heap.size, 0, none⟩) n n) rfl rfl (by kernel_rfl) (by kernel_rfl) (by kernel_rfl) (by kernel_rfl) (fun j hj => by simp at hj; show j < 10; omega) (fun _ _ _ h => h) rfl (fun wq hS => by go_simp) hS0 ?_
      try simp only [Act.put, List.setIfInBounds_toArray, List.set_cons_zero, List.set_cons_succ]
      refine wpE_takeX (some 40) (fun j => [3, 7, 8, 9].contains j) (i := 2) (v := .int .i64 (j : Int)) rfl rfl (by kernel_rfl) (by kernel_rfl) (by kernel_rfl) (by kernel_rfl) (fun j hj => by simp at hj; show j < 10; omega) (fun _ _ _ h => h) rfl (fun wq hS => by go_simp) hS0 ?_
      try simp only [Act.put, List.setIfInBounds_toArray, List.set_cons_zero, List.set_cons_succ]
      refine wpE_takeX (some 41) (fun j => [7, 8, 9].contains j) (i := 3) (v := .slice (some ⟨w.heap.size, j * 4, none⟩) (n - j) (n - j)) rfl rfl (by kernel_rfl) (by kernel_rfl) (by kernel_rfl) (by kernel_rfl) (fun j hj => by simp at hj; show j < 10; omega) (fun _ _ _ h => h) rfl (fun wq hS => by go_simp) hS0 ?_
      try simp only [Act.put, List.setIfInBounds_toArray, List.set_cons_zero, List.set_cons_succ]
      refine wpE_takeX (some 42) (fun j => [6, 7, 8, 9].contains j) (i := 4) (v := .slice (some ⟨w.heap.size, 0, none⟩) n n) rfl rfl (by kernel_rfl) (by kernel_rfl) (by kernel_rfl) (by kernel_rfl) (fun j hj => by simp at hj; show j < 10; omega) (fun _ _ _ h => h) rfl (fun wq hS => by go_simp) hS0 ?_
      try simp only [Act.put, List.setIfInBounds_toArray, List.set_cons_zero, List.set_cons_succ]
      refine wpE_takeX (some 43) (fun j => [6, 7, 8, 9].contains j) (i := 5) (v := .int .i64 (j : Int)) rfl rfl (by kernel_rfl) (by kernel_rfl) (by kernel_rfl) (by kernel_rfl) (fun j hj => by simp at hj; show j < 10; omega) (fun _ _ _ h => h) rfl (fun wq hS => by go_simp) hS0 ?_
      try simp only [Act.put, List.setIfInBounds_toArray, List.set_cons_zero, List.set_cons_succ]
      refine wpE_takeX (some 44) (fun j => [7, 8, 9].contains j) (i := 6) (v := .slice (some ⟨w.heap.size, 0, none⟩) j n) rfl rfl (by kernel_rfl) (by kernel_rfl) (by kernel_rfl) (by kernel_rfl) (fun j hj => by simp at hj; show j < 10; omega) (fun _ _ _ h => h) rfl (fun wq hS => by go_simp) hS0 ?_
      try simp only [Act.put, List.setIfInBounds_toArray, List.set_cons_zero, List.set_cons_succ]
      refine wpE_one (i := 7) (by kernel_rfl) rfl rfl (fun K hK => ?_)
      go_simp
      refine hK _ _ (fun _ => ⟨trivial, trivial⟩) ?_
      clear hK K
      try simp only [Act.put, List.setIfInBounds_toArray, List.set_cons_zero, List.set_cons_succ]
      refine wpE_takeX (some 46) (fun j => [9].contains j) (i := 8) (v := .int .i64 ((j : Int) + (m : Int))) rfl rfl (by kernel_rfl) (by kernel_rfl) (by kernel_rfl) (by kernel_rfl) (fun j hj => by simp at hj; show j < 10; omega) (fun _ _ _ h => h) rfl (fun wq hS => by go_simp) hS0 ?_
      try simp only [Act.put, List.setIfInBounds_toArray, List.set_cons_zero, List.set_cons_succ]
      refine wpE_takeX (some 8) (fun j => [].contains j) (i := 9) (v := .int .i64 ((j : Int) + (m : Int))) rfl rfl (by kernel_rfl) (by kernel_rfl) (by kernel_rfl) (by kernel_rfl) (fun j hj => by simp at hj) (fun _ _ _ h => h) rfl (fun wq hS => by go_simp) hS0 ?_
      try simp only [Act.put, List.setIfInBounds_toArray, List.set_cons_zero, List.set_cons_succ]
      refine wpE_done (by kernel_rfl) ?_
      simp only [Exit.inBlock, Exit.then]
      refine ‹∀ (a : Act) (w : World), _ → _› _ _ ?_
      go_roundg (n - (j + m))
      case measure => omega
      case rel => exact ⟨j + m, rst', hmn, fun _ => by omega, rfl, by go_num, HX4, hB4'⟩
    · have hltI : ¬ (j : Int) < (n : Int) := by omega
      obtain rfl : j = n := by omega
      have hfin : Hid (wr.heap[w.heap.size]? = some (.cells (rowN j).toArray 31 (0, 0))) := by
        obtain ⟨h1, h2⟩ := HX.out
        have : rst = [] := List.eq_nil_of_length_eq_zero (by omega)
        rw [this, List.append_nil] at h1
        exact h1
      clear HX hj0
      go_wp2
      go_ret
      exact ⟨⟨_, rfl, Nat.le_refl _, hfin.out⟩, hBr⟩
end Go.Proofs.YtnijcolomoobnaaGreatDoor
namespace Go.Proofs.YtnijcolomoobnaaGreatDoor
open Go.RowKit
set_option linter.unusedVariables false
set_option linter.unusedSimpArgs false
attribute [local go_sem ↓] Go.wp_at_zero Go.wp_at_succ

def RowOf (B : Nat → Prop) (w : World) (l : List V) (a : Option Addr) (c : Nat) : Prop := ∃ nrow : List Value, nrow.length = l.length * 4 ∧ AllV B w l nrow ∧ (a = none → l.length = 0 ∧ c = 0) ∧ ∀ b, a = some b → ∀ (j : Nat) (u : Value), nrow[j]? = some u → w.cell? (b.add j) = some u
theorem RowOf.of {B : Nat → Prop} {w : World} {l : List V} {a : Option Addr} {n c : Nat} (h : IsVs B w l (.slice a n c)) : RowOf B w l a c := h.news
theorem cell_lt {w : World} {b : Addr} {u : Value} (h : w.cell? b = some u) : b.block < w.heap.size := by
  rcases hb : w.heap[b.block]? with _ | o
  · simp [World.cell?, hb] at h
  · exact (Array.getElem?_eq_some_iff.1 hb).1
theorem RowOf.below {B : Nat → Prop} {w w' : World} {l : List V} {a : Option Addr} {c : Nat} (h : RowOf B w l a c) (hb : Below w.heap.size w w') : RowOf B w' l a c := by
  obtain ⟨nrow, h1, h2, h3, h4⟩ := h
  exact ⟨nrow, h1, h2.since (Since.of_below hb), h3, fun b e j u hu => by rw [World.cell?_of_block (hb.block _ (cell_lt (h4 b e j u hu)))]; exact h4 b e j u hu⟩
theorem RowOf.base {B B' : Nat → Prop} {w : World} {l : List V} {a : Option Addr} {c : Nat} (h : RowOf B w l a c) (hb : ∀ k, B k → k < w.heap.size → B' k) : RowOf B' w l a c := by
  obtain ⟨nrow, h1, h2, h3, h4⟩ := h
  exact ⟨nrow, h1, h2.base hb, h3, h4⟩
theorem catL_le2 (L : Nat → List V) (q : Nat) (h : q ≤ 2) : (catL L q).length ≤ (catL L 2).length := by
  have h1 : (catL L 1).length = _ := catL_len L 0
  have h2 : (catL L 2).length = _ := catL_len L 1
  have : q = 0 ∨ q = 1 ∨ q = 2 := by omega
  rcases this with rfl | rfl | rfl <;> omega
set_option maxRecDepth 100000 in
set_option maxHeartbeats 2000000 in
theorem concat2_any {B : Nat → Prop} {L : Nat → List V} {a : Nat → Option Addr} {c : Nat → Nat} {g0 : Nat} {w : World} (hcell : ∀ q, q < 2 → w.cell? ⟨g0, q, none⟩ = some (.slice (a q) (L q).length (c q))) (hg0 : g0 < w.heap.size)
    (hvs : ∀ q, q < 2 → RowOf B w (L q) (a q) (c q)) (hsum : (catL L 2).length ≤ 1000000) :
    Calls Tryz.prog 66 #[.slice (some ⟨g0, 0, none⟩) 2 2] w fun r w' => (∃ ao cap, r = .returned (.slice ao (catL L 2).length cap) ∧ ∃ row, w'.ownsRow w.heap.size 31 4 (.slice ao (catL L 2).length cap) (catL L 2).length row ∧ AllV (Lob B w.heap.size) w' (catL L 2) row) ∧ Below w.heap.size w w' := by
  have hvs' : ∀ q, q < 2 → RowOf (Lob B w.heap.size) w (L q) (a q) (c q) := fun q hq => (hvs q hq).base (fun k h1 h => ⟨h1, h⟩)
  have hG := grow_nil (catL L 2).length (by omega) w
  have hround : ∀ (q : Nat) (wr : World) (v : Value) (row : List Value), q < 2 → Below w.heap.size w wr → wr.ownsRow w.heap.size 31 4 v (catL L q).length row → AllV (Lob B w.heap.size) wr (catL L q) row →
      ∃ ao cap w', (Builtin.append_ #[22, 22] 22 #[v, .slice (a q) (L q).length (c q)]).run Tryz.prog wr = .ok (.slice ao (catL L (q + 1)).length cap) w' ∧ (∃ row', w'.ownsRow w.heap.size 31 4 (.slice ao (catL L (q + 1)).length cap) (catL L (q + 1)).length row' ∧ AllV (Lob B w.heap.size) w' (catL L (q + 1)) row') ∧ Below w.heap.size w w' := by
    intro q wr v row hq hB hown hall
    obtain ⟨nrow, n1, n2, n3, n4⟩ := (hvs' q hq).below hB
    have hle := catL_le2 L (q + 1) (by omega)
    have hll := catL_len L q
    obtain ⟨ao, cap, w', hr, ho, hb, _⟩ := app_run Tryz.underlying22 valInfo rfl (by decide) 22 hown n3 n1 n4 n2.ones (by omega) (by decide) hB.size
    rw [← hll] at hr ho
    exact ⟨ao, cap, w', hr, ⟨_, ho, (hall.since (since_lo hb)).append (n2.since (since_lo hb))⟩, hB.trans hb⟩
  have hcl : ∀ (q : Nat) (wr : World), q < 2 → Below w.heap.size w wr → wr.cell? ⟨g0, q, none⟩ = some (.slice (a q) (L q).length (c q)) := fun q wr hq hB => ((bcell hB).1 _ _ hg0).trans (hcell q hq)
  clear hvs hvs' hcell
  go_enter Tryz.func66, Tryz.ntmps66
  go_wp2_with fail
  go_loopg [3, 11] 2 (fun g s i wr => ∃ q : Nat, q ≤ 2 ∧ g = 2 - q ∧ i = .int .i64 q ∧ s = .int .i64 (catL L q).length ∧ w = wr)
  case atStart => exact ⟨0, by omega, rfl, rfl, rfl, rfl⟩
  case round =>
    obtain ⟨q, hq, rfl, rfl, rfl, rfl⟩ := hrel
    by_cases hlt : q < 2
    · have hltI : (q : Int) < 2 := by omega
      have hc := hcl q w hlt (Below.refl _ _)
      have hle := catL_le2 L (q + 1) (by omega)
      have hll := catL_len L q
      have Hll : Hid ((catL L (q + 1)).length = (catL L q).length + (L q).length) := hll
      have hb1 : ((catL L q).length : Int) + ((L q).length : Int) ≤ 1000000 := by omega
      have hb2 : ¬ ((catL L q).length : Int) + ((L q).length : Int) < 0 := by omega
      clear hround hcl hG hll hle
      go_wp2_with fail
      go_roundg (2 - (q + 1))
      case measure => omega
      case rel => exact ⟨q + 1, by omega, rfl, by go_num, by rw [Hll.out]; go_num, rfl⟩
    · have hq3 : q = 2 := by omega
      subst hq3
      go_wp2_with fail
      refine hG.mono ?_
      rintro e w1 ⟨⟨ao, cap, rfl, hown⟩, hb1⟩
      clear hG
      go_wp2_with fail
      go_loopg [6, 27] 2 (fun g s i wr => ∃ (q : Nat) (ao : Option Addr) (cap : Nat), q ≤ 2 ∧ g = 2 - q ∧ i = .int .i64 q ∧ s = .slice ao (catL L q).length cap ∧ Hid (∃ row, wr.ownsRow w.heap.size 31 4 (.slice ao (catL L q).length cap) (catL L q).length row ∧ AllV (Lob B w.heap.size) wr (catL L q) row) ∧ Below w.heap.size w wr)
      case atStart => exact ⟨0, ao, cap, by omega, rfl, rfl, rfl, ⟨[], hown, by simp [catL, AllV]⟩, hb1⟩
      case round =>
        clear hown hb1
        obtain ⟨q, ao, cap, hq, rfl, rfl, rfl, HO, hB⟩ := hrel
        by_cases hlt : q < 2
        · have hltI : (q : Int) < 2 := by omega
          have hc := hcl q wr hlt hB
          obtain ⟨row, ho, ha⟩ := HO.out
          obtain ⟨ao', cap', w', hr, HO', hB'⟩ := hround q wr _ row hlt hB ho ha
          have HO2 : Hid (∃ row, w'.ownsRow w.heap.size 31 4 (.slice ao' (catL L (q + 1)).length cap') (catL L (q + 1)).length row ∧ AllV (Lob B w.heap.size) w' (catL L (q + 1)) row) := HO'
          clear HO HO' hround hcl
          go_wp2_with (at_builtin; refine Lib.wpList_append_run _ rfl _ _ 22 22 rfl _ _ rfl rfl _ _ hr ?_)
          go_roundg (2 - (q + 1))
          case measure => omega
          case rel => exact ⟨q + 1, ao', cap', by omega, rfl, by go_num, rfl, HO2, hB'⟩
        · have hq3 : q = 2 := by omega
          subst hq3
          clear hround hcl
          go_wp2
          go_ret
          exact ⟨⟨ao, cap, rfl, HO.out⟩, hB⟩
end Go.Proofs.YtnijcolomoobnaaGreatDoor
namespace Go.Proofs.YtnijcolomoobnaaGreatDoor
set_option linter.unusedVariables false
set_option linter.unusedSimpArgs false

theorem run_go {m : Md} {n g : Nat} {o : VOut} {N : Nx} {q : Nat} {loc sts : List V} (h : (match N with
    | .bad => none
    | .done o => some o
    | .go p' loc' stk' sts' fl' => vmRun it15 m g n p' loc' stk' sts' fl'
    | .call k lk s fl' => match vmRun it15 m g k 0 lk [] sts fl' with
      | none => none
      | some o => if o.trap ≠ 0 then some o else vmRun it15 m g n (q + 1) loc (s ++ [o.val]) o.sts o.fuel) = some o) : (∀ p' loc' stk' sts' fl', N = .go p' loc' stk' sts' fl' → vmRun it15 m g n p' loc' stk' sts' fl' = some o) ∧ (∀ o', N = .done o' → o' = o) ∧ (∀ k lk s fl', N = .call k lk s fl' → ∃ o', vmRun it15 m g k 0 lk [] sts fl' = some o' ∧ (o'.trap ≠ 0 → o' = o) ∧ (o'.trap = 0 → vmRun it15 m g n (q + 1) loc (s ++ [o'.val]) o'.sts o'.fuel = some o)) := by
  refine ⟨fun p' loc' stk' sts' fl' e => by rw [e] at h; exact h, fun o' e => by rw [e] at h; exact Option.some.inj h, fun k lk s fl' e => ?_⟩
  rw [e] at h
  have h' : (match vmRun it15 m g k 0 lk [] sts fl' with
      | none => none
      | some o => if o.trap ≠ 0 then some o else vmRun it15 m g n (q + 1) loc (s ++ [o.val]) o.sts o.fuel) = some o := h
  rcases ho : vmRun it15 m g k 0 lk [] sts fl' with _ | o'
  · rw [ho] at h'; cases h'
  rw [ho] at h'
  have h6 : (if o'.trap ≠ 0 then some o' else vmRun it15 m g n (q + 1) loc (s ++ [o'.val]) o'.sts o'.fuel) = some o := h'
  refine ⟨o', rfl, fun c => by rw [if_pos c] at h6; exact Option.some.inj h6, fun c => by rw [if_neg (by simp [c])] at h6; exact h6⟩
theorem vmI_op {it : Int → List UInt8} {m : Md} {i : In} {p : Nat} {loc s v sts : List V} {fl : Int} (h : 12 ≤ i.op) : vmI it m i p loc s v sts fl = if (opV it i v).2 ≠ 0 then .done ⟨zV, sts, fl, (opV it i v).2⟩ else .go (p + 1) loc (s ++ [(opV it i v).1]) sts fl := by
  unfold vmI
  rw [if_neg (by omega), if_neg (by omega), if_neg (by omega), if_neg (by omega), if_neg (by omega), if_neg (by omega), if_neg (fun e => by have := e.1; omega), if_neg (fun e => by rcases e with e | e; omega; have := e.1; omega), if_neg (by omega), if_neg (by omega), if_neg (by omega), if_neg (by omega)]
end Go.Proofs.YtnijcolomoobnaaGreatDoor
