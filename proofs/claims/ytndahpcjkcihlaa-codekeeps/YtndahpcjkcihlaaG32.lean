/- Texts of ours, joined: Vwr. -/
import Derived.Test.YtndahpcjkcihlaaG31
import Derived.Test.YtndahpcjkcihlaaG04
import Derived.Lib.AppendStr
/- Writing a value's bytes: the program's. -/
namespace Go.Proofs.Ytndahpcjkcihlaa
open Go.RowKit
set_option linter.unusedVariables false
set_option linter.unusedSimpArgs false
attribute [local go_sem ↓] Go.wp_at_zero Go.wp_at_succ

set_option maxRecDepth 100000 in
set_option maxHeartbeats 1000000 in
theorem pairs_any {B : Nat → Prop} {v : V} {ao : Option Addr} {cap : Nat} {w : World} (hv : IsW B w v (.slice ao v.l.length cap)) : Calls Try.prog 73 #[.agg #[.int .i64 v.k, .int .i64 v.n, .string ⟨v.t.toArray⟩, .slice ao v.l.length cap]] w fun r w' => r = .returned (.int .i64 ((v.l.length / 2 : Nat) : Int)) ∧ Below w.heap.size w w' := by
  obtain ⟨ao', cap', e, c1, c2⟩ := hv.vs.slice
  simp only [Value.slice.injEq] at e
  obtain ⟨rfl, -, rfl⟩ := e
  obtain ⟨w0, hW, hb0, hsz, d0, d1, d2, d3⟩ := boxed w v (.slice ao v.l.length cap)
  clear hv
  go_enter Try.func73, Try.ntmps73
  go_wp2
  go_ret
  exact ⟨ret_int (by omega), hb0⟩
set_option maxRecDepth 100000 in
set_option maxHeartbeats 2000000 in
theorem wr_bool {base : Nat} {v : V} (hok : ∀ x ∈ v.l, WrOk base x) (hk : v.k = 2) (hn : InR v.n) : WrOk base v := by
  intro bs ao asl cap cv w hown hbase hlen hv
  have hvs := hv.vs
  obtain ⟨asl', cv', e, c1, c2⟩ := hv.vs.slice
  simp only [Value.slice.injEq] at e
  obtain ⟨rfl, -, rfl⟩ := e
  obtain ⟨w0, hW, hb0, hsz, d0, d1, d2, d3⟩ := boxed w v (.slice asl v.l.length cv)
  have hbs : bs.length ≤ 800000 := by omega
  have hencl : (enc v).length = (encH v).length + (encs v.l).length := by rw [enc_eq]; simp
  have hlen2 : (bs ++ encH v).length + (encs v.l).length ≤ 800000 := by simp; omega
  have hrow := hown.lt
  have hH : encH v = nums [v.n] := by unfold encH; rw [if_neg (by omega), if_pos hk]; simp [nums]
  obtain ⟨w1, hW1⟩ : ∃ w1, w0.alloc (.cells #[.int .i64 v.n] 3) = w1 := ⟨_, rfl⟩
  have hb1 : Below w0.heap.size w0 w1 := by rw [← hW1]; exact (Below.refl _ _).alloc (Nat.le_refl _) _
  have hxs : IntsAt w1 (w.heap.size + 1) [v.n] := by rw [← hW1, ← hsz]; exact ints_one
  have hB1 : Below w.heap.size w w1 := hb0.trans (hb1.mono (by omega))
  have hs1 := hb1.size
  have hN := numbers_any (owns_below hown hB1) (by omega) (by omega) hxs (by simpa using hn) (by simp)
  rw [← hH] at hN
  simp only [List.length_cons, List.length_nil] at hN
  have q1 : (v.k == 1) = false := by simp [hk]
  have q2 : (v.k == 2) = true := by simp [hk]
  have q3 : (v.k == 3) = false := by simp [hk]
  have q4 : (v.k == 4) = false := by simp [hk]
  have q5 : (v.k == 5) = false := by simp [hk]
  clear hown hv hk hxs hencl
  go_enter Try.func46, Try.ntmps46
  go_wp2_with fail
  refine hN.mono ?_
  rintro e w4 ⟨⟨⟨a4, c4, rfl, h4, -⟩, hb4'⟩, hgrow⟩
  have hb4 : Below base w w4 := (hB1.mono hbase).trans hb4'
  have hblk : w4.heap[w.heap.size]? = w1.heap[w.heap.size]? := hgrow.block _ (by omega) (fun e => by have := (hrow _ e.symm).2; omega)
  have d3' : w4.cell? ⟨w.heap.size, 3, none⟩ = some (.slice asl v.l.length cv) := by rw [World.cell?_of_block (w := w1) hblk, (bcell hb1).1 _ _ (by omega)]; exact d3
  clear hN hH hgrow hblk d0 d1 d2 d3 hW hW1
  go_wp2_with fail
  go_loopg [0, 62] v.l.length (fun gh s i wr => ∃ (q : Nat) (ao : Option Addr) (cap : Nat), q ≤ v.l.length ∧ gh = v.l.length - q ∧ i = .int .i64 q ∧ s = .slice ao (bs ++ encH v ++ encs (v.l.take q)).length cap ∧ Hid (Own8 wr base ao cap (bs ++ encH v ++ encs (v.l.take q))) ∧ Below base w wr)
  case atStart => exact ⟨0, a4, c4, by omega, rfl, rfl, by simp [encs], by show Own8 _ _ _ _ _; simpa [encs] using h4, hb4⟩
  case round =>
    clear h4 hb4
    obtain ⟨q, ao, cap, hq, rfl, rfl, rfl, HO, hB⟩ := hrel
    by_cases hlt : q < v.l.length
    · obtain ⟨x, g, o, ax, cx, hx, rfl, hg, c0, c1, c2, c3, hcall⟩ := written_rest hok q hlt hvs hB hbase HO.out hlen2
      have hltI : (q : Int) < (v.l.length : Int) := by omega
      have hba : Below wr.heap.size wr (wr.alloc (.cells #[.int .i64 x.k, .int .i64 x.n, .string ⟨x.t.toArray⟩, .slice ax x.l.length cx] 29)) := (Below.refl _ _).alloc (Nat.le_refl _) _
      generalize (bs ++ encH v ++ encs (v.l.take q)).length = N at *
      clear hx HO
      go_wp2_with fail
      refine (hcall _ hba).mono ?_
      rintro e w5 ⟨⟨a5, c5, rfl, h5⟩, hb5⟩
      have HO2 : Hid (Own8 w5 base a5 c5 (bs ++ encH v ++ encs (v.l.take (q + 1)))) := h5
      obtain ⟨N5, HN5⟩ : ∃ N5, Hid ((bs ++ encH v ++ encs (v.l.take (q + 1))).length = N5) := ⟨_, rfl⟩
      rw [HN5.out]
      clear hcall h5
      go_wp2_with fail
      go_roundg (v.l.length - (q + 1))
      case measure => omega
      case rel => exact ⟨q + 1, a5, c5, by omega, rfl, by go_num, by rw [HN5.out], HO2, hb5⟩
    · have hltI : ¬ (q : Int) < (v.l.length : Int) := by omega
      have hqe : q = v.l.length := by omega
      have hfin : Own8 wr base ao cap (bs ++ enc v) := by
        have := HO.out
        rw [hqe, List.take_length, List.append_assoc, ← enc_eq] at this
        exact this
      have hN : Hid ((bs ++ encH v ++ encs (v.l.take q)).length = (bs ++ enc v).length) := by show _ = _; rw [hqe, List.take_length, List.append_assoc, ← enc_eq]
      clear HO hok hvs
      generalize (bs ++ encH v ++ encs (v.l.take q)).length = N at *
      go_wp2
      go_ret
      exact ⟨⟨ao, cap, ret_slice hN.out, hfin⟩, hB⟩
set_option maxRecDepth 100000 in
set_option maxHeartbeats 2000000 in
theorem wr_neg {base : Nat} {v : V} (hok : ∀ x ∈ v.l, WrOk base x) (hk : v.k = 1) (hn : InR v.n) (hneg : v.n < 0) : WrOk base v := by
  intro bs ao asl cap cv w hown hbase hlen hv
  have hvs := hv.vs
  obtain ⟨asl', cv', e, c1, c2⟩ := hv.vs.slice
  simp only [Value.slice.injEq] at e
  obtain ⟨rfl, -, rfl⟩ := e
  obtain ⟨w0, hW, hb0, hsz, d0, d1, d2, d3⟩ := boxed w v (.slice asl v.l.length cv)
  have hbs : bs.length ≤ 800000 := by omega
  have hencl : (enc v).length = (encH v).length + (encs v.l).length := by rw [enc_eq]; simp
  have hlen2 : (bs ++ encH v).length + (encs v.l).length ≤ 800000 := by simp; omega
  have hrow := hown.lt
  have hH : encH v = nums [1, (-(v.n + 1))] := by unfold encH; rw [if_pos hk, if_pos hneg]; simp [nums]
  obtain ⟨w1, hW1⟩ : ∃ w1, w0.alloc (.cells #[.int .i64 1, .int .i64 (-(v.n + 1))] 3) = w1 := ⟨_, rfl⟩
  have hb1 : Below w0.heap.size w0 w1 := by rw [← hW1]; exact (Below.refl _ _).alloc (Nat.le_refl _) _
  have hxs : IntsAt w1 (w.heap.size + 1) [1, (-(v.n + 1))] := by rw [← hW1, ← hsz]; exact ints_two
  have hB1 : Below w.heap.size w w1 := hb0.trans (hb1.mono (by omega))
  have hs1 := hb1.size
  have hN := numbers_any (owns_below hown hB1) (by omega) (by omega) hxs (by intro x hx; obtain ⟨h1, h2⟩ := hn; simp at hx; rcases hx with rfl | rfl <;> (constructor <;> omega)) (by simp)
  rw [← hH] at hN
  simp only [List.length_cons, List.length_nil] at hN
  have q1 : (v.k == 1) = true := by simp [hk]
  have q2 : (v.k == 2) = false := by simp [hk]
  have q3 : (v.k == 3) = false := by simp [hk]
  have q4 : (v.k == 4) = false := by simp [hk]
  have q5 : (v.k == 5) = false := by simp [hk]
  have hr1 : -9223372036854775808 ≤ v.n := hn.1
  clear hown hv hk hxs hencl
  go_enter Try.func46, Try.ntmps46
  go_wp2_with fail
  refine hN.mono ?_
  rintro e w4 ⟨⟨⟨a4, c4, rfl, h4, -⟩, hb4'⟩, hgrow⟩
  have hb4 : Below base w w4 := (hB1.mono hbase).trans hb4'
  have hblk : w4.heap[w.heap.size]? = w1.heap[w.heap.size]? := hgrow.block _ (by omega) (fun e => by have := (hrow _ e.symm).2; omega)
  have d3' : w4.cell? ⟨w.heap.size, 3, none⟩ = some (.slice asl v.l.length cv) := by rw [World.cell?_of_block (w := w1) hblk, (bcell hb1).1 _ _ (by omega)]; exact d3
  clear hN hH hgrow hblk d0 d1 d2 d3 hW hW1
  go_wp2_with fail
  go_loopg [0, 62] v.l.length (fun gh s i wr => ∃ (q : Nat) (ao : Option Addr) (cap : Nat), q ≤ v.l.length ∧ gh = v.l.length - q ∧ i = .int .i64 q ∧ s = .slice ao (bs ++ encH v ++ encs (v.l.take q)).length cap ∧ Hid (Own8 wr base ao cap (bs ++ encH v ++ encs (v.l.take q))) ∧ Below base w wr)
  case atStart => exact ⟨0, a4, c4, by omega, rfl, rfl, by simp [encs], by show Own8 _ _ _ _ _; simpa [encs] using h4, hb4⟩
  case round =>
    clear h4 hb4
    obtain ⟨q, ao, cap, hq, rfl, rfl, rfl, HO, hB⟩ := hrel
    by_cases hlt : q < v.l.length
    · obtain ⟨x, g, o, ax, cx, hx, rfl, hg, c0, c1, c2, c3, hcall⟩ := written_rest hok q hlt hvs hB hbase HO.out hlen2
      have hltI : (q : Int) < (v.l.length : Int) := by omega
      have hba : Below wr.heap.size wr (wr.alloc (.cells #[.int .i64 x.k, .int .i64 x.n, .string ⟨x.t.toArray⟩, .slice ax x.l.length cx] 29)) := (Below.refl _ _).alloc (Nat.le_refl _) _
      generalize (bs ++ encH v ++ encs (v.l.take q)).length = N at *
      clear hx HO
      go_wp2_with fail
      refine (hcall _ hba).mono ?_
      rintro e w5 ⟨⟨a5, c5, rfl, h5⟩, hb5⟩
      have HO2 : Hid (Own8 w5 base a5 c5 (bs ++ encH v ++ encs (v.l.take (q + 1)))) := h5
      obtain ⟨N5, HN5⟩ : ∃ N5, Hid ((bs ++ encH v ++ encs (v.l.take (q + 1))).length = N5) := ⟨_, rfl⟩
      rw [HN5.out]
      clear hcall h5
      go_wp2_with fail
      go_roundg (v.l.length - (q + 1))
      case measure => omega
      case rel => exact ⟨q + 1, a5, c5, by omega, rfl, by go_num, by rw [HN5.out], HO2, hb5⟩
    · have hltI : ¬ (q : Int) < (v.l.length : Int) := by omega
      have hqe : q = v.l.length := by omega
      have hfin : Own8 wr base ao cap (bs ++ enc v) := by
        have := HO.out
        rw [hqe, List.take_length, List.append_assoc, ← enc_eq] at this
        exact this
      have hN : Hid ((bs ++ encH v ++ encs (v.l.take q)).length = (bs ++ enc v).length) := by show _ = _; rw [hqe, List.take_length, List.append_assoc, ← enc_eq]
      clear HO hok hvs
      generalize (bs ++ encH v ++ encs (v.l.take q)).length = N at *
      go_wp2
      go_ret
      exact ⟨⟨ao, cap, ret_slice hN.out, hfin⟩, hB⟩
set_option maxRecDepth 100000 in
set_option maxHeartbeats 2000000 in
theorem wr_pos {base : Nat} {v : V} (hok : ∀ x ∈ v.l, WrOk base x) (hk : v.k = 1) (hn : InR v.n) (hneg : ¬ v.n < 0) : WrOk base v := by
  intro bs ao asl cap cv w hown hbase hlen hv
  have hvs := hv.vs
  obtain ⟨asl', cv', e, c1, c2⟩ := hv.vs.slice
  simp only [Value.slice.injEq] at e
  obtain ⟨rfl, -, rfl⟩ := e
  obtain ⟨w0, hW, hb0, hsz, d0, d1, d2, d3⟩ := boxed w v (.slice asl v.l.length cv)
  have hbs : bs.length ≤ 800000 := by omega
  have hencl : (enc v).length = (encH v).length + (encs v.l).length := by rw [enc_eq]; simp
  have hlen2 : (bs ++ encH v).length + (encs v.l).length ≤ 800000 := by simp; omega
  have hrow := hown.lt
  have hH : encH v = nums [0, v.n] := by unfold encH; rw [if_pos hk, if_neg hneg]; simp [nums]
  obtain ⟨w1, hW1⟩ : ∃ w1, w0.alloc (.cells #[.int .i64 0, .int .i64 v.n] 3) = w1 := ⟨_, rfl⟩
  have hb1 : Below w0.heap.size w0 w1 := by rw [← hW1]; exact (Below.refl _ _).alloc (Nat.le_refl _) _
  have hxs : IntsAt w1 (w.heap.size + 1) [0, v.n] := by rw [← hW1, ← hsz]; exact ints_two
  have hB1 : Below w.heap.size w w1 := hb0.trans (hb1.mono (by omega))
  have hs1 := hb1.size
  have hN := numbers_any (owns_below hown hB1) (by omega) (by omega) hxs (by intro x hx; obtain ⟨h1, h2⟩ := hn; simp at hx; rcases hx with rfl | rfl <;> (constructor <;> omega)) (by simp)
  rw [← hH] at hN
  simp only [List.length_cons, List.length_nil] at hN
  have q1 : (v.k == 1) = true := by simp [hk]
  have q2 : (v.k == 2) = false := by simp [hk]
  have q3 : (v.k == 3) = false := by simp [hk]
  have q4 : (v.k == 4) = false := by simp [hk]
  have q5 : (v.k == 5) = false := by simp [hk]
  clear hown hv hk hxs hencl
  go_enter Try.func46, Try.ntmps46
  go_wp2_with fail
  refine hN.mono ?_
  rintro e w4 ⟨⟨⟨a4, c4, rfl, h4, -⟩, hb4'⟩, hgrow⟩
  have hb4 : Below base w w4 := (hB1.mono hbase).trans hb4'
  have hblk : w4.heap[w.heap.size]? = w1.heap[w.heap.size]? := hgrow.block _ (by omega) (fun e => by have := (hrow _ e.symm).2; omega)
  have d3' : w4.cell? ⟨w.heap.size, 3, none⟩ = some (.slice asl v.l.length cv) := by rw [World.cell?_of_block (w := w1) hblk, (bcell hb1).1 _ _ (by omega)]; exact d3
  clear hN hH hgrow hblk d0 d1 d2 d3 hW hW1
  go_wp2_with fail
  go_loopg [0, 62] v.l.length (fun gh s i wr => ∃ (q : Nat) (ao : Option Addr) (cap : Nat), q ≤ v.l.length ∧ gh = v.l.length - q ∧ i = .int .i64 q ∧ s = .slice ao (bs ++ encH v ++ encs (v.l.take q)).length cap ∧ Hid (Own8 wr base ao cap (bs ++ encH v ++ encs (v.l.take q))) ∧ Below base w wr)
  case atStart => exact ⟨0, a4, c4, by omega, rfl, rfl, by simp [encs], by show Own8 _ _ _ _ _; simpa [encs] using h4, hb4⟩
  case round =>
    clear h4 hb4
    obtain ⟨q, ao, cap, hq, rfl, rfl, rfl, HO, hB⟩ := hrel
    by_cases hlt : q < v.l.length
    · obtain ⟨x, g, o, ax, cx, hx, rfl, hg, c0, c1, c2, c3, hcall⟩ := written_rest hok q hlt hvs hB hbase HO.out hlen2
      have hltI : (q : Int) < (v.l.length : Int) := by omega
      have hba : Below wr.heap.size wr (wr.alloc (.cells #[.int .i64 x.k, .int .i64 x.n, .string ⟨x.t.toArray⟩, .slice ax x.l.length cx] 29)) := (Below.refl _ _).alloc (Nat.le_refl _) _
      generalize (bs ++ encH v ++ encs (v.l.take q)).length = N at *
      clear hx HO
      go_wp2_with fail
      refine (hcall _ hba).mono ?_
      rintro e w5 ⟨⟨a5, c5, rfl, h5⟩, hb5⟩
      have HO2 : Hid (Own8 w5 base a5 c5 (bs ++ encH v ++ encs (v.l.take (q + 1)))) := h5
      obtain ⟨N5, HN5⟩ : ∃ N5, Hid ((bs ++ encH v ++ encs (v.l.take (q + 1))).length = N5) := ⟨_, rfl⟩
      rw [HN5.out]
      clear hcall h5
      go_wp2_with fail
      go_roundg (v.l.length - (q + 1))
      case measure => omega
      case rel => exact ⟨q + 1, a5, c5, by omega, rfl, by go_num, by rw [HN5.out], HO2, hb5⟩
    · have hltI : ¬ (q : Int) < (v.l.length : Int) := by omega
      have hqe : q = v.l.length := by omega
      have hfin : Own8 wr base ao cap (bs ++ enc v) := by
        have := HO.out
        rw [hqe, List.take_length, List.append_assoc, ← enc_eq] at this
        exact this
      have hN : Hid ((bs ++ encH v ++ encs (v.l.take q)).length = (bs ++ enc v).length) := by show _ = _; rw [hqe, List.take_length, List.append_assoc, ← enc_eq]
      clear HO hok hvs
      generalize (bs ++ encH v ++ encs (v.l.take q)).length = N at *
      go_wp2
      go_ret
      exact ⟨⟨ao, cap, ret_slice hN.out, hfin⟩, hB⟩
set_option maxRecDepth 100000 in
set_option maxHeartbeats 2000000 in
theorem wr_list {base : Nat} {v : V} (hok : ∀ x ∈ v.l, WrOk base x) (hk : v.k = 4) : WrOk base v := by
  intro bs ao asl cap cv w hown hbase hlen hv
  have hvs := hv.vs
  obtain ⟨asl', cv', e, c1, c2⟩ := hv.vs.slice
  simp only [Value.slice.injEq] at e
  obtain ⟨rfl, -, rfl⟩ := e
  obtain ⟨w0, hW, hb0, hsz, d0, d1, d2, d3⟩ := boxed w v (.slice asl v.l.length cv)
  have hbs : bs.length ≤ 800000 := by omega
  have hencl : (enc v).length = (encH v).length + (encs v.l).length := by rw [enc_eq]; simp
  have hlen2 : (bs ++ encH v).length + (encs v.l).length ≤ 800000 := by simp; omega
  have hrow := hown.lt
  have hH : encH v = nums [(v.l.length : Int)] := by unfold encH; rw [if_neg (by omega), if_neg (by omega), if_neg (by omega), if_pos hk]; simp [nums]
  obtain ⟨w1, hW1⟩ : ∃ w1, w0.alloc (.cells #[.int .i64 (v.l.length : Int)] 3) = w1 := ⟨_, rfl⟩
  have hb1 : Below w0.heap.size w0 w1 := by rw [← hW1]; exact (Below.refl _ _).alloc (Nat.le_refl _) _
  have hxs : IntsAt w1 (w.heap.size + 1) [(v.l.length : Int)] := by rw [← hW1, ← hsz]; exact ints_one
  have hB1 : Below w.heap.size w w1 := hb0.trans (hb1.mono (by omega))
  have hs1 := hb1.size
  have hN := numbers_any (owns_below hown hB1) (by omega) (by omega) hxs (by intro x hx; simp at hx; subst hx; constructor <;> omega) (by simp)
  rw [← hH] at hN
  simp only [List.length_cons, List.length_nil] at hN
  have q1 : (v.k == 1) = false := by simp [hk]
  have q2 : (v.k == 2) = false := by simp [hk]
  have q3 : (v.k == 3) = false := by simp [hk]
  have q4 : (v.k == 4) = true := by simp [hk]
  have q5 : (v.k == 5) = false := by simp [hk]
  clear hown hv hk hxs hencl
  go_enter Try.func46, Try.ntmps46
  go_wp2_with fail
  refine hN.mono ?_
  rintro e w4 ⟨⟨⟨a4, c4, rfl, h4, -⟩, hb4'⟩, hgrow⟩
  have hb4 : Below base w w4 := (hB1.mono hbase).trans hb4'
  have hblk : w4.heap[w.heap.size]? = w1.heap[w.heap.size]? := hgrow.block _ (by omega) (fun e => by have := (hrow _ e.symm).2; omega)
  have d3' : w4.cell? ⟨w.heap.size, 3, none⟩ = some (.slice asl v.l.length cv) := by rw [World.cell?_of_block (w := w1) hblk, (bcell hb1).1 _ _ (by omega)]; exact d3
  clear hN hH hgrow hblk d0 d1 d2 d3 hW hW1
  go_wp2_with fail
  go_loopg [0, 62] v.l.length (fun gh s i wr => ∃ (q : Nat) (ao : Option Addr) (cap : Nat), q ≤ v.l.length ∧ gh = v.l.length - q ∧ i = .int .i64 q ∧ s = .slice ao (bs ++ encH v ++ encs (v.l.take q)).length cap ∧ Hid (Own8 wr base ao cap (bs ++ encH v ++ encs (v.l.take q))) ∧ Below base w wr)
  case atStart => exact ⟨0, a4, c4, by omega, rfl, rfl, by simp [encs], by show Own8 _ _ _ _ _; simpa [encs] using h4, hb4⟩
  case round =>
    clear h4 hb4
    obtain ⟨q, ao, cap, hq, rfl, rfl, rfl, HO, hB⟩ := hrel
    by_cases hlt : q < v.l.length
    · obtain ⟨x, g, o, ax, cx, hx, rfl, hg, c0, c1, c2, c3, hcall⟩ := written_rest hok q hlt hvs hB hbase HO.out hlen2
      have hltI : (q : Int) < (v.l.length : Int) := by omega
      have hba : Below wr.heap.size wr (wr.alloc (.cells #[.int .i64 x.k, .int .i64 x.n, .string ⟨x.t.toArray⟩, .slice ax x.l.length cx] 29)) := (Below.refl _ _).alloc (Nat.le_refl _) _
      generalize (bs ++ encH v ++ encs (v.l.take q)).length = N at *
      clear hx HO
      go_wp2_with fail
      refine (hcall _ hba).mono ?_
      rintro e w5 ⟨⟨a5, c5, rfl, h5⟩, hb5⟩
      have HO2 : Hid (Own8 w5 base a5 c5 (bs ++ encH v ++ encs (v.l.take (q + 1)))) := h5
      obtain ⟨N5, HN5⟩ : ∃ N5, Hid ((bs ++ encH v ++ encs (v.l.take (q + 1))).length = N5) := ⟨_, rfl⟩
      rw [HN5.out]
      clear hcall h5
      go_wp2_with fail
      go_roundg (v.l.length - (q + 1))
      case measure => omega
      case rel => exact ⟨q + 1, a5, c5, by omega, rfl, by go_num, by rw [HN5.out], HO2, hb5⟩
    · have hltI : ¬ (q : Int) < (v.l.length : Int) := by omega
      have hqe : q = v.l.length := by omega
      have hfin : Own8 wr base ao cap (bs ++ enc v) := by
        have := HO.out
        rw [hqe, List.take_length, List.append_assoc, ← enc_eq] at this
        exact this
      have hN : Hid ((bs ++ encH v ++ encs (v.l.take q)).length = (bs ++ enc v).length) := by show _ = _; rw [hqe, List.take_length, List.append_assoc, ← enc_eq]
      clear HO hok hvs
      generalize (bs ++ encH v ++ encs (v.l.take q)).length = N at *
      go_wp2
      go_ret
      exact ⟨⟨ao, cap, ret_slice hN.out, hfin⟩, hB⟩
set_option maxRecDepth 100000 in
set_option maxHeartbeats 2000000 in
theorem wr_map {base : Nat} {v : V} (hok : ∀ x ∈ v.l, WrOk base x) (hk : v.k = 5) : WrOk base v := by
  intro bs ao asl cap cv w hown hbase hlen hv
  have hvs := hv.vs
  obtain ⟨asl', cv', e, c1, c2⟩ := hv.vs.slice
  simp only [Value.slice.injEq] at e
  obtain ⟨rfl, -, rfl⟩ := e
  obtain ⟨w0, hW, hb0, hsz, d0, d1, d2, d3⟩ := boxed w v (.slice asl v.l.length cv)
  have hbs : bs.length ≤ 800000 := by omega
  have hencl : (enc v).length = (encH v).length + (encs v.l).length := by rw [enc_eq]; simp
  have hlen2 : (bs ++ encH v).length + (encs v.l).length ≤ 800000 := by simp; omega
  have hrow := hown.lt
  have hH : encH v = nums [((v.l.length / 2 : Nat) : Int)] := by unfold encH; rw [if_neg (by omega), if_neg (by omega), if_neg (by omega), if_neg (by omega), if_pos hk]; simp only [nums, List.flatMap_cons, List.flatMap_nil, List.append_nil, Int.toNat_natCast]
  have hP := pairs_any (hv.below hb0)
  have hN : ∀ w9, Below w0.heap.size w0 w9 → Calls Try.prog 72 #[.slice ao bs.length cap, .slice (some ⟨w9.heap.size, 0, none⟩) 1 1] (w9.alloc (.cells #[.int .i64 ((v.l.length / 2 : Nat) : Int)] 3)) fun r w' => ((∃ ao' cap', r = .returned (.slice ao' (bs ++ encH v).length cap') ∧ Own8 w' base ao' cap' (bs ++ encH v) ∧ ∀ k, Value.ownBlock (.slice ao' (bs ++ encH v).length cap') = some k → Value.ownBlock (.slice ao bs.length cap) = some k ∨ (w9.alloc (.cells #[.int .i64 ((v.l.length / 2 : Nat) : Int)] 3)).heap.size ≤ k) ∧ Below base (w9.alloc (.cells #[.int .i64 ((v.l.length / 2 : Nat) : Int)] 3)) w') ∧ (w9.alloc (.cells #[.int .i64 ((v.l.length / 2 : Nat) : Int)] 3)).grownBy w' (Value.ownBlock (.slice ao bs.length cap)) := by
    intro w9 hb9
    have hba : Below w9.heap.size w9 (w9.alloc (.cells #[.int .i64 ((v.l.length / 2 : Nat) : Int)] 3)) := (Below.refl _ _).alloc (Nat.le_refl _) _
    have hB9 : Below w.heap.size w (w9.alloc (.cells #[.int .i64 ((v.l.length / 2 : Nat) : Int)] 3)) := (hb0.trans (hb9.mono (by omega))).trans (hba.mono (by have := hb9.size; omega))
    have := numbers_any (owns_below hown hB9) (by omega) (by have := hB9.size; omega) ints_one (by intro x hx; simp at hx; subst hx; constructor <;> omega) (by simp)
    rw [← hH] at this
    exact this
  have q1 : (v.k == 1) = false := by simp [hk]
  have q2 : (v.k == 2) = false := by simp [hk]
  have q3 : (v.k == 3) = false := by simp [hk]
  have q4 : (v.k == 4) = false := by simp [hk]
  have q5 : (v.k == 5) = true := by simp [hk]
  clear hown hv hk hencl
  generalize hhalf : ((v.l.length / 2 : Nat) : Int) = half at *
  clear hhalf
  go_enter Try.func46, Try.ntmps46
  go_wp2_with fail
  refine hP.mono ?_
  rintro e w9 ⟨rfl, hb9⟩
  replace hN := hN w9 hb9
  have hba : Below w9.heap.size w9 (w9.alloc (.cells #[.int .i64 half] 3)) := (Below.refl _ _).alloc (Nat.le_refl _) _
  have hb1 : Below w0.heap.size w0 (w9.alloc (.cells #[.int .i64 half] 3)) := hb9.trans (hba.mono hb9.size)
  have hB1 : Below w.heap.size w (w9.alloc (.cells #[.int .i64 half] 3)) := hb0.trans (hb1.mono (by omega))
  obtain ⟨w1, hW1⟩ : ∃ w1, w9.alloc (.cells #[.int .i64 half] 3) = w1 := ⟨_, rfl⟩
  rw [hW1] at hN hb1 hB1
  have hs1 := hb1.size
  go_wp2_with fail
  refine hN.mono ?_
  rintro e w4 ⟨⟨⟨a4, c4, rfl, h4, -⟩, hb4'⟩, hgrow⟩
  have hb4 : Below base w w4 := (hB1.mono hbase).trans hb4'
  have hblk : w4.heap[w.heap.size]? = w1.heap[w.heap.size]? := hgrow.block _ (by omega) (fun e => by have := (hrow _ e.symm).2; omega)
  have d3' : w4.cell? ⟨w.heap.size, 3, none⟩ = some (.slice asl v.l.length cv) := by rw [World.cell?_of_block (w := w1) hblk, (bcell hb1).1 _ _ (by omega)]; exact d3
  clear hN hP hH hgrow hblk d0 d1 d2 d3 hW hW1
  go_wp2_with fail
  go_loopg [0, 62] v.l.length (fun gh s i wr => ∃ (q : Nat) (ao : Option Addr) (cap : Nat), q ≤ v.l.length ∧ gh = v.l.length - q ∧ i = .int .i64 q ∧ s = .slice ao (bs ++ encH v ++ encs (v.l.take q)).length cap ∧ Hid (Own8 wr base ao cap (bs ++ encH v ++ encs (v.l.take q))) ∧ Below base w wr)
  case atStart => exact ⟨0, a4, c4, by omega, rfl, rfl, by simp [encs], by show Own8 _ _ _ _ _; simpa [encs] using h4, hb4⟩
  case round =>
    clear h4 hb4
    obtain ⟨q, ao, cap, hq, rfl, rfl, rfl, HO, hB⟩ := hrel
    by_cases hlt : q < v.l.length
    · obtain ⟨x, g, o, ax, cx, hx, rfl, hg, c0, c1, c2, c3, hcall⟩ := written_rest hok q hlt hvs hB hbase HO.out hlen2
      have hltI : (q : Int) < (v.l.length : Int) := by omega
      have hba : Below wr.heap.size wr (wr.alloc (.cells #[.int .i64 x.k, .int .i64 x.n, .string ⟨x.t.toArray⟩, .slice ax x.l.length cx] 29)) := (Below.refl _ _).alloc (Nat.le_refl _) _
      generalize (bs ++ encH v ++ encs (v.l.take q)).length = N at *
      clear hx HO
      go_wp2_with fail
      refine (hcall _ hba).mono ?_
      rintro e w5 ⟨⟨a5, c5, rfl, h5⟩, hb5⟩
      have HO2 : Hid (Own8 w5 base a5 c5 (bs ++ encH v ++ encs (v.l.take (q + 1)))) := h5
      obtain ⟨N5, HN5⟩ : ∃ N5, Hid ((bs ++ encH v ++ encs (v.l.take (q + 1))).length = N5) := ⟨_, rfl⟩
      rw [HN5.out]
      clear hcall h5
      go_wp2_with fail
      go_roundg (v.l.length - (q + 1))
      case measure => omega
      case rel => exact ⟨q + 1, a5, c5, by omega, rfl, by go_num, by rw [HN5.out], HO2, hb5⟩
    · have hltI : ¬ (q : Int) < (v.l.length : Int) := by omega
      have hqe : q = v.l.length := by omega
      have hfin : Own8 wr base ao cap (bs ++ enc v) := by
        have := HO.out
        rw [hqe, List.take_length, List.append_assoc, ← enc_eq] at this
        exact this
      have hN : Hid ((bs ++ encH v ++ encs (v.l.take q)).length = (bs ++ enc v).length) := by show _ = _; rw [hqe, List.take_length, List.append_assoc, ← enc_eq]
      clear HO hok hvs
      generalize (bs ++ encH v ++ encs (v.l.take q)).length = N at *
      go_wp2
      go_ret
      exact ⟨⟨ao, cap, ret_slice hN.out, hfin⟩, hB⟩
set_option maxRecDepth 100000 in
set_option maxHeartbeats 2000000 in
theorem wr_other {base : Nat} {v : V} (hok : ∀ x ∈ v.l, WrOk base x) (h1 : v.k ≠ 1) (h2 : v.k ≠ 2) (h3 : v.k ≠ 3) (h4 : v.k ≠ 4) (h5 : v.k ≠ 5) : WrOk base v := by
  intro bs ao asl cap cv w hown hbase hlen hv
  have hvs := hv.vs
  obtain ⟨asl', cv', e, c1, c2⟩ := hv.vs.slice
  simp only [Value.slice.injEq] at e
  obtain ⟨rfl, -, rfl⟩ := e
  obtain ⟨w0, hW, hb0, hsz, d0, d1, d2, d3⟩ := boxed w v (.slice asl v.l.length cv)
  have hbs : bs.length ≤ 800000 := by omega
  have hencl : (enc v).length = (encH v).length + (encs v.l).length := by rw [enc_eq]; simp
  have hlen2 : (bs ++ encH v).length + (encs v.l).length ≤ 800000 := by simp; omega
  have hrow := hown.lt
  have hH : encH v = [] := by unfold encH; rw [if_neg h1, if_neg h2, if_neg h3, if_neg h4, if_neg h5]
  have hs1 : w0.heap.size ≤ w0.heap.size := Nat.le_refl _
  have q1 : (v.k == 1) = false := by simp [h1]
  have q2 : (v.k == 2) = false := by simp [h2]
  have q3 : (v.k == 3) = false := by simp [h3]
  have q4 : (v.k == 4) = false := by simp [h4]
  have q5 : (v.k == 5) = false := by simp [h5]
  clear h1 h2 h3 h4 h5
  obtain ⟨a4, c4, h4, hcc, hb4⟩ : ∃ a4 c4, Own8 w0 base a4 c4 (bs ++ encH v) ∧ (a4 = ao ∧ c4 = cap) ∧ Below base w w0 := ⟨ao, cap, by rw [hH, List.append_nil]; exact owns_below hown hb0, ⟨rfl, rfl⟩, hb0.mono hbase⟩
  obtain ⟨rfl, rfl⟩ := hcc
  have hHl : bs.length = (bs ++ encH v).length := by rw [hH, List.append_nil]
  clear hown hv hencl hH
  rw [hHl]
  clear hHl
  obtain ⟨N0, Hgl⟩ : ∃ N0, Hid ((bs ++ encH v).length = N0) := ⟨_, rfl⟩
  rw [Hgl.out]
  go_enter Try.func46, Try.ntmps46
  go_wp2_with fail
  go_loopg [0, 62] v.l.length (fun gh s i wr => ∃ (q : Nat) (ao : Option Addr) (cap : Nat), q ≤ v.l.length ∧ gh = v.l.length - q ∧ i = .int .i64 q ∧ s = .slice ao (bs ++ encH v ++ encs (v.l.take q)).length cap ∧ Hid (Own8 wr base ao cap (bs ++ encH v ++ encs (v.l.take q))) ∧ Below base w wr)
  case atStart => exact ⟨0, a4, c4, by omega, rfl, rfl, by rw [← Hgl.out]; simp [encs], by show Own8 _ _ _ _ _; simpa [encs] using h4, hb4⟩
  case round =>
    clear h4 hb4
    obtain ⟨q, ao, cap, hq, rfl, rfl, rfl, HO, hB⟩ := hrel
    by_cases hlt : q < v.l.length
    · obtain ⟨x, g, o, ax, cx, hx, rfl, hg, c0, c1, c2, c3, hcall⟩ := written_rest hok q hlt hvs hB hbase HO.out hlen2
      have hltI : (q : Int) < (v.l.length : Int) := by omega
      have hba : Below wr.heap.size wr (wr.alloc (.cells #[.int .i64 x.k, .int .i64 x.n, .string ⟨x.t.toArray⟩, .slice ax x.l.length cx] 29)) := (Below.refl _ _).alloc (Nat.le_refl _) _
      generalize (bs ++ encH v ++ encs (v.l.take q)).length = N at *
      clear hx HO
      go_wp2_with fail
      refine (hcall _ hba).mono ?_
      rintro e w5 ⟨⟨a5, c5, rfl, h5⟩, hb5⟩
      have HO2 : Hid (Own8 w5 base a5 c5 (bs ++ encH v ++ encs (v.l.take (q + 1)))) := h5
      obtain ⟨N5, HN5⟩ : ∃ N5, Hid ((bs ++ encH v ++ encs (v.l.take (q + 1))).length = N5) := ⟨_, rfl⟩
      rw [HN5.out]
      clear hcall h5
      go_wp2_with fail
      go_roundg (v.l.length - (q + 1))
      case measure => omega
      case rel => exact ⟨q + 1, a5, c5, by omega, rfl, by go_num, by rw [HN5.out], HO2, hb5⟩
    · have hltI : ¬ (q : Int) < (v.l.length : Int) := by omega
      have hqe : q = v.l.length := by omega
      have hfin : Own8 wr base ao cap (bs ++ enc v) := by
        have := HO.out
        rw [hqe, List.take_length, List.append_assoc, ← enc_eq] at this
        exact this
      have hN : Hid ((bs ++ encH v ++ encs (v.l.take q)).length = (bs ++ enc v).length) := by show _ = _; rw [hqe, List.take_length, List.append_assoc, ← enc_eq]
      clear HO hok hvs
      generalize (bs ++ encH v ++ encs (v.l.take q)).length = N at *
      go_wp2
      go_ret
      exact ⟨⟨ao, cap, ret_slice hN.out, hfin⟩, hB⟩
set_option maxRecDepth 100000 in
set_option maxHeartbeats 2000000 in
theorem wr_text {base : Nat} {v : V} (hok : ∀ x ∈ v.l, WrOk base x) (hk : v.k = 3) : WrOk base v := by
  intro bs ao asl cap cv w hown hbase hlen hv
  have hvs := hv.vs
  obtain ⟨asl', cv', e, c1, c2⟩ := hv.vs.slice
  simp only [Value.slice.injEq] at e
  obtain ⟨rfl, -, rfl⟩ := e
  obtain ⟨w0, hW, hb0, hsz, d0, d1, d2, d3⟩ := boxed w v (.slice asl v.l.length cv)
  have hbs : bs.length ≤ 800000 := by omega
  have hencl : (enc v).length = (encH v).length + (encs v.l).length := by rw [enc_eq]; simp
  have hlen2 : (bs ++ encH v).length + (encs v.l).length ≤ 800000 := by simp; omega
  have hrow := hown.lt
  have hH : encH v = nums [(v.t.length : Int)] ++ v.t := by unfold encH; rw [if_neg (by omega), if_neg (by omega), if_pos hk]; simp [nums]
  have htl : v.t.length ≤ 800000 := by have := congrArg List.length hH; simp at this; omega
  obtain ⟨w1, hW1⟩ : ∃ w1, w0.alloc (.cells #[.int .i64 (v.t.length : Int)] 3) = w1 := ⟨_, rfl⟩
  have hb1 : Below w0.heap.size w0 w1 := by rw [← hW1]; exact (Below.refl _ _).alloc (Nat.le_refl _) _
  have hxs : IntsAt w1 (w.heap.size + 1) [(v.t.length : Int)] := by rw [← hW1, ← hsz]; exact ints_one
  have hB1 : Below w.heap.size w w1 := hb0.trans (hb1.mono (by omega))
  have hs1 := hb1.size
  have hN : ∀ w8, Below w1.heap.size w1 w8 → Calls Try.prog 72 #[.slice ao bs.length cap, .slice (some ⟨w.heap.size + 1, 0, none⟩) 1 1] w8 fun r w' => ((∃ ao' cap', r = .returned (.slice ao' (bs ++ nums [(v.t.length : Int)]).length cap') ∧ Own8 w' base ao' cap' (bs ++ nums [(v.t.length : Int)]) ∧ ∀ k, Value.ownBlock (.slice ao' (bs ++ nums [(v.t.length : Int)]).length cap') = some k → Value.ownBlock (.slice ao bs.length cap) = some k ∨ w8.heap.size ≤ k) ∧ Below base w8 w') ∧ w8.grownBy w' (Value.ownBlock (.slice ao bs.length cap)) := by
    intro w8 hb8
    have hB8 : Below w.heap.size w w8 := hB1.trans (hb8.mono hB1.size)
    exact numbers_any (owns_below hown hB8) (by omega) (by have := hB8.size; omega) (hxs.below hb8) (by intro x hx; simp at hx; subst hx; constructor <;> omega) (by simp)
  have hAp : ∀ w5 a5 c5, base ≤ w5.heap.size → Own8 w5 base a5 c5 (bs ++ nums [(v.t.length : Int)]) → ∃ a6 c6 w6, (Builtin.append_ #[34, 9] 34 #[.slice a5 (bs ++ nums [(v.t.length : Int)]).length c5, .string ⟨v.t.toArray⟩]).run Try.prog w5 = .ok (.slice a6 (bs ++ encH v).length c6) w6 ∧ Own8 w6 base a6 c6 (bs ++ encH v) ∧ Below base w5 w6 ∧ w5.grownBy w6 (Value.ownBlock (.slice a5 (bs ++ nums [(v.t.length : Int)]).length c5)) := by
    intro w5 a5 c5 hb5 ho5
    obtain ⟨i, hi, hz, hs, hby⟩ := info_parts byteInfo
    have hnl := nums_len [(v.t.length : Int)] (by intro x hx; simp at hx; subst hx; constructor <;> omega)
    simp only [List.length_cons, List.length_nil] at hnl
    have hsz' : (⟨v.t.toArray⟩ : ByteArray).size = v.t.length := by show v.t.toArray.size = _; simp
    obtain ⟨v', w6, h1, h2, h3, _⟩ := Lib.run_append_own_string (P := Try.prog) w5 base 34 9 34 5 i Try.underlying34 Try.underlying9 hi hz hs hby _ _ _ ho5 ⟨v.t.toArray⟩ (by rw [hsz']; unfold maxLen; simp; omega) (by rw [hsz']; simp; omega) hb5
    obtain ⟨a6, c6, rfl, _, _⟩ := owns_slice h2
    have hll : (bs ++ nums [(v.t.length : Int)]).length + (⟨v.t.toArray⟩ : ByteArray).size = (bs ++ encH v).length := by rw [hsz', hH]; simp; omega
    have hcc : c8 (bs ++ nums [(v.t.length : Int)]) ++ Lib.strCells ⟨v.t.toArray⟩ = c8 (bs ++ encH v) := by rw [hH, ← List.append_assoc, c8_append (bs ++ nums [(v.t.length : Int)])]; rfl
    rw [hll] at h1 h2
    rw [hcc] at h2
    exact ⟨a6, c6, w6, h1, h2, (Below.refl _ _).grown h3 hb5 (fun k hk => (ho5.lt k hk).1), h3⟩
  have q1 : (v.k == 1) = false := by simp [hk]
  have q2 : (v.k == 2) = false := by simp [hk]
  have q3 : (v.k == 3) = true := by simp [hk]
  have q4 : (v.k == 4) = false := by simp [hk]
  have q5 : (v.k == 5) = false := by simp [hk]
  clear hown hv hk hencl hxs hH
  go_enter Try.func46, Try.ntmps46
  go_wp2_with fail
  refine wpE_begin (S := fun w' => w'.cell? ⟨w.heap.size, 2, none⟩ = some (.string ⟨v.t.toArray⟩)) (N := fun _ => true) (by kernel_rfl) ?_
  have hS0 : w0.drew.cell? ⟨w.heap.size, 2, none⟩ = some (.string ⟨v.t.toArray⟩) := d2
  refine wpE_take (i := 0) (v := .slice ao bs.length cap) rfl (by kernel_rfl) (by kernel_rfl) (by kernel_rfl) (by kernel_rfl) (fun _ _ _ h => h) rfl (fun w' hS => by go_simp) hS0 ?_
  try simp only [Act.put, List.setIfInBounds_toArray, List.set_cons_zero, List.set_cons_succ]
  refine wpE_take (i := 1) (v := .pointer (some ⟨w.heap.size, 2, none⟩)) rfl (by kernel_rfl) (by kernel_rfl) (by kernel_rfl) (by kernel_rfl) (fun _ _ _ h => h) rfl (fun w' hS => by go_simp) hS0 ?_
  try simp only [Act.put, List.setIfInBounds_toArray, List.set_cons_zero, List.set_cons_succ]
  refine wpE_take (i := 2) (v := .string ⟨v.t.toArray⟩) rfl (by kernel_rfl) (by kernel_rfl) (by kernel_rfl) (by kernel_rfl) (fun _ _ _ h => h) rfl (fun w' hS => by go_simp) hS0 ?_
  try simp only [Act.put, List.setIfInBounds_toArray, List.set_cons_zero, List.set_cons_succ]
  refine wpE_take (i := 3) (v := .int .i64 v.t.length) rfl (by kernel_rfl) (by kernel_rfl) (by kernel_rfl) (by kernel_rfl) (fun _ _ _ h => h) rfl (fun w' hS => by go_simp) hS0 ?_
  try simp only [Act.put, List.setIfInBounds_toArray, List.set_cons_zero, List.set_cons_succ]
  refine wpE_take (i := 6) (v := .pointer (some ⟨w.heap.size, 2, none⟩)) rfl (by kernel_rfl) (by kernel_rfl) (by kernel_rfl) (by kernel_rfl) (fun _ _ _ h => h) rfl (fun w' hS => by go_simp) hS0 ?_
  try simp only [Act.put, List.setIfInBounds_toArray, List.set_cons_zero, List.set_cons_succ]
  refine wpE_take (i := 7) (v := .string ⟨v.t.toArray⟩) rfl (by kernel_rfl) (by kernel_rfl) (by kernel_rfl) (by kernel_rfl) (fun _ _ _ h => h) rfl (fun w' hS => by go_simp) hS0 ?_
  try simp only [Act.put, List.setIfInBounds_toArray, List.set_cons_zero, List.set_cons_succ]
  refine wpE_one (i := 4) (by kernel_rfl) rfl rfl (fun K hK => ?_)
  go_simp
  have e2 : w1.cell? ⟨w.heap.size, 2, none⟩ = some (.string ⟨v.t.toArray⟩) := ((bcell hb1).1 _ _ (by omega)).trans d2
  refine hK _ _ (fun _ => e2) ?_
  clear hK K
  try simp only [Act.put, List.setIfInBounds_toArray, List.set_cons_zero, List.set_cons_succ]
  refine wpE_one (i := 5) (by kernel_rfl) rfl rfl (fun K hK => ?_)
  go_simp
  refine (hN _ (Below.refl _ _).drew).mono ?_
  rintro e w5 ⟨⟨⟨a5, c5, rfl, h5, hat5⟩, hb5⟩, hgrow5⟩
  have hblk5 : w5.heap[w.heap.size]? = w1.heap[w.heap.size]? := hgrow5.block _ (show w.heap.size < w1.heap.size by omega) (fun e => by have := (hrow _ e.symm).2; omega)
  have e5 : w5.cell? ⟨w.heap.size, 2, none⟩ = some (.string ⟨v.t.toArray⟩) := (World.cell?_of_block (w := w1) hblk5).trans e2
  have hs5 : w1.heap.size ≤ w5.heap.size := hgrow5.size
  have hB5 : Below base w w5 := (hB1.mono hbase).trans (Below.trans (b := w1.drew) ((Below.refl _ _).drew) hb5)
  obtain ⟨a4, c4, w4, hr4, h4, hb54, hgrow4⟩ := hAp w5 a5 c5 (by omega) h5
  refine hK _ _ (fun _ => e5) ?_
  clear hK K
  try simp only [Act.put, List.setIfInBounds_toArray, List.set_cons_zero, List.set_cons_succ]
  refine wpE_one (i := 8) (by kernel_rfl) rfl rfl (fun K hK => ?_)
  refine Lib.wp_append_run _ _ _ 34 9 rfl _ _ rfl rfl _ _ hr4 ?_
  have hne5 : some w.heap.size ≠ Value.ownBlock (.slice a5 (bs ++ nums [(v.t.length : Int)]).length c5) := by
    intro e
    rcases hat5 _ e.symm with h | h
    · have := (hrow _ h).2; omega
    · have : w1.heap.size ≤ w.heap.size := h; omega
  have hb4 : Below base w w4 := hB5.trans hb54
  have hblk4 : w4.heap[w.heap.size]? = w5.heap[w.heap.size]? := hgrow4.block _ (by omega) hne5
  refine hK _ _ (fun _ => (World.cell?_of_block (w := w5) hblk4).trans e5) ?_
  clear hK K
  try simp only [Act.put, List.setIfInBounds_toArray, List.set_cons_zero, List.set_cons_succ]
  refine wpE_one (i := 9) (by kernel_rfl) rfl rfl (fun K hK => ?_)
  go_simp
  refine hK _ _ (fun _ => (World.cell?_of_block (w := w5) hblk4).trans e5) ?_
  clear hK K
  try simp only [Act.put, List.setIfInBounds_toArray, List.set_cons_zero, List.set_cons_succ]
  refine wpE_done (by kernel_rfl) ?_
  have d3' : w4.cell? ⟨w.heap.size, 3, none⟩ = some (.slice asl v.l.length cv) := by rw [World.cell?_of_block (w := w5) hblk4, World.cell?_of_block (w := w1) hblk5, (bcell hb1).1 _ _ (by omega)]; exact d3
  obtain ⟨N4, HN4⟩ : ∃ N4, Hid (bs.length + (encH v).length = N4) := ⟨_, rfl⟩
  rw [HN4.out]
  clear hN hAp hgrow4 hgrow5 hblk4 hblk5 e2 e5 h5 hat5 hr4 hS0 d0 d1 d2 d3 hW hW1 hne5
  simp only [Exit.inBlock, Exit.then]
  refine ‹∀ (a : Act) (w : World), _ → _› _ _ ?_
  go_wp2_with fail
  go_loopg [0, 62] v.l.length (fun gh s i wr => ∃ (q : Nat) (ao : Option Addr) (cap : Nat), q ≤ v.l.length ∧ gh = v.l.length - q ∧ i = .int .i64 q ∧ s = .slice ao (bs ++ encH v ++ encs (v.l.take q)).length cap ∧ Hid (Own8 wr base ao cap (bs ++ encH v ++ encs (v.l.take q))) ∧ Below base w wr)
  case atStart => exact ⟨0, a4, c4, by omega, rfl, rfl, by rw [← HN4.out]; simp [encs], by show Own8 _ _ _ _ _; simpa [encs] using h4, hb4⟩
  case round =>
    clear h4 hb4
    obtain ⟨q, ao, cap, hq, rfl, rfl, rfl, HO, hB⟩ := hrel
    by_cases hlt : q < v.l.length
    · obtain ⟨x, g, o, ax, cx, hx, rfl, hg, c0, c1, c2, c3, hcall⟩ := written_rest hok q hlt hvs hB hbase HO.out hlen2
      have hltI : (q : Int) < (v.l.length : Int) := by omega
      have hba : Below wr.heap.size wr (wr.alloc (.cells #[.int .i64 x.k, .int .i64 x.n, .string ⟨x.t.toArray⟩, .slice ax x.l.length cx] 29)) := (Below.refl _ _).alloc (Nat.le_refl _) _
      generalize (bs ++ encH v ++ encs (v.l.take q)).length = N at *
      clear hx HO
      go_wp2_with fail
      refine (hcall _ hba).mono ?_
      rintro e w5 ⟨⟨a5, c5, rfl, h5⟩, hb5⟩
      have HO2 : Hid (Own8 w5 base a5 c5 (bs ++ encH v ++ encs (v.l.take (q + 1)))) := h5
      obtain ⟨N5, HN5⟩ : ∃ N5, Hid ((bs ++ encH v ++ encs (v.l.take (q + 1))).length = N5) := ⟨_, rfl⟩
      rw [HN5.out]
      clear hcall h5
      go_wp2_with fail
      go_roundg (v.l.length - (q + 1))
      case measure => omega
      case rel => exact ⟨q + 1, a5, c5, by omega, rfl, by go_num, by rw [HN5.out], HO2, hb5⟩
    · have hltI : ¬ (q : Int) < (v.l.length : Int) := by omega
      have hqe : q = v.l.length := by omega
      have hfin : Own8 wr base ao cap (bs ++ enc v) := by
        have := HO.out
        rw [hqe, List.take_length, List.append_assoc, ← enc_eq] at this
        exact this
      have hN : Hid ((bs ++ encH v ++ encs (v.l.take q)).length = (bs ++ enc v).length) := by show _ = _; rw [hqe, List.take_length, List.append_assoc, ← enc_eq]
      clear HO hok hvs
      generalize (bs ++ encH v ++ encs (v.l.take q)).length = N at *
      go_wp2
      go_ret
      exact ⟨⟨ao, cap, ret_slice hN.out, hfin⟩, hB⟩
theorem wr_all (base : Nat) : ∀ (N : Nat) (v : V), wt v < N → WrOk base v := by
  intro N
  induction N with
  | zero => intro v h; omega
  | succ N ih =>
    intro v h
    have hok : ∀ x ∈ v.l, WrOk base x := fun x hx => ih x (by have := wts_mem hx; have := wt_eq v; omega)
    intro bs ao asl cap cv w hown hbase hlen hv
    by_cases h1 : v.k = 1
    · by_cases hn : v.n < 0
      · exact wr_neg hok h1 hv.nr hn bs ao asl cap cv w hown hbase hlen hv
      · exact wr_pos hok h1 hv.nr hn bs ao asl cap cv w hown hbase hlen hv
    by_cases h2 : v.k = 2
    · exact wr_bool hok h2 hv.nr bs ao asl cap cv w hown hbase hlen hv
    by_cases h3 : v.k = 3
    · exact wr_text hok h3 bs ao asl cap cv w hown hbase hlen hv
    by_cases h4 : v.k = 4
    · exact wr_list hok h4 bs ao asl cap cv w hown hbase hlen hv
    by_cases h5 : v.k = 5
    · exact wr_map hok h5 bs ao asl cap cv w hown hbase hlen hv
    exact wr_other hok h1 h2 h3 h4 h5 bs ao asl cap cv w hown hbase hlen hv
end Go.Proofs.Ytndahpcjkcihlaa
