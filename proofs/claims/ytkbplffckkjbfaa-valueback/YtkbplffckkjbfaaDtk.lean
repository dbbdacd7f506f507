/- Take: the program's. -/
import Derived.Test.YtkbplffckkjbfaaVcc
import Derived.Test.YtkbplffckkjbfaaMd
import Derived.Deep.LoopGhost
namespace Go.Proofs.Ytkbplffckkjbfaa
open Go.RowKit
set_option linter.unusedVariables false
set_option linter.unusedSimpArgs false

/-- A slice of these bytes. -/
def IsB (B : Nat → Prop) (w : World) (sl : Value) (bs : List UInt8) : Prop := ∃ ao cap, sl = .slice ao bs.length cap ∧ bs.length ≤ cap ∧ cap ≤ 9223372036854775807 ∧ (ao = none → cap = 0) ∧ (bs ≠ [] → ∃ g o, ao = some ⟨g, o, none⟩ ∧ B g ∧ g < w.heap.size ∧ ∀ (i : Nat) (b : UInt8), bs[i]? = some b → w.cell? ⟨g, o + i, none⟩ = some (.int .u8 b.toNat))
theorem bsize (wx : World) : (sizeOf (Try.prog.elem 52)).run Try.prog wx = .ok 1 wx := by kernel_rfl
theorem belem : Try.prog.underlying 52 = some (.slice (Try.prog.elem 52)) := by kernel_rfl
def cutB (a : Option Addr) (lo cap : Nat) : Option Addr := if cap = lo then a else a.map (·.add lo)
theorem bcut_high (a : Option Addr) (len cap hi : Nat) (h : hi ≤ cap) (wx : World) :
    (Instr.slice 52 (.slice a len cap) none (some (.int .i64 (hi : Int))) none).run Try.prog wx = .ok (.slice a hi cap) wx := by
  rw [run_slice_h (P := Try.prog) wx 52 a len cap belem .i64 hi (by omega) (by omega), bsize]
  cases a <;> simp [Result.andThen, sliced, Addr.add]
theorem bcut_low (a : Option Addr) (len cap lo : Nat) (h1 : lo ≤ len) (wx : World) :
    (Instr.slice 52 (.slice a len cap) (some (.int .i64 (lo : Int))) none none).run Try.prog wx = .ok (.slice (cutB a lo cap) (len - lo) (cap - lo)) wx := by
  rw [run_slice_l (P := Try.prog) wx 52 a len cap belem .i64 lo (by omega) (by omega), bsize]
  simp [Result.andThen, sliced, cutB]
theorem pow7 (q : Nat) : 128 ^ q = 2 ^ (7 * q) := by rw [show (128 : Nat) = 2 ^ 7 by decide, ← Nat.pow_mul]
theorem or_add {X d q : Nat} (hX : X < 128 ^ q) (hd : d < 128) (hq : q ≤ 8) : bits BinOp.or IntKind.i64 (X : Int) (wrap64 ((d : Int) * 2 ^ (7 * q))) = ((X + d * 128 ^ q : Nat) : Int) := by
  rw [pow7] at *
  have h56 : 2 ^ (7 * q) ≤ 2 ^ 56 := Nat.pow_le_pow_right (by omega) (by omega)
  have hY : d * 2 ^ (7 * q) ≤ 127 * 2 ^ 56 := Nat.mul_le_mul (by omega) h56
  have hc : ((d : Int) * 2 ^ (7 * q)) = ((d * 2 ^ (7 * q) : Nat) : Int) := by push_cast; rfl
  have hor : X ||| d * 2 ^ (7 * q) = X + d * 2 ^ (7 * q) := by
    have := Nat.two_pow_add_eq_or_of_lt hX d
    rw [Nat.or_comm, Nat.mul_comm d, ← this]
    omega
  rw [hc]
  generalize d * 2 ^ (7 * q) = Y at *
  have hw : wrap64 (Y : Int) = (Y : Int) := by unfold wrap64; omega
  rw [hw]
  show IntKind.i64.wrap (((BitVec.ofInt 64 (X : Int) ||| BitVec.ofInt 64 (Y : Int)).toNat : Nat) : Int) = _
  have e1 : (BitVec.ofInt 64 (X : Int) ||| BitVec.ofInt 64 (Y : Int)).toNat = X ||| Y := by
    rw [BitVec.toNat_or, BitVec.toNat_ofInt, BitVec.toNat_ofInt]
    congr 1 <;> omega
  rw [e1, hor, IntKind.wrap_i64]
  omega
set_option maxRecDepth 100000 in
set_option maxHeartbeats 2000000 in
theorem take_short {B : Nat → Prop} {w : World} {sl : Value} {bs : List UInt8} (hb : IsB B w sl bs) (h9 : bs.length ≤ 9) :
    Calls Try.prog 110 #[sl] w fun r w' => r = .returned (.tuple #[.int .i64 ((tk bs).1 : Nat), .int .i64 ((tk bs).2 : Nat)]) ∧ w' = w := by
  obtain ⟨ao, cap, rfl, hc1, hc2, -, hcell⟩ := hb
  have hq1 := bcut_high ao bs.length cap bs.length (by omega)
  have hI9 : (bs.length : Int) ≤ 9 := by omega
  have hT : Hid (tk bs = tkL 0 0 (bs.drop 0)) := by show _ = _; unfold tk; simp
  go_enter Try.func110, Try.ntmps110
  go_wp2_with fail
  go_loopg [4, 13] 9 (fun g x i wr => ∃ (q X : Nat), q ≤ bs.length ∧ g = 9 - q ∧ x = .int .i64 X ∧ i = .int .i64 q ∧ Hid (tk bs = tkL q X (bs.drop q)) ∧ Hid (X < 128 ^ q) ∧ wr = w)
  case atStart => exact ⟨0, 0, by omega, rfl, rfl, rfl, hT, by show _ < _; decide, rfl⟩
  case round =>
    clear hT
    obtain ⟨q, X, hq, rfl, rfl, rfl, HT, HX, rfl⟩ := hrel
    by_cases hlt : q < bs.length
    · have hltI : (q : Int) < (bs.length : Int) := by omega
      have hq0 : (0 : Int) ≤ (q : Int) := by omega
      have hltb : q < bs.length := by omega
      obtain ⟨g, o, rfl, hBg, hgl, hc⟩ := hcell (by intro e; rw [e] at hltb; simp at hltb)
      have hcq := hc q bs[q] (List.getElem?_eq_getElem hltb)
      have hgq : bs[q]? = some bs[q] := List.getElem?_eq_getElem hltb
      have hcl := bs[q].toNat_lt
      generalize bs[q] = c at *
      have hD := tkL_drop (x := X) hgq
      rw [if_neg (by omega)] at hD
      obtain ⟨Y, HY⟩ : ∃ Y : Nat, Hid (X + c.toNat % 128 * 128 ^ q = Y) := ⟨_, rfl⟩
      have hor : bits BinOp.or IntKind.i64 (X : Int) (wrap64 ((c.toNat : Int) % 128 * 2 ^ (7 * q))) = (Y : Int) := by
        rw [← HY.out]
        exact or_add (d := c.toNat % 128) HX.out (by omega) (by omega)
      have hYb : Hid (Y < 128 ^ (q + 1)) := by show _ < _; rw [← HY.out]; exact tkL_bound HX.out (by omega)
      rw [HY.out] at hD
      clear hc hcell HY hgq
      by_cases h128 : 128 ≤ c.toNat
      · have hcI : (128 : Int) ≤ (c.toNat : Int) := by omega
        rw [if_pos h128] at hD
        have HT2 : Hid (tk bs = tkL (q + 1) Y (bs.drop (q + 1))) := by show _ = _; rw [HT.out, hD]
        clear hD HT HX
        go_wp2_with fail
        go_roundg (9 - (q + 1))
        case measure => omega
        case rel => exact ⟨q + 1, Y, by omega, rfl, rfl, by go_num, HT2, hYb, rfl⟩
      · have hcI : ¬ (128 : Int) ≤ (c.toNat : Int) := by omega
        rw [if_neg h128] at hD
        by_cases h0 : c.toNat = 0
        · have h0I : (c.toNat : Int) = 0 := by omega
          have h0b : ((c.toNat : Int) == 0) = true := by simp [h0]
          by_cases hqp : 0 < q
          · have hqI : (0 : Int) < (q : Int) := by omega
            rw [if_pos ⟨h0, hqp⟩] at hD
            have HT2 : Hid (tk bs = (0, 0)) := by show _ = _; rw [HT.out, hD]
            clear hD HT HX h0I h0
            go_wp2
            go_ret2
            exact ⟨by rw [HT2.out]; rfl, rfl⟩
          · have hqI : ¬ (0 : Int) < (q : Int) := by omega
            rw [if_neg (fun h => hqp h.2)] at hD
            have HT2 : Hid (tk bs = (Y, q + 1)) := by show _ = _; rw [HT.out, hD]
            clear hD HT HX h0I h0
            go_wp2
            go_ret2
            exact ⟨by rw [HT2.out]; rfl, rfl⟩
        · have h0b : ((c.toNat : Int) == 0) = false := by simp; omega
          rw [if_neg (fun h => h0 h.1)] at hD
          have HT2 : Hid (tk bs = (Y, q + 1)) := by show _ = _; rw [HT.out, hD]
          clear hD HT HX
          go_wp2
          go_ret2
          exact ⟨by rw [HT2.out]; rfl, rfl⟩
    · have hltI : ¬ (q : Int) < (bs.length : Int) := by omega
      have HT2 : Hid (tk bs = (0, 0)) := by
        show _ = _
        rw [HT.out]
        rw [List.drop_of_length_le (by omega)]; rfl
      clear HT HX
      go_wp2
      go_ret2
      exact ⟨by rw [HT2.out]; rfl, rfl⟩
set_option maxRecDepth 100000 in
set_option maxHeartbeats 2000000 in
theorem take_long {B : Nat → Prop} {w : World} {sl : Value} {bs : List UInt8} (hb : IsB B w sl bs) (h9 : 9 < bs.length) :
    Calls Try.prog 110 #[sl] w fun r w' => r = .returned (.tuple #[.int .i64 ((tk bs).1 : Nat), .int .i64 ((tk bs).2 : Nat)]) ∧ w' = w := by
  obtain ⟨ao, cap, rfl, hc1, hc2, -, hcell⟩ := hb
  have hq1 : ∀ wx, (Instr.slice 52 (.slice ao bs.length cap) none (some (.int .i64 9)) none).run Try.prog wx = .ok (.slice ao 9 cap) wx := fun wx => bcut_high ao bs.length cap 9 (by omega) wx
  have hI9 : ¬ (bs.length : Int) ≤ 9 := by omega
  have hT : Hid (tk bs = tkL 0 0 (bs.drop 0)) := by show _ = _; unfold tk; simp
  go_enter Try.func110, Try.ntmps110
  go_wp2_with fail
  go_loopg [4, 13] 9 (fun g x i wr => ∃ (q X : Nat), q ≤ 9 ∧ g = 9 - q ∧ x = .int .i64 X ∧ i = .int .i64 q ∧ Hid (tk bs = tkL q X (bs.drop q)) ∧ Hid (X < 128 ^ q) ∧ wr = w)
  case atStart => exact ⟨0, 0, by omega, rfl, rfl, rfl, hT, by show _ < _; decide, rfl⟩
  case round =>
    clear hT
    obtain ⟨q, X, hq, rfl, rfl, rfl, HT, HX, rfl⟩ := hrel
    by_cases hlt : q < 9
    · have hltI : (q : Int) < 9 := by omega
      have hq0 : (0 : Int) ≤ (q : Int) := by omega
      have hltb : q < bs.length := by omega
      obtain ⟨g, o, rfl, hBg, hgl, hc⟩ := hcell (by intro e; rw [e] at hltb; simp at hltb)
      have hcq := hc q bs[q] (List.getElem?_eq_getElem hltb)
      have hgq : bs[q]? = some bs[q] := List.getElem?_eq_getElem hltb
      have hcl := bs[q].toNat_lt
      generalize bs[q] = c at *
      have hD := tkL_drop (x := X) hgq
      rw [if_neg (by omega)] at hD
      obtain ⟨Y, HY⟩ : ∃ Y : Nat, Hid (X + c.toNat % 128 * 128 ^ q = Y) := ⟨_, rfl⟩
      have hor : bits BinOp.or IntKind.i64 (X : Int) (wrap64 ((c.toNat : Int) % 128 * 2 ^ (7 * q))) = (Y : Int) := by
        rw [← HY.out]
        exact or_add (d := c.toNat % 128) HX.out (by omega) (by omega)
      have hYb : Hid (Y < 128 ^ (q + 1)) := by show _ < _; rw [← HY.out]; exact tkL_bound HX.out (by omega)
      rw [HY.out] at hD
      clear hc hcell HY hgq
      by_cases h128 : 128 ≤ c.toNat
      · have hcI : (128 : Int) ≤ (c.toNat : Int) := by omega
        rw [if_pos h128] at hD
        have HT2 : Hid (tk bs = tkL (q + 1) Y (bs.drop (q + 1))) := by show _ = _; rw [HT.out, hD]
        clear hD HT HX
        go_wp2_with fail
        go_roundg (9 - (q + 1))
        case measure => omega
        case rel => exact ⟨q + 1, Y, by omega, rfl, rfl, by go_num, HT2, hYb, rfl⟩
      · have hcI : ¬ (128 : Int) ≤ (c.toNat : Int) := by omega
        rw [if_neg h128] at hD
        by_cases h0 : c.toNat = 0
        · have h0I : (c.toNat : Int) = 0 := by omega
          have h0b : ((c.toNat : Int) == 0) = true := by simp [h0]
          by_cases hqp : 0 < q
          · have hqI : (0 : Int) < (q : Int) := by omega
            rw [if_pos ⟨h0, hqp⟩] at hD
            have HT2 : Hid (tk bs = (0, 0)) := by show _ = _; rw [HT.out, hD]
            clear hD HT HX h0I h0
            go_wp2
            go_ret2
            exact ⟨by rw [HT2.out]; rfl, rfl⟩
          · have hqI : ¬ (0 : Int) < (q : Int) := by omega
            rw [if_neg (fun h => hqp h.2)] at hD
            have HT2 : Hid (tk bs = (Y, q + 1)) := by show _ = _; rw [HT.out, hD]
            clear hD HT HX h0I h0
            go_wp2
            go_ret2
            exact ⟨by rw [HT2.out]; rfl, rfl⟩
        · have h0b : ((c.toNat : Int) == 0) = false := by simp; omega
          rw [if_neg (fun h => h0 h.1)] at hD
          have HT2 : Hid (tk bs = (Y, q + 1)) := by show _ = _; rw [HT.out, hD]
          clear hD HT HX
          go_wp2
          go_ret2
          exact ⟨by rw [HT2.out]; rfl, rfl⟩
    · have hltI : ¬ (q : Int) < 9 := by omega
      have HT2 : Hid (tk bs = (0, 0)) := by
        show _ = _
        rw [HT.out]
        exact tkL_nine (by omega)
      clear HT HX
      go_wp2
      go_ret2
      exact ⟨by rw [HT2.out]; rfl, rfl⟩
theorem take_any {B : Nat → Prop} {w : World} {sl : Value} {bs : List UInt8} (hb : IsB B w sl bs) :
    Calls Try.prog 110 #[sl] w fun r w' => r = .returned (.tuple #[.int .i64 ((tk bs).1 : Nat), .int .i64 ((tk bs).2 : Nat)]) ∧ w' = w := by
  by_cases h : bs.length ≤ 9
  · exact take_short hb h
  · exact take_long hb (by omega)
end Go.Proofs.Ytkbplffckkjbfaa
