/- Texts of ours, joined: Md, Dtk, Drd. -/
import Derived.Test.YtndahpcjkcihlaaGreatG01
import Derived.Test.YtndahpcjkcihlaaGreatG19
import Derived.Deep.LoopGhost
import Derived.Test.YtndahpcjkcihlaaGreatG02
/- Numbers and values out of bytes. Plain mathematics. -/
namespace Go.Proofs.YtndahpcjkcihlaaGreat
set_option linter.unusedVariables false
set_option linter.unusedSimpArgs false

/-- The number that bytes begin with, and how many it has: behind i bytes that made x. -/
def tkL : Nat → Nat → List UInt8 → Nat × Nat
  | _, _, [] => (0, 0)
  | i, x, c :: r => if 9 ≤ i then (0, 0) else if 128 ≤ c.toNat then tkL (i + 1) (x + c.toNat % 128 * 128 ^ i) r else if c.toNat = 0 ∧ 0 < i then (0, 0) else (x + c.toNat % 128 * 128 ^ i, i + 1)
def tk (bs : List UInt8) : Nat × Nat := tkL 0 0 bs
theorem tkL_nine {i x : Nat} {bs : List UInt8} (h : 9 ≤ i) : tkL i x bs = (0, 0) := by
  cases bs with
  | nil => rfl
  | cons c r => rw [tkL, if_pos h]
theorem tkL_drop {i x : Nat} {bs : List UInt8} {c : UInt8} (h : bs[i]? = some c) : tkL i x (bs.drop i) = if 9 ≤ i then (0, 0) else if 128 ≤ c.toNat then tkL (i + 1) (x + c.toNat % 128 * 128 ^ i) (bs.drop (i + 1)) else if c.toNat = 0 ∧ 0 < i then (0, 0) else (x + c.toNat % 128 * 128 ^ i, i + 1) := by
  obtain ⟨hi, rfl⟩ := List.getElem?_eq_some_iff.1 h
  rw [List.drop_eq_getElem_cons hi, tkL]
theorem pow_succ128 (i : Nat) : 128 ^ (i + 1) = 128 ^ i * 128 := Nat.pow_succ ..
theorem tkL_bound {x d i : Nat} (hx : x < 128 ^ i) (hd : d < 128) : x + d * 128 ^ i < 128 ^ (i + 1) := by
  rw [pow_succ128]
  have : d * 128 ^ i + 128 ^ i ≤ 128 * 128 ^ i := by
    have h := Nat.mul_le_mul_right (128 ^ i) (show d + 1 ≤ 128 by omega)
    rw [Nat.add_mul, Nat.one_mul] at h; exact h
  rw [Nat.mul_comm] at this
  rw [Nat.mul_comm (128 ^ i) 128]
  rw [Nat.mul_comm d] at *
  omega
theorem ofNat_toNat {n : Nat} (h : n < 256) : (UInt8.ofNat n).toNat = n := by
  rw [UInt8.toNat_ofNat']; omega
/-- What was put is taken. -/
theorem tkL_num : ∀ (f n i x : Nat) (r : List UInt8), n < 128 ^ (f + 1) → i + f ≤ 8 → (i = 0 ∨ 0 < n) → tkL i x (num n ++ r) = (x + n * 128 ^ i, i + (num n).length)
  | 0, n, i, x, r, hn, hi, hp => by
    have hn' : n < 128 := by simpa using hn
    rw [num_lt hn', List.singleton_append, tkL, if_neg (by omega), ofNat_toNat (by omega), if_neg (by omega), if_neg (by omega), Nat.mod_eq_of_lt hn']
    rfl
  | f + 1, n, i, x, r, hn, hi, hp => by
    by_cases h : n < 128
    · rw [num_lt h, List.singleton_append, tkL, if_neg (by omega), ofNat_toNat (by omega), if_neg (by omega), if_neg (by omega), Nat.mod_eq_of_lt h]
      rfl
    · have hq : n / 128 < 128 ^ (f + 1) := by rw [Nat.div_lt_iff_lt_mul (by omega)]; rw [pow_succ128] at hn; exact hn
      have ih := tkL_num f (n / 128) (i + 1) (x + n % 128 * 128 ^ i) r hq (by omega) (Or.inr (by omega))
      rw [num_ge h, List.cons_append, tkL, if_neg (by omega), ofNat_toNat (by omega), if_pos (by omega)]
      have e : (n % 128 + 128) % 128 = n % 128 := by omega
      rw [e, ih]
      have e2 : n % 128 * 128 ^ i + n / 128 * 128 ^ (i + 1) = n * 128 ^ i := by
        rw [pow_succ128, ← Nat.mul_assoc, Nat.mul_right_comm, ← Nat.add_mul]
        congr 1
        omega
      simp only [List.length_cons, Prod.mk.injEq]
      constructor
      · rw [Nat.add_assoc, e2]
      · omega
theorem tk_num {n : Nat} (h : n ≤ 9223372036854775807) (r : List UInt8) : tk (num n ++ r) = (n, (num n).length) := by
  have h8 : (128 : Nat) ^ (8 + 1) = 9223372036854775808 := by decide
  have := tkL_num 8 n 0 0 r (by omega) (by omega) (Or.inl rfl)
  unfold tk
  rw [this]
  simp
/-- What is taken are its bytes. -/
theorem tkL_back : ∀ (bs : List UInt8) (i x X k : Nat), tkL i x bs = (X, k) → 0 < k → ∃ n, X = x + n * 128 ^ i ∧ k ≤ 9 ∧ i < k ∧ k ≤ i + bs.length ∧ bs.take (k - i) = num n ∧ (0 < i → 0 < n)
  | [], i, x, X, k, h, hk => by rw [tkL] at h; simp only [Prod.mk.injEq] at h; omega
  | c :: r, i, x, X, k, h, hk => by
    have hc := c.toNat_lt
    rw [tkL] at h
    split at h
    · simp only [Prod.mk.injEq] at h; omega
    · split at h
      · rename_i h9 h128
        obtain ⟨n, h1, h2, h3, h4, h5, h6⟩ := tkL_back r (i + 1) _ X k h hk
        have hn := h6 (by omega)
        refine ⟨c.toNat % 128 + n * 128, ?_, h2, by omega, by simp; omega, ?_, fun _ => by omega⟩
        · rw [h1, pow_succ128, Nat.add_mul, Nat.mul_assoc, Nat.mul_comm 128 (128 ^ i)]
          omega
        · have e : k - i = (k - (i + 1)) + 1 := by omega
          have h7 := num_ge (n := c.toNat % 128 + n * 128) (by omega)
          rw [e, List.take_succ_cons, h5, h7]
          congr 1
          · have e1 : (c.toNat % 128 + n * 128) % 128 + 128 = c.toNat := by omega
            rw [e1]; simp
          · congr 1; omega
      · split at h
        · simp only [Prod.mk.injEq] at h; omega
        · rename_i h9 h128 h0
          simp only [Prod.mk.injEq] at h
          obtain ⟨rfl, rfl⟩ := h
          have hm : c.toNat % 128 = c.toNat := by omega
          refine ⟨c.toNat, by rw [hm], by omega, by omega, by simp only [List.length_cons]; omega, ?_, fun h => by omega⟩
          rw [show i + 1 - i = 1 by omega, num_lt (by omega)]
          simp
theorem tk_back {bs : List UInt8} {X k : Nat} (h : tk bs = (X, k)) (hk : 0 < k) : k ≤ bs.length ∧ bs.take k = num X ∧ X ≤ 9223372036854775807 := by
  obtain ⟨n, h1, h2, h3, h4, h5, h6⟩ := tkL_back bs 0 0 X k h hk
  have hX : X = n := by rw [h1]; simp
  subst hX
  refine ⟨by omega, by simpa using h5, ?_⟩
  -- at most nine digits
  have hl : (num X).length ≤ 9 := by rw [← h5]; simp; omega
  have hb : ∀ (f m : Nat), (num m).length ≤ f → m < 128 ^ f := by
    intro f
    induction f with
    | zero => intro m hm; by_cases h : m < 128
              · rw [num_lt h] at hm; simp at hm
              · rw [num_ge h] at hm; simp at hm
    | succ f ih =>
      intro m hm
      by_cases h : m < 128
      · have : 128 ^ 1 ≤ 128 ^ (f + 1) := Nat.pow_le_pow_right (by omega) (by omega)
        omega
      · rw [num_ge h] at hm
        have := ih (m / 128) (by simp at hm; omega)
        rw [Nat.div_lt_iff_lt_mul (by omega)] at this
        rw [pow_succ128]; exact this
  have := hb 9 X hl
  have h9 : (128 : Nat) ^ 9 = 9223372036854775808 := by decide
  omega
end Go.Proofs.YtndahpcjkcihlaaGreat
/- Take: the program's. -/
namespace Go.Proofs.YtndahpcjkcihlaaGreat
open Go.RowKit
set_option linter.unusedVariables false
set_option linter.unusedSimpArgs false

/-- A slice of these bytes. -/
def IsB (B : Nat → Prop) (w : World) (sl : Value) (bs : List UInt8) : Prop := ∃ ao cap, sl = .slice ao bs.length cap ∧ bs.length ≤ cap ∧ cap ≤ 9223372036854775807 ∧ (ao = none → cap = 0) ∧ (bs ≠ [] → ∃ g o, ao = some ⟨g, o, none⟩ ∧ B g ∧ g < w.heap.size ∧ ∀ (i : Nat) (b : UInt8), bs[i]? = some b → w.cell? ⟨g, o + i, none⟩ = some (.int .u8 b.toNat))
theorem bsize (wx : World) : (sizeOf (Tryz.prog.elem 26)).run Tryz.prog wx = .ok 1 wx := by kernel_rfl
theorem belem : Tryz.prog.underlying 26 = some (.slice (Tryz.prog.elem 26)) := by kernel_rfl
def cutB (a : Option Addr) (lo cap : Nat) : Option Addr := if cap = lo then a else a.map (·.add lo)
theorem bcut_high (a : Option Addr) (len cap hi : Nat) (h : hi ≤ cap) (wx : World) :
    (Instr.slice 26 (.slice a len cap) none (some (.int .i64 (hi : Int))) none).run Tryz.prog wx = .ok (.slice a hi cap) wx := by
  rw [run_slice_h (P := Tryz.prog) wx 26 a len cap belem .i64 hi (by omega) (by omega), bsize]
  cases a <;> simp [Result.andThen, sliced, Addr.add]
theorem bcut_low (a : Option Addr) (len cap lo : Nat) (h1 : lo ≤ len) (wx : World) :
    (Instr.slice 26 (.slice a len cap) (some (.int .i64 (lo : Int))) none none).run Tryz.prog wx = .ok (.slice (cutB a lo cap) (len - lo) (cap - lo)) wx := by
  rw [run_slice_l (P := Tryz.prog) wx 26 a len cap belem .i64 lo (by omega) (by omega), bsize]
  simp [Result.andThen, sliced, cutB]
theorem pow7 (q : Nat) : 128 ^ q = 2 ^ (7 * q) := by rw [show (128 : Nat) = 2 ^ 7 by decide, ← Nat.pow_mul]
theorem or_add {X d q : Nat} (hX : X < 128 ^ q) (hd : d < 128) (hq : q ≤ 8) : bits BinOp.or IntKind.i64 (X : Int) (wrap64 ((d : Int) * 2 ^ (7 * q))) = ((X + d * 128 ^ q : Nat) : Int) := by
  rw [pow7] at *
  have h56 : 2 ^ (7 * q) ≤ 2 ^ 56 := Nat.pow_le_pow_right (by omega) (by omega)
  have hY : d * 2 ^ (7 * q) ≤ 127 * 2 ^ 56 := Nat.mul_le_mul (by omega) h56
  have hc : ((d : Int) * 2 ^ (7 * q)) = ((d * 2 ^ (7 * q) : Nat) : Int) := by push_cast; rfl
  have hor : X ||| d * 2 ^ (7 * q) = X + d * 2 ^ (7 * q) := by
    have := Nat.two_pow_add_eq_or_of_lt hX d
    rw [Nat.or_comm, Nat.mul_comm d, ← this]
    omega
  rw [hc]
  generalize d * 2 ^ (7 * q) = Y at *
  have hw : wrap64 (Y : Int) = (Y : Int) := by unfold wrap64; omega
  rw [hw]
  show IntKind.i64.wrap (((BitVec.ofInt 64 (X : Int) ||| BitVec.ofInt 64 (Y : Int)).toNat : Nat) : Int) = _
  have e1 : (BitVec.ofInt 64 (X : Int) ||| BitVec.ofInt 64 (Y : Int)).toNat = X ||| Y := by
    rw [BitVec.toNat_or, BitVec.toNat_ofInt, BitVec.toNat_ofInt]
    congr 1 <;> omega
  rw [e1, hor, IntKind.wrap_i64]
  omega
set_option maxRecDepth 100000 in
set_option maxHeartbeats 2000000 in
theorem take_short {B : Nat → Prop} {w : World} {sl : Value} {bs : List UInt8} (hb : IsB B w sl bs) (h9 : bs.length ≤ 9) :
    Calls Tryz.prog 58 #[sl] w fun r w' => r = .returned (.tuple #[.int .i64 ((tk bs).1 : Nat), .int .i64 ((tk bs).2 : Nat)]) ∧ w' = w := by
  obtain ⟨ao, cap, rfl, hc1, hc2, -, hcell⟩ := hb
  have hq1 := bcut_high ao bs.length cap bs.length (by omega)
  have hI9 : (bs.length : Int) ≤ 9 := by omega
  have hT : Hid (tk bs = tkL 0 0 (bs.drop 0)) := by show _ = _; unfold tk; simp
  go_enter Tryz.func58, Tryz.ntmps58
  go_wp2_with fail
  go_loopg [4, 13] 9 (fun g x i wr => ∃ (q X : Nat), q ≤ bs.length ∧ g = 9 - q ∧ x = .int .i64 X ∧ i = .int .i64 q ∧ Hid (tk bs = tkL q X (bs.drop q)) ∧ Hid (X < 128 ^ q) ∧ wr = w)
  case atStart => exact ⟨0, 0, by omega, rfl, rfl, rfl, hT, by show _ < _; decide, rfl⟩
  case round =>
    clear hT
    obtain ⟨q, X, hq, rfl, rfl, rfl, HT, HX, rfl⟩ := hrel
    by_cases hlt : q < bs.length
    · have hltI : (q : Int) < (bs.length : Int) := by omega
      have hq0 : (0 : Int) ≤ (q : Int) := by omega
      have hltb : q < bs.length := by omega
      obtain ⟨g, o, rfl, hBg, hgl, hc⟩ := hcell (by intro e; rw [e] at hltb; simp at hltb)
      have hcq := hc q bs[q] (List.getElem?_eq_getElem hltb)
      have hgq : bs[q]? = some bs[q] := List.getElem?_eq_getElem hltb
      have hcl := bs[q].toNat_lt
      generalize bs[q] = c at *
      have hD := tkL_drop (x := X) hgq
      rw [if_neg (by omega)] at hD
      obtain ⟨Y, HY⟩ : ∃ Y : Nat, Hid (X + c.toNat % 128 * 128 ^ q = Y) := ⟨_, rfl⟩
      have hor : bits BinOp.or IntKind.i64 (X : Int) (wrap64 ((c.toNat : Int) % 128 * 2 ^ (7 * q))) = (Y : Int) := by
        rw [← HY.out]
        exact or_add (d := c.toNat % 128) HX.out (by omega) (by omega)
      have hYb : Hid (Y < 128 ^ (q + 1)) := by show _ < _; rw [← HY.out]; exact tkL_bound HX.out (by omega)
      rw [HY.out] at hD
      clear hc hcell HY hgq
      by_cases h128 : 128 ≤ c.toNat
      · have hcI : (128 : Int) ≤ (c.toNat : Int) := by omega
        rw [if_pos h128] at hD
        have HT2 : Hid (tk bs = tkL (q + 1) Y (bs.drop (q + 1))) := by show _ = _; rw [HT.out, hD]
        clear hD HT HX
        go_wp2_with fail
        go_roundg (9 - (q + 1))
        case measure => omega
        case rel => exact ⟨q + 1, Y, by omega, rfl, rfl, by go_num, HT2, hYb, rfl⟩
      · have hcI : ¬ (128 : Int) ≤ (c.toNat : Int) := by omega
        rw [if_neg h128] at hD
        by_cases h0 : c.toNat = 0
        · have h0I : (c.toNat : Int) = 0 := by omega
          have h0b : ((c.toNat : Int) == 0) = true := by simp [h0]
          by_cases hqp : 0 < q
          · have hqI : (0 : Int) < (q : Int) := by omega
            rw [if_pos ⟨h0, hqp⟩] at hD
            have HT2 : Hid (tk bs = (0, 0)) := by show _ = _; rw [HT.out, hD]
            clear hD HT HX h0I h0
            go_wp2
            go_ret2
            exact ⟨by rw [HT2.out]; rfl, rfl⟩
          · have hqI : ¬ (0 : Int) < (q : Int) := by omega
            rw [if_neg (fun h => hqp h.2)] at hD
            have HT2 : Hid (tk bs = (Y, q + 1)) := by show _ = _; rw [HT.out, hD]
            clear hD HT HX h0I h0
            go_wp2
            go_ret2
            exact ⟨by rw [HT2.out]; rfl, rfl⟩
        · have h0b : ((c.toNat : Int) == 0) = false := by simp; omega
          rw [if_neg (fun h => h0 h.1)] at hD
          have HT2 : Hid (tk bs = (Y, q + 1)) := by show _ = _; rw [HT.out, hD]
          clear hD HT HX
          go_wp2
          go_ret2
          exact ⟨by rw [HT2.out]; rfl, rfl⟩
    · have hltI : ¬ (q : Int) < (bs.length : Int) := by omega
      have HT2 : Hid (tk bs = (0, 0)) := by
        show _ = _
        rw [HT.out]
        rw [List.drop_of_length_le (by omega)]; rfl
      clear HT HX
      go_wp2
      go_ret2
      exact ⟨by rw [HT2.out]; rfl, rfl⟩
set_option maxRecDepth 100000 in
set_option maxHeartbeats 2000000 in
theorem take_long {B : Nat → Prop} {w : World} {sl : Value} {bs : List UInt8} (hb : IsB B w sl bs) (h9 : 9 < bs.length) :
    Calls Tryz.prog 58 #[sl] w fun r w' => r = .returned (.tuple #[.int .i64 ((tk bs).1 : Nat), .int .i64 ((tk bs).2 : Nat)]) ∧ w' = w := by
  obtain ⟨ao, cap, rfl, hc1, hc2, -, hcell⟩ := hb
  have hq1 : ∀ wx, (Instr.slice 26 (.slice ao bs.length cap) none (some (.int .i64 9)) none).run Tryz.prog wx = .ok (.slice ao 9 cap) wx := fun wx => bcut_high ao bs.length cap 9 (by omega) wx
  have hI9 : ¬ (bs.length : Int) ≤ 9 := by omega
  have hT : Hid (tk bs = tkL 0 0 (bs.drop 0)) := by show _ = _; unfold tk; simp
  go_enter Tryz.func58, Tryz.ntmps58
  go_wp2_with fail
  go_loopg [4, 13] 9 (fun g x i wr => ∃ (q X : Nat), q ≤ 9 ∧ g = 9 - q ∧ x = .int .i64 X ∧ i = .int .i64 q ∧ Hid (tk bs = tkL q X (bs.drop q)) ∧ Hid (X < 128 ^ q) ∧ wr = w)
  case atStart => exact ⟨0, 0, by omega, rfl, rfl, rfl, hT, by show _ < _; decide, rfl⟩
  case round =>
    clear hT
    obtain ⟨q, X, hq, rfl, rfl, rfl, HT, HX, rfl⟩ := hrel
    by_cases hlt : q < 9
    · have hltI : (q : Int) < 9 := by omega
      have hq0 : (0 : Int) ≤ (q : Int) := by omega
      have hltb : q < bs.length := by omega
      obtain ⟨g, o, rfl, hBg, hgl, hc⟩ := hcell (by intro e; rw [e] at hltb; simp at hltb)
      have hcq := hc q bs[q] (List.getElem?_eq_getElem hltb)
      have hgq : bs[q]? = some bs[q] := List.getElem?_eq_getElem hltb
      have hcl := bs[q].toNat_lt
      generalize bs[q] = c at *
      have hD := tkL_drop (x := X) hgq
      rw [if_neg (by omega)] at hD
      obtain ⟨Y, HY⟩ : ∃ Y : Nat, Hid (X + c.toNat % 128 * 128 ^ q = Y) := ⟨_, rfl⟩
      have hor : bits BinOp.or IntKind.i64 (X : Int) (wrap64 ((c.toNat : Int) % 128 * 2 ^ (7 * q))) = (Y : Int) := by
        rw [← HY.out]
        exact or_add (d := c.toNat % 128) HX.out (by omega) (by omega)
      have hYb : Hid (Y < 128 ^ (q + 1)) := by show _ < _; rw [← HY.out]; exact tkL_bound HX.out (by omega)
      rw [HY.out] at hD
      clear hc hcell HY hgq
      by_cases h128 : 128 ≤ c.toNat
      · have hcI : (128 : Int) ≤ (c.toNat : Int) := by omega
        rw [if_pos h128] at hD
        have HT2 : Hid (tk bs = tkL (q + 1) Y (bs.drop (q + 1))) := by show _ = _; rw [HT.out, hD]
        clear hD HT HX
        go_wp2_with fail
        go_roundg (9 - (q + 1))
        case measure => omega
        case rel => exact ⟨q + 1, Y, by omega, rfl, rfl, by go_num, HT2, hYb, rfl⟩
      · have hcI : ¬ (128 : Int) ≤ (c.toNat : Int) := by omega
        rw [if_neg h128] at hD
        by_cases h0 : c.toNat = 0
        · have h0I : (c.toNat : Int) = 0 := by omega
          have h0b : ((c.toNat : Int) == 0) = true := by simp [h0]
          by_cases hqp : 0 < q
          · have hqI : (0 : Int) < (q : Int) := by omega
            rw [if_pos ⟨h0, hqp⟩] at hD
            have HT2 : Hid (tk bs = (0, 0)) := by show _ = _; rw [HT.out, hD]
            clear hD HT HX h0I h0
            go_wp2
            go_ret2
            exact ⟨by rw [HT2.out]; rfl, rfl⟩
          · have hqI : ¬ (0 : Int) < (q : Int) := by omega
            rw [if_neg (fun h => hqp h.2)] at hD
            have HT2 : Hid (tk bs = (Y, q + 1)) := by show _ = _; rw [HT.out, hD]
            clear hD HT HX h0I h0
            go_wp2
            go_ret2
            exact ⟨by rw [HT2.out]; rfl, rfl⟩
        · have h0b : ((c.toNat : Int) == 0) = false := by simp; omega
          rw [if_neg (fun h => h0 h.1)] at hD
          have HT2 : Hid (tk bs = (Y, q + 1)) := by show _ = _; rw [HT.out, hD]
          clear hD HT HX
          go_wp2
          go_ret2
          exact ⟨by rw [HT2.out]; rfl, rfl⟩
    · have hltI : ¬ (q : Int) < 9 := by omega
      have HT2 : Hid (tk bs = (0, 0)) := by
        show _ = _
        rw [HT.out]
        exact tkL_nine (by omega)
      clear HT HX
      go_wp2
      go_ret2
      exact ⟨by rw [HT2.out]; rfl, rfl⟩
theorem take_any {B : Nat → Prop} {w : World} {sl : Value} {bs : List UInt8} (hb : IsB B w sl bs) :
    Calls Tryz.prog 58 #[sl] w fun r w' => r = .returned (.tuple #[.int .i64 ((tk bs).1 : Nat), .int .i64 ((tk bs).2 : Nat)]) ∧ w' = w := by
  by_cases h : bs.length ≤ 9
  · exact take_short hb h
  · exact take_long hb (by omega)
end Go.Proofs.YtndahpcjkcihlaaGreat
/- The reader: the program's. -/
namespace Go.Proofs.YtndahpcjkcihlaaGreat
open Go.RowKit
set_option linter.unusedVariables false
set_option linter.unusedSimpArgs false

/-- Only block r is turned. -/
structure Only (r : Nat) (w w' : World) : Prop where
  os : w'.os = w.os
  tape : w'.tape = w.tape
  output : w'.output = w.output
  size : w.heap.size ≤ w'.heap.size
  block : ∀ k, k < w.heap.size → k ≠ r → w'.heap[k]? = w.heap[k]?
theorem Only.refl (r : Nat) (w : World) : Only r w w := ⟨rfl, rfl, rfl, Nat.le_refl _, fun _ _ _ => rfl⟩
theorem Only.trans {r : Nat} {w w1 w2 : World} (a : Only r w w1) (b : Only r w1 w2) : Only r w w2 := ⟨b.os.trans a.os, b.tape.trans a.tape, b.output.trans a.output, Nat.le_trans a.size b.size, fun k h1 h2 => (b.block k (Nat.lt_of_lt_of_le h1 a.size) h2).trans (a.block k h1 h2)⟩
theorem Only.of_below {r : Nat} {w w' : World} (h : Below w.heap.size w w') : Only r w w' := ⟨h.os, h.tape, h.output, h.size, fun k h1 _ => h.block k h1⟩
theorem Only.below {r : Nat} {w w' : World} (h : Only r w w') {m : Nat} (hm : m ≤ w.heap.size) (hr : m ≤ r) : Below m w w' := ⟨h.os, h.tape, h.output, h.size, fun k hk => h.block k (by omega) (by omega)⟩
theorem Only.since {r : Nat} {B : Nat → Prop} {w w' : World} (h : Only r w w') (hB : ¬ B r) : Since B w w' := ⟨h.size, fun k h1 h2 => h.block k h2 (fun e => hB (by rw [← e]; exact h1))⟩
theorem only_set {r : Nat} {w : World} (o : Nat) (x : Value) : Only r w (w.setCell ⟨r, o, none⟩ x) := ⟨rfl, rfl, rfl, by simp [World.setCell], fun k _ hk => Below.heap_setCell _ _ _ _ hk⟩
theorem IsB.since {B : Nat → Prop} {w w' : World} {sl : Value} {bs : List UInt8} (h : IsB B w sl bs) (s : Since B w w') : IsB B w' sl bs := by
  obtain ⟨ao, cap, h1, h2, h3, h5, h4⟩ := h
  refine ⟨ao, cap, h1, h2, h3, h5, fun hne => ?_⟩
  obtain ⟨g, o, e1, e2, e3, e4⟩ := h4 hne
  exact ⟨g, o, e1, e2, by have := s.size; omega, fun i b hi => by rw [World.cell?_of_block (w := w) (s.block g e2 e3)]; exact e4 i b hi⟩
theorem IsB.base {B B' : Nat → Prop} {w : World} {sl : Value} {bs : List UInt8} (h : IsB B w sl bs) (hb : ∀ k, B k → k < w.heap.size → B' k) : IsB B' w sl bs := by
  obtain ⟨ao, cap, h1, h2, h3, h5, h4⟩ := h
  refine ⟨ao, cap, h1, h2, h3, h5, fun hne => ?_⟩
  obtain ⟨g, o, e1, e2, e3, e4⟩ := h4 hne
  exact ⟨g, o, e1, hb g e2 e3, e3, e4⟩
theorem IsB.nil {B : Nat → Prop} {w : World} : IsB B w (.slice none 0 0) [] := ⟨none, 0, rfl, Nat.le_refl _, by omega, fun _ => rfl, fun h => absurd rfl h⟩
theorem IsB.take {B : Nat → Prop} {w : World} {ao : Option Addr} {n cap : Nat} {bs : List UInt8} (h : IsB B w (.slice ao n cap) bs) {k : Nat} (hk : k ≤ bs.length) : IsB B w (.slice ao k cap) (bs.take k) := by
  obtain ⟨ao', cap', h1, h2, h3, h5, h4⟩ := h
  simp only [Value.slice.injEq] at h1
  obtain ⟨rfl, _, rfl⟩ := h1
  have e : (bs.take k).length = k := by simp; omega
  refine ⟨ao, cap, by rw [e], by rw [e]; omega, h3, h5, fun hne => ?_⟩
  obtain ⟨g, o, e1, e2, e3, e4⟩ := h4 (by rintro rfl; exact hne (by simp))
  refine ⟨g, o, e1, e2, e3, fun i b hi => e4 i b ?_⟩
  rw [List.getElem?_take] at hi
  split at hi
  · exact hi
  · cases hi
theorem IsB.drop {B : Nat → Prop} {w : World} {ao : Option Addr} {n cap : Nat} {bs : List UInt8} (h : IsB B w (.slice ao n cap) bs) {k : Nat} (hk : k ≤ bs.length) : IsB B w (.slice (cutB ao k cap) (bs.length - k) (cap - k)) (bs.drop k) := by
  obtain ⟨ao', cap', h1, h2, h3, h5, h4⟩ := h
  simp only [Value.slice.injEq] at h1
  obtain ⟨rfl, _, rfl⟩ := h1
  have e : (bs.drop k).length = bs.length - k := by simp
  refine ⟨_, _, by rw [e], by rw [e]; omega, by omega, fun hn => ?_, fun hne => ?_⟩
  · have : ao = none := by
      unfold cutB at hn
      split at hn
      · exact hn
      · simpa using hn
    have := h5 this
    omega
  have hlt : k < bs.length := by
    rcases Nat.lt_or_ge k bs.length with h | h
    · exact h
    · exact absurd (List.drop_of_length_le h) hne
  obtain ⟨g, o, e1, e2, e3, e4⟩ := h4 (by rintro rfl; simp at hlt)
  refine ⟨g, o + k, ?_, e2, e3, fun i b hi => ?_⟩
  · unfold cutB
    rw [if_neg (by omega), e1]
    by_cases h0 : k = 0 <;> simp [Addr.add, h0]
  · rw [List.getElem?_drop] at hi
    rw [Nat.add_assoc]
    exact e4 _ b hi
theorem IsB.slice {B : Nat → Prop} {w : World} {sl : Value} {bs : List UInt8} (h : IsB B w sl bs) : ∃ ao cap, sl = .slice ao bs.length cap ∧ bs.length ≤ cap ∧ cap ≤ 9223372036854775807 := by
  obtain ⟨ao, cap, h1, h2, h3, _, _⟩ := h
  exact ⟨ao, cap, h1, h2, h3⟩
/-- A reader, and what it has left; nothing: bad. -/
def RdS (w : World) (r : Nat) (st : Option (List UInt8)) : Prop := ∃ sl, w.heap[r]? = some (.cells #[sl, .bool st.isNone] 90 (0, 0)) ∧ IsB (fun j => j < r) w sl (st.getD [])
theorem cells_of2 {w : World} {g : Nat} {y0 y1 : Value} {T : TypeId} (h : w.heap[g]? = some (.cells #[y0, y1] T (0, 0))) : w.cell? ⟨g, 0, none⟩ = some y0 ∧ w.cell? ⟨g, 1, none⟩ = some y1 ∧ w.frozen? ⟨g, 0, none⟩ = false ∧ w.frozen? ⟨g, 1, none⟩ = false := by
  refine ⟨?_, ?_, ?_, ?_⟩
  all_goals first | simp [World.cell?, h] | simp [World.frozen?, h]
theorem set2_0 {w : World} {g : Nat} {y0 y1 : Value} {T : TypeId} (h : w.heap[g]? = some (.cells #[y0, y1] T (0, 0))) (x : Value) : (w.setCell ⟨g, 0, none⟩ x).heap[g]? = some (.cells #[x, y1] T (0, 0)) := by
  simp [World.setCell, Array.getElem?_modify, h]
theorem set2_1 {w : World} {g : Nat} {y0 y1 : Value} {T : TypeId} (h : w.heap[g]? = some (.cells #[y0, y1] T (0, 0))) (x : Value) : (w.setCell ⟨g, 1, none⟩ x).heap[g]? = some (.cells #[y0, x] T (0, 0)) := by
  simp [World.setCell, Array.getElem?_modify, h]
theorem RdS.keep {w w' : World} {r : Nat} {st : Option (List UInt8)} (h : RdS w r st) (hb : Below w.heap.size w w') : RdS w' r st := by
  obtain ⟨sl, h1, h2⟩ := h
  exact ⟨sl, (hb.block r (Array.getElem?_eq_some_iff.1 h1).1).trans h1, h2.since (Since.of_below hb)⟩
theorem RdS.up {w w' : World} {r : Nat} {st : Option (List UInt8)} (h : RdS w r st) (hk : ∀ k, k ≤ r → w'.heap[k]? = w.heap[k]?) (hs : w.heap.size ≤ w'.heap.size) : RdS w' r st := by
  obtain ⟨sl, h1, h2⟩ := h
  exact ⟨sl, (hk r (Nat.le_refl _)).trans h1, h2.since ⟨hs, fun k hk1 _ => hk k (Nat.le_of_lt hk1)⟩⟩
theorem RdS.setCell {w : World} {r g : Nat} {st : Option (List UInt8)} (h : RdS w r st) (hg : r < g) (o : Nat) (x : Value) : RdS (w.setCell ⟨g, o, none⟩ x) r st := h.up (fun k hk => Below.heap_setCell _ _ _ _ (by show k ≠ g; omega)) (by simp [World.setCell])
theorem Only.setCell {r : Nat} {w w' : World} (h : Only r w w') {g : Nat} (hg : w.heap.size ≤ g) (o : Nat) (x : Value) : Only r w (w'.setCell ⟨g, o, none⟩ x) := ⟨h.os, h.tape, h.output, by simpa [World.setCell] using h.size, fun k h1 h2 => (Below.heap_setCell _ _ _ _ (by show k ≠ g; omega)).trans (h.block k h1 h2)⟩
theorem RdS.lt {w : World} {r : Nat} {st : Option (List UInt8)} (h : RdS w r st) : r < w.heap.size := by
  obtain ⟨sl, h1, _⟩ := h
  exact (Array.getElem?_eq_some_iff.1 h1).1
set_option maxRecDepth 100000 in
set_option maxHeartbeats 1000000 in
theorem fail_any {w : World} {r : Nat} {st : Option (List UInt8)} (h : RdS w r st) :
    Calls Tryz.prog 59 #[.pointer (some ⟨r, 0, none⟩)] w fun e w' => (∃ v, e = .returned v) ∧ RdS w' r none ∧ Only r w w' := by
  obtain ⟨sl, h1, h2⟩ := h
  obtain ⟨c0, c1, f0, f1⟩ := cells_of2 h1
  have hrl : r < w.heap.size := (Array.getElem?_eq_some_iff.1 h1).1
  obtain ⟨w1, hW1⟩ : ∃ w1, w.setCell ⟨r, 0, none⟩ (.slice none 0 0) = w1 := ⟨_, rfl⟩
  have hblk1 : w1.heap[r]? = some (.cells #[.slice none 0 0, .bool st.isNone] 90 (0, 0)) := by rw [← hW1]; exact set2_0 h1 _
  obtain ⟨d0, d1, e0, e1⟩ := cells_of2 hblk1
  have hrl1 : r < w1.heap.size := (Array.getElem?_eq_some_iff.1 hblk1).1
  have hfin : RdS (w1.setCell ⟨r, 1, none⟩ (.bool true)) r none ∧ Only r w (w1.setCell ⟨r, 1, none⟩ (.bool true)) := by
    refine ⟨⟨.slice none 0 0, set2_1 hblk1 _, IsB.nil⟩, Only.trans ?_ (only_set 1 _)⟩
    rw [← hW1]; exact only_set 0 _
  generalize st.isNone = nn at *
  clear h1 h2 hblk1
  go_enter Tryz.func59, Tryz.ntmps59
  go_wp2_with fail
  exact bodyPost_end (results_none rfl _ _ _) rfl ⟨⟨_, rfl⟩, hfin⟩
/-- A number taken. -/
def rdN : Option (List UInt8) → Nat × Option (List UInt8)
  | none => (0, none)
  | some bs => if (tk bs).2 = 0 then (0, none) else ((tk bs).1, some (bs.drop (tk bs).2))
set_option maxRecDepth 100000 in
set_option maxHeartbeats 1000000 in
theorem number_any {w : World} {r : Nat} {st : Option (List UInt8)} (h : RdS w r st) :
    Calls Tryz.prog 36 #[.pointer (some ⟨r, 0, none⟩)] w fun e w' => e = .returned (.int .i64 ((rdN st).1 : Nat)) ∧ RdS w' r (rdN st).2 ∧ Only r w w' := by
  have hF := fail_any h
  have hst : Hid (rdN st = if (tk (st.getD [])).2 = 0 then (0, none) else ((tk (st.getD [])).1, some ((st.getD []).drop (tk (st.getD [])).2))) := by
    show _ = _
    cases st with
    | none => simp [rdN, tk, tkL]
    | some bs => rfl
  have hnn : Hid ((tk (st.getD [])).2 ≠ 0 → st.isNone = false) := by
    intro hne
    cases st with
    | none => exact absurd rfl hne
    | some bs => rfl
  obtain ⟨sl, h1, h2⟩ := h
  obtain ⟨c0, c1, f0, f1⟩ := cells_of2 h1
  have hrl : r < w.heap.size := (Array.getElem?_eq_some_iff.1 h1).1
  have hT := take_any h2
  obtain ⟨ao, cap, rfl, hc1, hc2⟩ := h2.slice
  generalize hbs : st.getD [] = bs at *
  by_cases h0 : (tk bs).2 = 0
  · have hfin : Hid (rdN st = (0, none)) := by show _ = _; rw [hst.out, if_pos h0]
    rw [h0] at hT
    generalize (tk bs).1 = X at *
    clear hst hnn h1 h2
    go_enter Tryz.func36, Tryz.ntmps36
    go_wp2_with fail
    refine hT.mono ?_
    rintro e w1 ⟨rfl, rfl⟩
    clear hT
    go_wp2_with fail
    refine hF.mono ?_
    rintro e w2 ⟨⟨v, rfl⟩, hr2, ho2⟩
    clear hF
    go_wp2
    go_ret
    exact ⟨by rw [hfin.out]; rfl, by rw [hfin.out]; exact hr2, ho2⟩
  · have h0b : (((tk bs).2 : Int) == 0) = false := by simp; omega
    obtain ⟨hk, hnum, hXb⟩ := tk_back (bs := bs) (X := (tk bs).1) (k := (tk bs).2) rfl (by omega)
    have hfin : Hid (rdN st = ((tk bs).1, some (bs.drop (tk bs).2))) := by show _ = _; rw [hst.out, if_neg h0]
    have hcut := bcut_low ao bs.length cap (tk bs).2 hk
    have hdr := h2.drop hk
    have hno := hnn.out h0
    rw [hno] at h1
    generalize (tk bs).1 = X at *
    generalize (tk bs).2 = k at *
    obtain ⟨w1, hW1⟩ : ∃ w1, w.setCell ⟨r, 0, none⟩ (.slice (cutB ao k cap) (bs.length - k) (cap - k)) = w1 := ⟨_, rfl⟩
    have hres : RdS w1 r (some (bs.drop k)) ∧ Only r w w1 := by
      rw [← hW1]
      exact ⟨⟨_, set2_0 h1 _, hdr.since ((only_set 0 _).since (by simp))⟩, only_set 0 _⟩
    clear hst hnn h2 hF hdr hnum h0
    go_enter Tryz.func36, Tryz.ntmps36
    go_wp2_with fail
    refine hT.mono ?_
    rintro e w2 ⟨rfl, rfl⟩
    clear hT
    go_wp2
    go_ret
    exact ⟨by rw [hfin.out]; rfl, by rw [hfin.out]; exact hres.1, hres.2⟩
end Go.Proofs.YtndahpcjkcihlaaGreat
