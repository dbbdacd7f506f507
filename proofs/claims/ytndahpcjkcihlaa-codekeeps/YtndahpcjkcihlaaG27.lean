/- Texts of ours, joined: Md, Dtk. -/
import Derived.Test.YtndahpcjkcihlaaG01
import Derived.Test.YtndahpcjkcihlaaG20
import Derived.Deep.LoopGhost
/- Numbers and values out of bytes. Plain mathematics. -/
namespace Go.Proofs.Ytndahpcjkcihlaa
set_option linter.unusedVariables false
set_option linter.unusedSimpArgs false

/-- The number that bytes begin with, and how many it has: behind i bytes that made x. -/
def tkL : Nat → Nat → List UInt8 → Nat × Nat
  | _, _, [] => (0, 0)
  | i, x, c :: r => if 9 ≤ i then (0, 0) else if 128 ≤ c.toNat then tkL (i + 1) (x + c.toNat % 128 * 128 ^ i) r else if c.toNat = 0 ∧ 0 < i then (0, 0) else (x + c.toNat % 128 * 128 ^ i, i + 1)
def tk (bs : List UInt8) : Nat × Nat := tkL 0 0 bs
theorem tkL_nine {i x : Nat} {bs : List UInt8} (h : 9 ≤ i) : tkL i x bs = (0, 0) := by
  cases bs with
  | nil => rfl
  | cons c r => rw [tkL, if_pos h]
theorem tkL_drop {i x : Nat} {bs : List UInt8} {c : UInt8} (h : bs[i]? = some c) : tkL i x (bs.drop i) = if 9 ≤ i then (0, 0) else if 128 ≤ c.toNat then tkL (i + 1) (x + c.toNat % 128 * 128 ^ i) (bs.drop (i + 1)) else if c.toNat = 0 ∧ 0 < i then (0, 0) else (x + c.toNat % 128 * 128 ^ i, i + 1) := by
  obtain ⟨hi, rfl⟩ := List.getElem?_eq_some_iff.1 h
  rw [List.drop_eq_getElem_cons hi, tkL]
theorem pow_succ128 (i : Nat) : 128 ^ (i + 1) = 128 ^ i * 128 := Nat.pow_succ ..
theorem tkL_bound {x d i : Nat} (hx : x < 128 ^ i) (hd : d < 128) : x + d * 128 ^ i < 128 ^ (i + 1) := by
  rw [pow_succ128]
  have : d * 128 ^ i + 128 ^ i ≤ 128 * 128 ^ i := by
    have h := Nat.mul_le_mul_right (128 ^ i) (show d + 1 ≤ 128 by omega)
    rw [Nat.add_mul, Nat.one_mul] at h; exact h
  rw [Nat.mul_comm] at this
  rw [Nat.mul_comm (128 ^ i) 128]
  rw [Nat.mul_comm d] at *
  omega
theorem ofNat_toNat {n : Nat} (h : n < 256) : (UInt8.ofNat n).toNat = n := by
  rw [UInt8.toNat_ofNat']; omega
/-- What was put is taken. -/
theorem tkL_num : ∀ (f n i x : Nat) (r : List UInt8), n < 128 ^ (f + 1) → i + f ≤ 8 → (i = 0 ∨ 0 < n) → tkL i x (num n ++ r) = (x + n * 128 ^ i, i + (num n).length)
  | 0, n, i, x, r, hn, hi, hp => by
    have hn' : n < 128 := by simpa using hn
    rw [num_lt hn', List.singleton_append, tkL, if_neg (by omega), ofNat_toNat (by omega), if_neg (by omega), if_neg (by omega), Nat.mod_eq_of_lt hn']
    rfl
  | f + 1, n, i, x, r, hn, hi, hp => by
    by_cases h : n < 128
    · rw [num_lt h, List.singleton_append, tkL, if_neg (by omega), ofNat_toNat (by omega), if_neg (by omega), if_neg (by omega), Nat.mod_eq_of_lt h]
      rfl
    · have hq : n / 128 < 128 ^ (f + 1) := by rw [Nat.div_lt_iff_lt_mul (by omega)]; rw [pow_succ128] at hn; exact hn
      have ih := tkL_num f (n / 128) (i + 1) (x + n % 128 * 128 ^ i) r hq (by omega) (Or.inr (by omega))
      rw [num_ge h, List.cons_append, tkL, if_neg (by omega), ofNat_toNat (by omega), if_pos (by omega)]
      have e : (n % 128 + 128) % 128 = n % 128 := by omega
      rw [e, ih]
      have e2 : n % 128 * 128 ^ i + n / 128 * 128 ^ (i + 1) = n * 128 ^ i := by
        rw [pow_succ128, ← Nat.mul_assoc, Nat.mul_right_comm, ← Nat.add_mul]
        congr 1
        omega
      simp only [List.length_cons, Prod.mk.injEq]
      constructor
      · rw [Nat.add_assoc, e2]
      · omega
theorem tk_num {n : Nat} (h : n ≤ 9223372036854775807) (r : List UInt8) : tk (num n ++ r) = (n, (num n).length) := by
  have h8 : (128 : Nat) ^ (8 + 1) = 9223372036854775808 := by decide
  have := tkL_num 8 n 0 0 r (by omega) (by omega) (Or.inl rfl)
  unfold tk
  rw [this]
  simp
/-- What is taken are its bytes. -/
theorem tkL_back : ∀ (bs : List UInt8) (i x X k : Nat), tkL i x bs = (X, k) → 0 < k → ∃ n, X = x + n * 128 ^ i ∧ k ≤ 9 ∧ i < k ∧ k ≤ i + bs.length ∧ bs.take (k - i) = num n ∧ (0 < i → 0 < n)
  | [], i, x, X, k, h, hk => by rw [tkL] at h; simp only [Prod.mk.injEq] at h; omega
  | c :: r, i, x, X, k, h, hk => by
    have hc := c.toNat_lt
    rw [tkL] at h
    split at h
    · simp only [Prod.mk.injEq] at h; omega
    · split at h
      · rename_i h9 h128
        obtain ⟨n, h1, h2, h3, h4, h5, h6⟩ := tkL_back r (i + 1) _ X k h hk
        have hn := h6 (by omega)
        refine ⟨c.toNat % 128 + n * 128, ?_, h2, by omega, by simp; omega, ?_, fun _ => by omega⟩
        · rw [h1, pow_succ128, Nat.add_mul, Nat.mul_assoc, Nat.mul_comm 128 (128 ^ i)]
          omega
        · have e : k - i = (k - (i + 1)) + 1 := by omega
          have h7 := num_ge (n := c.toNat % 128 + n * 128) (by omega)
          rw [e, List.take_succ_cons, h5, h7]
          congr 1
          · have e1 : (c.toNat % 128 + n * 128) % 128 + 128 = c.toNat := by omega
            rw [e1]; simp
          · congr 1; omega
      · split at h
        · simp only [Prod.mk.injEq] at h; omega
        · rename_i h9 h128 h0
          simp only [Prod.mk.injEq] at h
          obtain ⟨rfl, rfl⟩ := h
          have hm : c.toNat % 128 = c.toNat := by omega
          refine ⟨c.toNat, by rw [hm], by omega, by omega, by simp only [List.length_cons]; omega, ?_, fun h => by omega⟩
          rw [show i + 1 - i = 1 by omega, num_lt (by omega)]
          simp
theorem tk_back {bs : List UInt8} {X k : Nat} (h : tk bs = (X, k)) (hk : 0 < k) : k ≤ bs.length ∧ bs.take k = num X ∧ X ≤ 9223372036854775807 := by
  obtain ⟨n, h1, h2, h3, h4, h5, h6⟩ := tkL_back bs 0 0 X k h hk
  have hX : X = n := by rw [h1]; simp
  subst hX
  refine ⟨by omega, by simpa using h5, ?_⟩
  -- at most nine digits
  have hl : (num X).length ≤ 9 := by rw [← h5]; simp; omega
  have hb : ∀ (f m : Nat), (num m).length ≤ f → m < 128 ^ f := by
    intro f
    induction f with
    | zero => intro m hm; by_cases h : m < 128
              · rw [num_lt h] at hm; simp at hm
              · rw [num_ge h] at hm; simp at hm
    | succ f ih =>
      intro m hm
      by_cases h : m < 128
      · have : 128 ^ 1 ≤ 128 ^ (f + 1) := Nat.pow_le_pow_right (by omega) (by omega)
        omega
      · rw [num_ge h] at hm
        have := ih (m / 128) (by simp at hm; omega)
        rw [Nat.div_lt_iff_lt_mul (by omega)] at this
        rw [pow_succ128]; exact this
  have := hb 9 X hl
  have h9 : (128 : Nat) ^ 9 = 9223372036854775808 := by decide
  omega
end Go.Proofs.Ytndahpcjkcihlaa
/- Take: the program's. -/
namespace Go.Proofs.Ytndahpcjkcihlaa
open Go.RowKit
set_option linter.unusedVariables false
set_option linter.unusedSimpArgs false

/-- A slice of these bytes. -/
def IsB (B : Nat → Prop) (w : World) (sl : Value) (bs : List UInt8) : Prop := ∃ ao cap, sl = .slice ao bs.length cap ∧ bs.length ≤ cap ∧ cap ≤ 9223372036854775807 ∧ (ao = none → cap = 0) ∧ (bs ≠ [] → ∃ g o, ao = some ⟨g, o, none⟩ ∧ B g ∧ g < w.heap.size ∧ ∀ (i : Nat) (b : UInt8), bs[i]? = some b → w.cell? ⟨g, o + i, none⟩ = some (.int .u8 b.toNat))
theorem bsize (wx : World) : (sizeOf (Try.prog.elem 34)).run Try.prog wx = .ok 1 wx := by kernel_rfl
theorem belem : Try.prog.underlying 34 = some (.slice (Try.prog.elem 34)) := by kernel_rfl
def cutB (a : Option Addr) (lo cap : Nat) : Option Addr := if cap = lo then a else a.map (·.add lo)
theorem bcut_high (a : Option Addr) (len cap hi : Nat) (h : hi ≤ cap) (wx : World) :
    (Instr.slice 34 (.slice a len cap) none (some (.int .i64 (hi : Int))) none).run Try.prog wx = .ok (.slice a hi cap) wx := by
  rw [run_slice_h (P := Try.prog) wx 34 a len cap belem .i64 hi (by omega) (by omega), bsize]
  cases a <;> simp [Result.andThen, sliced, Addr.add]
theorem bcut_low (a : Option Addr) (len cap lo : Nat) (h1 : lo ≤ len) (wx : World) :
    (Instr.slice 34 (.slice a len cap) (some (.int .i64 (lo : Int))) none none).run Try.prog wx = .ok (.slice (cutB a lo cap) (len - lo) (cap - lo)) wx := by
  rw [run_slice_l (P := Try.prog) wx 34 a len cap belem .i64 lo (by omega) (by omega), bsize]
  simp [Result.andThen, sliced, cutB]
theorem pow7 (q : Nat) : 128 ^ q = 2 ^ (7 * q) := by rw [show (128 : Nat) = 2 ^ 7 by decide, ← Nat.pow_mul]
theorem or_add {X d q : Nat} (hX : X < 128 ^ q) (hd : d < 128) (hq : q ≤ 8) : bits BinOp.or IntKind.i64 (X : Int) (wrap64 ((d : Int) * 2 ^ (7 * q))) = ((X + d * 128 ^ q : Nat) : Int) := by
  rw [pow7] at *
  have h56 : 2 ^ (7 * q) ≤ 2 ^ 56 := Nat.pow_le_pow_right (by omega) (by omega)
  have hY : d * 2 ^ (7 * q) ≤ 127 * 2 ^ 56 := Nat.mul_le_mul (by omega) h56
  have hc : ((d : Int) * 2 ^ (7 * q)) = ((d * 2 ^ (7 * q) : Nat) : Int) := by push_cast; rfl
  have hor : X ||| d * 2 ^ (7 * q) = X + d * 2 ^ (7 * q) := by
    have := Nat.two_pow_add_eq_or_of_lt hX d
    rw [Nat.or_comm, Nat.mul_comm d, ← this]
    omega
  rw [hc]
  generalize d * 2 ^ (7 * q) = Y at *
  have hw : wrap64 (Y : Int) = (Y : Int) := by unfold wrap64; omega
  rw [hw]
  show IntKind.i64.wrap (((BitVec.ofInt 64 (X : Int) ||| BitVec.ofInt 64 (Y : Int)).toNat : Nat) : Int) = _
  have e1 : (BitVec.ofInt 64 (X : Int) ||| BitVec.ofInt 64 (Y : Int)).toNat = X ||| Y := by
    rw [BitVec.toNat_or, BitVec.toNat_ofInt, BitVec.toNat_ofInt]
    congr 1 <;> omega
  rw [e1, hor, IntKind.wrap_i64]
  omega
set_option maxRecDepth 100000 in
set_option maxHeartbeats 2000000 in
theorem take_short {B : Nat → Prop} {w : World} {sl : Value} {bs : List UInt8} (hb : IsB B w sl bs) (h9 : bs.length ≤ 9) :
    Calls Try.prog 75 #[sl] w fun r w' => r = .returned (.tuple #[.int .i64 ((tk bs).1 : Nat), .int .i64 ((tk bs).2 : Nat)]) ∧ w' = w := by
  obtain ⟨ao, cap, rfl, hc1, hc2, -, hcell⟩ := hb
  have hq1 := bcut_high ao bs.length cap bs.length (by omega)
  have hI9 : (bs.length : Int) ≤ 9 := by omega
  have hT : Hid (tk bs = tkL 0 0 (bs.drop 0)) := by show _ = _; unfold tk; simp
  go_enter Try.func75, Try.ntmps75
  go_wp2_with fail
  go_loopg [4, 13] 9 (fun g x i wr => ∃ (q X : Nat), q ≤ bs.length ∧ g = 9 - q ∧ x = .int .i64 X ∧ i = .int .i64 q ∧ Hid (tk bs = tkL q X (bs.drop q)) ∧ Hid (X < 128 ^ q) ∧ wr = w)
  case atStart => exact ⟨0, 0, by omega, rfl, rfl, rfl, hT, by show _ < _; decide, rfl⟩
  case round =>
    clear hT
    obtain ⟨q, X, hq, rfl, rfl, rfl, HT, HX, rfl⟩ := hrel
    by_cases hlt : q < bs.length
    · have hltI : (q : Int) < (bs.length : Int) := by omega
      have hq0 : (0 : Int) ≤ (q : Int) := by omega
      have hltb : q < bs.length := by omega
      obtain ⟨g, o, rfl, hBg, hgl, hc⟩ := hcell (by intro e; rw [e] at hltb; simp at hltb)
      have hcq := hc q bs[q] (List.getElem?_eq_getElem hltb)
      have hgq : bs[q]? = some bs[q] := List.getElem?_eq_getElem hltb
      have hcl := bs[q].toNat_lt
      generalize bs[q] = c at *
      have hD := tkL_drop (x := X) hgq
      rw [if_neg (by omega)] at hD
      obtain ⟨Y, HY⟩ : ∃ Y : Nat, Hid (X + c.toNat % 128 * 128 ^ q = Y) := ⟨_, rfl⟩
      have hor : bits BinOp.or IntKind.i64 (X : Int) (wrap64 ((c.toNat : Int) % 128 * 2 ^ (7 * q))) = (Y : Int) := by
        rw [← HY.out]
        exact or_add (d := c.toNat % 128) HX.out (by omega) (by omega)
      have hYb : Hid (Y < 128 ^ (q + 1)) := by show _ < _; rw [← HY.out]; exact tkL_bound HX.out (by omega)
      rw [HY.out] at hD
      clear hc hcell HY hgq
      by_cases h128 : 128 ≤ c.toNat
      · have hcI : (128 : Int) ≤ (c.toNat : Int) := by omega
        rw [if_pos h128] at hD
        have HT2 : Hid (tk bs = tkL (q + 1) Y (bs.drop (q + 1))) := by show _ = _; rw [HT.out, hD]
        clear hD HT HX
        go_wp2_with fail
        go_roundg (9 - (q + 1))
        case measure => omega
        case rel => exact ⟨q + 1, Y, by omega, rfl, rfl, by go_num, HT2, hYb, rfl⟩
      · have hcI : ¬ (128 : Int) ≤ (c.toNat : Int) := by omega
        rw [if_neg h128] at hD
        by_cases h0 : c.toNat = 0
        · have h0I : (c.toNat : Int) = 0 := by omega
          have h0b : ((c.toNat : Int) == 0) = true := by simp [h0]
          by_cases hqp : 0 < q
          · have hqI : (0 : Int) < (q : Int) := by omega
            rw [if_pos ⟨h0, hqp⟩] at hD
            have HT2 : Hid (tk bs = (0, 0)) := by show _ = _; rw [HT.out, hD]
            clear hD HT HX h0I h0
            go_wp2
            go_ret2
            exact ⟨by rw [HT2.out]; rfl, rfl⟩
          · have hqI : ¬ (0 : Int) < (q : Int) := by omega
            rw [if_neg (fun h => hqp h.2)] at hD
            have HT2 : Hid (tk bs = (Y, q + 1)) := by show _ = _; rw [HT.out, hD]
            clear hD HT HX h0I h0
            go_wp2
            go_ret2
            exact ⟨by rw [HT2.out]; rfl, rfl⟩
        · have h0b : ((c.toNat : Int) == 0) = false := by simp; omega
          rw [if_neg (fun h => h0 h.1)] at hD
          have HT2 : Hid (tk bs = (Y, q + 1)) := by show _ = _; rw [HT.out, hD]
          clear hD HT HX
          go_wp2
          go_ret2
          exact ⟨by rw [HT2.out]; rfl, rfl⟩
    · have hltI : ¬ (q : Int) < (bs.length : Int) := by omega
      have HT2 : Hid (tk bs = (0, 0)) := by
        show _ = _
        rw [HT.out]
        rw [List.drop_of_length_le (by omega)]; rfl
      clear HT HX
      go_wp2
      go_ret2
      exact ⟨by rw [HT2.out]; rfl, rfl⟩
set_option maxRecDepth 100000 in
set_option maxHeartbeats 2000000 in
theorem take_long {B : Nat → Prop} {w : World} {sl : Value} {bs : List UInt8} (hb : IsB B w sl bs) (h9 : 9 < bs.length) :
    Calls Try.prog 75 #[sl] w fun r w' => r = .returned (.tuple #[.int .i64 ((tk bs).1 : Nat), .int .i64 ((tk bs).2 : Nat)]) ∧ w' = w := by
  obtain ⟨ao, cap, rfl, hc1, hc2, -, hcell⟩ := hb
  have hq1 : ∀ wx, (Instr.slice 34 (.slice ao bs.length cap) none (some (.int .i64 9)) none).run Try.prog wx = .ok (.slice ao 9 cap) wx := fun wx => bcut_high ao bs.length cap 9 (by omega) wx
  have hI9 : ¬ (bs.length : Int) ≤ 9 := by omega
  have hT : Hid (tk bs = tkL 0 0 (bs.drop 0)) := by show _ = _; unfold tk; simp
  go_enter Try.func75, Try.ntmps75
  go_wp2_with fail
  go_loopg [4, 13] 9 (fun g x i wr => ∃ (q X : Nat), q ≤ 9 ∧ g = 9 - q ∧ x = .int .i64 X ∧ i = .int .i64 q ∧ Hid (tk bs = tkL q X (bs.drop q)) ∧ Hid (X < 128 ^ q) ∧ wr = w)
  case atStart => exact ⟨0, 0, by omega, rfl, rfl, rfl, hT, by show _ < _; decide, rfl⟩
  case round =>
    clear hT
    obtain ⟨q, X, hq, rfl, rfl, rfl, HT, HX, rfl⟩ := hrel
    by_cases hlt : q < 9
    · have hltI : (q : Int) < 9 := by omega
      have hq0 : (0 : Int) ≤ (q : Int) := by omega
      have hltb : q < bs.length := by omega
      obtain ⟨g, o, rfl, hBg, hgl, hc⟩ := hcell (by intro e; rw [e] at hltb; simp at hltb)
      have hcq := hc q bs[q] (List.getElem?_eq_getElem hltb)
      have hgq : bs[q]? = some bs[q] := List.getElem?_eq_getElem hltb
      have hcl := bs[q].toNat_lt
      generalize bs[q] = c at *
      have hD := tkL_drop (x := X) hgq
      rw [if_neg (by omega)] at hD
      obtain ⟨Y, HY⟩ : ∃ Y : Nat, Hid (X + c.toNat % 128 * 128 ^ q = Y) := ⟨_, rfl⟩
      have hor : bits BinOp.or IntKind.i64 (X : Int) (wrap64 ((c.toNat : Int) % 128 * 2 ^ (7 * q))) = (Y : Int) := by
        rw [← HY.out]
        exact or_add (d := c.toNat % 128) HX.out (by omega) (by omega)
      have hYb : Hid (Y < 128 ^ (q + 1)) := by show _ < _; rw [← HY.out]; exact tkL_bound HX.out (by omega)
      rw [HY.out] at hD
      clear hc hcell HY hgq
      by_cases h128 : 128 ≤ c.toNat
      · have hcI : (128 : Int) ≤ (c.toNat : Int) := by omega
        rw [if_pos h128] at hD
        have HT2 : Hid (tk bs = tkL (q + 1) Y (bs.drop (q + 1))) := by show _ = _; rw [HT.out, hD]
        clear hD HT HX
        go_wp2_with fail
        go_roundg (9 - (q + 1))
        case measure => omega
        case rel => exact ⟨q + 1, Y, by omega, rfl, rfl, by go_num, HT2, hYb, rfl⟩
      · have hcI : ¬ (128 : Int) ≤ (c.toNat : Int) := by omega
        rw [if_neg h128] at hD
        by_cases h0 : c.toNat = 0
        · have h0I : (c.toNat : Int) = 0 := by omega
          have h0b : ((c.toNat : Int) == 0) = true := by simp [h0]
          by_cases hqp : 0 < q
          · have hqI : (0 : Int) < (q : Int) := by omega
            rw [if_pos ⟨h0, hqp⟩] at hD
            have HT2 : Hid (tk bs = (0, 0)) := by show _ = _; rw [HT.out, hD]
            clear hD HT HX h0I h0
            go_wp2
            go_ret2
            exact ⟨by rw [HT2.out]; rfl, rfl⟩
          · have hqI : ¬ (0 : Int) < (q : Int) := by omega
            rw [if_neg (fun h => hqp h.2)] at hD
            have HT2 : Hid (tk bs = (Y, q + 1)) := by show _ = _; rw [HT.out, hD]
            clear hD HT HX h0I h0
            go_wp2
            go_ret2
            exact ⟨by rw [HT2.out]; rfl, rfl⟩
        · have h0b : ((c.toNat : Int) == 0) = false := by simp; omega
          rw [if_neg (fun h => h0 h.1)] at hD
          have HT2 : Hid (tk bs = (Y, q + 1)) := by show _ = _; rw [HT.out, hD]
          clear hD HT HX
          go_wp2
          go_ret2
          exact ⟨by rw [HT2.out]; rfl, rfl⟩
    · have hltI : ¬ (q : Int) < 9 := by omega
      have HT2 : Hid (tk bs = (0, 0)) := by
        show _ = _
        rw [HT.out]
        exact tkL_nine (by omega)
      clear HT HX
      go_wp2
      go_ret2
      exact ⟨by rw [HT2.out]; rfl, rfl⟩
theorem take_any {B : Nat → Prop} {w : World} {sl : Value} {bs : List UInt8} (hb : IsB B w sl bs) :
    Calls Try.prog 75 #[sl] w fun r w' => r = .returned (.tuple #[.int .i64 ((tk bs).1 : Nat), .int .i64 ((tk bs).2 : Nat)]) ∧ w' = w := by
  by_cases h : bs.length ≤ 9
  · exact take_short hb h
  · exact take_long hb (by omega)
end Go.Proofs.Ytndahpcjkcihlaa
