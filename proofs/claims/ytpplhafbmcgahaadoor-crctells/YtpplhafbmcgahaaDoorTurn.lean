/- The plain mathematics of damage: the run over bytes is linear; of a change of up to four neighbouring bytes the end tells. -/
import Derived.Test.YtpplhafbmcgahaaDoorCrc
namespace Go.Proofs.YtpplhafbmcgahaaDoor
namespace Crc

/-- Go's exclusive or of two bytes. -/
def x8 (a b : Int) : Int := bits .xor .u8 a b
theorem x8_nat {a b : Int} (ha0 : 0 ≤ a) (ha1 : a < 256) (hb0 : 0 ≤ b) (hb1 : b < 256) : x8 a b = ((a.toNat ^^^ b.toNat : Nat) : Int) := u8_xor a b ha0 ha1 hb0 hb1
theorem x8_range (a b : Int) : 0 ≤ x8 a b ∧ x8 a b < 256 := by
  have e : x8 a b = IntKind.u8.wrap ((BitVec.ofInt 8 a ^^^ BitVec.ofInt 8 b).toNat : Int) := rfl
  rw [e, IntKind.wrap_u8']
  omega
theorem x8_zero {a : Int} (ha0 : 0 ≤ a) (ha1 : a < 256) : x8 a 0 = a := by
  rw [x8_nat ha0 ha1 (by omega) (by omega)]; simp; omega
theorem x8_vec {a b : Int} (ha0 : 0 ≤ a) (ha1 : a < 256) (hb0 : 0 ≤ b) (hb1 : b < 256) : BitVec.ofInt 32 (x8 a b) = BitVec.ofInt 32 a ^^^ BitVec.ofInt 32 b := by
  rw [x8_nat ha0 ha1 hb0 hb1]
  obtain ⟨n, rfl⟩ := Int.eq_ofNat_of_zero_le ha0
  obtain ⟨m, rfl⟩ := Int.eq_ofNat_of_zero_le hb0
  apply BitVec.eq_of_toNat_eq
  have hx : n ^^^ m < 2 ^ 8 := Nat.xor_lt_two_pow (by omega) (by omega)
  rw [BitVec.toNat_xor, BitVec.ofInt_natCast, BitVec.ofInt_natCast, BitVec.ofInt_natCast, BitVec.toNat_ofNat, BitVec.toNat_ofNat, BitVec.toNat_ofNat, Int.toNat_natCast, Int.toNat_natCast,
    Nat.mod_eq_of_lt (by omega), Nat.mod_eq_of_lt (by omega), Nat.mod_eq_of_lt (by omega)]

theorem byte_null : byte 0#32 = 0#32 := by decide
theorem vec_null : BitVec.ofInt 32 0 = 0#32 := by decide
theorem run_null : ∀ n, run 0#32 (List.replicate n 0) = 0#32
  | 0 => rfl
  | n + 1 => by
    show run (byte (0#32 ^^^ BitVec.ofInt 32 0)) (List.replicate n 0) = 0#32
    rw [vec_null, BitVec.xor_self, byte_null]
    exact run_null n

theorem nib_even (x : BitVec 32) (h : x.toNat % 16 = 0) : nib x = x >>> 4 := by
  unfold nib
  rw [h]
  have : tab 0 = 0#32 := by decide
  rw [this]; simp
theorem byte_up (e : BitVec 32) (h : e.toNat < 16777216) : byte (e <<< 8) = e := by
  have e1 : (e <<< 8).toNat = e.toNat * 256 := by
    rw [BitVec.toNat_shiftLeft, Nat.shiftLeft_eq]
    omega
  have e2 : ((e <<< 8) >>> 4).toNat = e.toNat * 16 := by
    rw [BitVec.toNat_ushiftRight, e1, Nat.shiftRight_eq_div_pow]
    omega
  unfold byte
  rw [nib_even (e <<< 8) (by omega), nib_even ((e <<< 8) >>> 4) (by omega)]
  apply BitVec.eq_of_toNat_eq
  rw [BitVec.toNat_ushiftRight, e2, Nat.shiftRight_eq_div_pow]
  omega
theorem up_toNat (e : BitVec 32) (h : e.toNat < 16777216) : (e <<< 8).toNat = e.toNat * 256 := by
  rw [BitVec.toNat_shiftLeft, Nat.shiftLeft_eq]
  omega
theorem byte_of_vec {m : Int} (h0 : 0 ≤ m) (h1 : m < 256) : ((BitVec.ofInt 32 m).toNat : Int) = m := toNat_ofInt h0 (by omega)
theorem xor_move {x e : BitVec 32} {y : BitVec 32} (h : x ^^^ e = y) : x = e ^^^ y := by
  rw [← h, BitVec.xor_comm x e, ← BitVec.xor_assoc]; simp
/-- Four masks that lead from nothing to nothing are nothing. -/
theorem four_null {a b c d : Int} (ha0 : 0 ≤ a) (ha1 : a < 256) (hb0 : 0 ≤ b) (hb1 : b < 256) (hc0 : 0 ≤ c) (hc1 : c < 256) (hd0 : 0 ≤ d) (hd1 : d < 256)
    (h : run 0#32 [a, b, c, d] = 0#32) : a = 0 ∧ b = 0 ∧ c = 0 ∧ d = 0 := by
  have ea := byte_of_vec ha0 ha1
  have eb := byte_of_vec hb0 hb1
  have ec := byte_of_vec hc0 hc1
  have ed := byte_of_vec hd0 hd1
  change byte (byte (byte (byte (0#32 ^^^ BitVec.ofInt 32 a) ^^^ BitVec.ofInt 32 b) ^^^ BitVec.ofInt 32 c) ^^^ BitVec.ofInt 32 d) = 0#32 at h
  generalize BitVec.ofInt 32 a = va at *
  generalize BitVec.ofInt 32 b = vb at *
  generalize BitVec.ofInt 32 c = vc at *
  generalize BitVec.ofInt 32 d = vd at *
  have h3 := xor_zero (byte_zero _ h)
  rw [← byte_up vd (by omega)] at h3
  have h2 := xor_move (byte_inj h3)
  have lt2 : (vc ^^^ vd <<< 8).toNat < 2 ^ 16 := by
    rw [BitVec.toNat_xor, up_toNat _ (by omega)]
    exact Nat.xor_lt_two_pow (by omega) (by omega)
  generalize hy2 : vc ^^^ vd <<< 8 = y2 at *
  rw [← byte_up y2 (by omega)] at h2
  have h1 := xor_move (byte_inj h2)
  have lt1 : (vb ^^^ y2 <<< 8).toNat < 2 ^ 24 := by
    rw [BitVec.toNat_xor, up_toNat _ (by omega)]
    exact Nat.xor_lt_two_pow (by omega) (by omega)
  generalize hy1 : vb ^^^ y2 <<< 8 = y1 at *
  rw [← byte_up y1 (by omega)] at h1
  have h0 := byte_inj h1
  have e0 : va = y1 <<< 8 := by simpa using h0
  have n0 := congrArg BitVec.toNat e0
  rw [up_toNat _ (by omega)] at n0
  have z1 : y1 = 0#32 := BitVec.eq_of_toNat_eq (by simp; omega)
  rw [z1] at hy1
  have n1 := congrArg BitVec.toNat (xor_zero hy1)
  rw [up_toNat _ (by omega)] at n1
  have z2 : y2 = 0#32 := BitVec.eq_of_toNat_eq (by simp; omega)
  rw [z2] at hy2
  have n2 := congrArg BitVec.toNat (xor_zero hy2)
  rw [up_toNat _ (by omega)] at n2
  omega

/-- Bytes: each from 0 to 255. -/
def All8 (l : List Int) : Prop := ∀ c ∈ l, 0 ≤ c ∧ c < 256

/-- The bytes of l with the masks ms laid over those from place p on. -/
def over : List Int → Nat → List Int → List Int
  | [], _, _ => []
  | c :: l, 0, [] => c :: l
  | c :: l, 0, m :: ms => x8 c m :: over l 0 ms
  | c :: l, p + 1, ms => c :: over l p ms
theorem over_none : ∀ (l : List Int) (p : Nat), over l p [] = l
  | [], _ => by simp [over]
  | c :: l, 0 => by simp [over]
  | c :: l, p + 1 => by simp [over, over_none l p]
theorem over_length : ∀ (l : List Int) (p : Nat) (ms : List Int), (over l p ms).length = l.length
  | [], _, _ => by simp [over]
  | c :: l, 0, [] => by simp [over]
  | c :: l, 0, m :: ms => by simp [over, over_length l 0 ms]
  | c :: l, p + 1, ms => by simp [over, over_length l p ms]
theorem over_past : ∀ (l : List Int) (p : Nat) (ms : List Int) (m : Int), l.length ≤ p + ms.length → over l p (ms ++ [m]) = over l p ms
  | [], _, _, _, _ => by simp [over]
  | c :: l, 0, [], m, h => by simp at h
  | c :: l, 0, n :: ms, m, h => by
    simp only [List.cons_append, over]
    rw [over_past l 0 ms m (by simp at h ⊢; omega)]
  | c :: l, p + 1, ms, m, h => by
    simp only [over]
    rw [over_past l p ms m (by simp at h ⊢; omega)]
theorem over_next : ∀ (l : List Int) (p : Nat) (ms : List Int) (m : Int), p + ms.length < l.length →
    over l p (ms ++ [m]) = (over l p ms).set (p + ms.length) (x8 ((over l p ms).getD (p + ms.length) 0) m)
  | [], _, _, _, h => by simp at h
  | c :: l, 0, [], m, h => by simp [over, over_none]
  | c :: l, 0, n :: ms, m, h => by
    have e := over_next l 0 ms m (by simp at h ⊢; omega)
    simp only [List.cons_append, over, e, Nat.zero_add]
    simp
  | c :: l, p + 1, ms, m, h => by
    have e := over_next l p ms m (by simp at h ⊢; omega)
    have e1 : p + 1 + ms.length = (p + ms.length) + 1 := by omega
    simp only [over, e, e1]
    simp
theorem over_all : ∀ (l : List Int) (p : Nat) (ms : List Int), All8 l → All8 (over l p ms)
  | [], _, _, _ => by simp [over, All8]
  | c :: l, 0, [], h => by simpa [over] using h
  | c :: l, 0, m :: ms, h => by
    intro x hx
    simp only [over, List.mem_cons] at hx
    rcases hx with rfl | hx
    · exact x8_range _ _
    · exact over_all l 0 ms (fun y hy => h y (List.mem_cons_of_mem _ hy)) x hx
  | c :: l, p + 1, ms, h => by
    intro x hx
    simp only [over, List.mem_cons] at hx
    rcases hx with rfl | hx
    · exact h _ List.mem_cons_self
    · exact over_all l p ms (fun y hy => h y (List.mem_cons_of_mem _ hy)) x hx

/-- What the masks do to the end, if they begin at the first place: the run over the masks alone is the difference. -/
theorem run_over : ∀ (l ms : List Int) (r d : BitVec 32), All8 l → All8 ms → run (r ^^^ d) (over l 0 ms) = run r l ^^^ run d ((ms ++ List.replicate l.length 0).take l.length)
  | [], ms, r, d, _, _ => by simp [over, run]
  | c :: l, [], r, d, hl, hm => by
    have e : over (c :: l) 0 [] = c :: over l 0 [] := by simp [over, over_none]
    rw [e]
    show run (byte (r ^^^ d ^^^ BitVec.ofInt 32 c)) (over l 0 []) = _
    have e2 : byte (r ^^^ d ^^^ BitVec.ofInt 32 c) = byte (r ^^^ BitVec.ofInt 32 c) ^^^ byte (d ^^^ BitVec.ofInt 32 0) := by
      rw [← byte_lin, vec_null]
      congr 1
      simp only [BitVec.xor_zero]
      ac_rfl
    rw [e2, run_over l [] _ _ (fun y hy => hl y (List.mem_cons_of_mem _ hy)) hm]
    simp [run, List.replicate_succ]
  | c :: l, m :: ms, r, d, hl, hm => by
    show run (byte (r ^^^ d ^^^ BitVec.ofInt 32 (x8 c m))) (over l 0 ms) = _
    have hc := hl c List.mem_cons_self
    have hmm := hm m List.mem_cons_self
    have e2 : byte (r ^^^ d ^^^ BitVec.ofInt 32 (x8 c m)) = byte (r ^^^ BitVec.ofInt 32 c) ^^^ byte (d ^^^ BitVec.ofInt 32 m) := by
      rw [← byte_lin, x8_vec hc.1 hc.2 hmm.1 hmm.2]
      congr 1
      ac_rfl
    rw [e2, run_over l ms _ _ (fun y hy => hl y (List.mem_cons_of_mem _ hy)) (fun y hy => hm y (List.mem_cons_of_mem _ hy))]
    have e3 : (m :: ms ++ List.replicate (c :: l).length 0).take (c :: l).length = m :: (ms ++ List.replicate l.length 0).take l.length := by
      simp only [List.cons_append, List.length_cons, List.take_succ_cons, List.cons.injEq, true_and]
      have e4 : ms ++ List.replicate (l.length + 1) 0 = (ms ++ List.replicate l.length 0) ++ [0] := by rw [List.replicate_succ']; simp
      rw [e4, List.take_append_of_le_length (by simp)]
    rw [e3]
    rfl

/-- The masks that meet a byte of a list of n, from place p on: is one of the first four another than 0? -/
def unlike (n p : Nat) : Nat → List Int → Bool
  | _, [] => false
  | j, m :: ms => (decide (p + j < n) && (m != 0)) || unlike n p (j + 1) ms

theorem xor_same {a b : BitVec 32} : a ^^^ b = a ↔ b = 0#32 := by
  constructor
  · intro h
    have : a ^^^ (a ^^^ b) = a ^^^ a := by rw [h]
    rw [← BitVec.xor_assoc] at this
    simpa using this
  · intro h; rw [h]; simp

theorem null_iff (n : Nat) (m0 m1 m2 m3 : Int) (h0 : 0 ≤ m0 ∧ m0 < 256) (h1 : 0 ≤ m1 ∧ m1 < 256) (h2 : 0 ≤ m2 ∧ m2 < 256) (h3 : 0 ≤ m3 ∧ m3 < 256) :
    run 0#32 (([m0, m1, m2, m3] ++ List.replicate n 0).take n) = 0#32 ↔ unlike n 0 0 [m0, m1, m2, m3] = false := by
  have back : ∀ (ms : List Int) (k : Nat), run 0#32 ms = 0#32 → run 0#32 (ms ++ List.replicate k 0) = 0#32 := by
    intro ms k h
    rw [run_append, h, run_null]
  rcases n with _ | _ | _ | _ | n
  · simp [run, unlike]
  · constructor
    · intro h
      have := four_null h0.1 h0.2 (by omega) (by omega) (by omega) (by omega) (by omega) (by omega) (back [m0] 3 (by simpa using h))
      simp [unlike, this.1]
    · intro h
      simp [unlike] at h
      subst h
      simpa using run_null 1
  · constructor
    · intro h
      have := four_null h0.1 h0.2 h1.1 h1.2 (by omega) (by omega) (by omega) (by omega) (back [m0, m1] 2 (by simpa using h))
      simp [unlike, this.1, this.2.1]
    · intro h
      simp [unlike] at h
      obtain ⟨rfl, rfl⟩ := h
      simpa using run_null 2
  · constructor
    · intro h
      have := four_null h0.1 h0.2 h1.1 h1.2 h2.1 h2.2 (by omega) (by omega) (back [m0, m1, m2] 1 (by simpa using h))
      simp [unlike, this.1, this.2.1, this.2.2.1]
    · intro h
      simp [unlike] at h
      obtain ⟨rfl, rfl, rfl⟩ := h
      simpa using run_null 3
  · have e : ([m0, m1, m2, m3] ++ List.replicate (n + 4) 0).take (n + 4) = [m0, m1, m2, m3] ++ List.replicate n 0 := by
      simp
    rw [e, run_append]
    constructor
    · intro h
      have h4 : run 0#32 [m0, m1, m2, m3] = 0#32 := by
        apply run_inj (List.replicate n 0)
        rw [h, run_null]
      have := four_null h0.1 h0.2 h1.1 h1.2 h2.1 h2.2 h3.1 h3.2 h4
      simp [unlike, this.1, this.2.1, this.2.2.1, this.2.2.2]
    · intro h
      simp [unlike] at h
      obtain ⟨rfl, rfl, rfl, rfl⟩ := h
      rw [show ([0, 0, 0, 0] : List Int) = List.replicate 4 0 from rfl, run_null, run_null]

theorem unlike_shift (n p : Nat) : ∀ (ms : List Int) (j : Nat), unlike (n + 1) (p + 1) j ms = unlike n p j ms
  | [], _ => rfl
  | m :: ms, j => by
    unfold unlike
    rw [unlike_shift n p ms (j + 1)]
    have : (p + 1 + j < n + 1) ↔ (p + j < n) := by omega
    simp [this]
theorem unlike_snoc (n p : Nat) (m : Int) : ∀ (ms : List Int) (j : Nat), unlike n p j (ms ++ [m]) = (unlike n p j ms || (decide (p + (j + ms.length) < n) && (m != 0)))
  | [], j => by simp [unlike]
  | x :: ms, j => by
    simp only [List.cons_append, unlike]
    rw [unlike_snoc n p m ms (j + 1), Bool.or_assoc, List.length_cons, show j + 1 + ms.length = j + (ms.length + 1) by omega]
theorem unlike_none (p : Nat) : ∀ (ms : List Int) (j : Nat), unlike 0 p j ms = false
  | [], _ => rfl
  | m :: ms, j => by unfold unlike; rw [unlike_none p ms (j + 1)]; simp

theorem run_tells (m0 m1 m2 m3 : Int) (h0 : 0 ≤ m0 ∧ m0 < 256) (h1 : 0 ≤ m1 ∧ m1 < 256) (h2 : 0 ≤ m2 ∧ m2 < 256) (h3 : 0 ≤ m3 ∧ m3 < 256) :
    ∀ (l : List Int) (p : Nat) (r : BitVec 32), All8 l → (run r (over l p [m0, m1, m2, m3]) = run r l ↔ unlike l.length p 0 [m0, m1, m2, m3] = false)
  | [], p, r, _ => by simp [over, unlike_none]
  | c :: l, p + 1, r, hl => by
    show run (byte (r ^^^ BitVec.ofInt 32 c)) (over l p _) = run (byte (r ^^^ BitVec.ofInt 32 c)) l ↔ _
    rw [run_tells m0 m1 m2 m3 h0 h1 h2 h3 l p _ (fun y hy => hl y (List.mem_cons_of_mem _ hy))]
    rw [List.length_cons, unlike_shift]
  | c :: l, 0, r, hl => by
    have hm : All8 [m0, m1, m2, m3] := by
      intro x hx
      simp only [List.mem_cons, List.not_mem_nil, or_false] at hx
      rcases hx with rfl | rfl | rfl | rfl <;> assumption
    have e := run_over (c :: l) [m0, m1, m2, m3] r 0#32 hl hm
    rw [BitVec.xor_zero] at e
    rw [e, xor_same, null_iff _ m0 m1 m2 m3 h0 h1 h2 h3]

theorem tells (m0 m1 m2 m3 : Int) (h0 : 0 ≤ m0 ∧ m0 < 256) (h1 : 0 ≤ m1 ∧ m1 < 256) (h2 : 0 ≤ m2 ∧ m2 < 256) (h3 : 0 ≤ m3 ∧ m3 < 256) (l : List Int) (p : Nat) (hl : All8 l) :
    ((add 0 l != add 0 (over l p [m0, m1, m2, m3])) == unlike l.length p 0 [m0, m1, m2, m3]) = true := by
  have h := run_tells m0 m1 m2 m3 h0 h1 h2 h3 l p (~~~ BitVec.ofInt 32 0) hl
  have e : add 0 l = add 0 (over l p [m0, m1, m2, m3]) ↔ unlike l.length p 0 [m0, m1, m2, m3] = false := by
    rw [← h, ← ofInt_add, ← ofInt_add]
    constructor
    · intro h; rw [h]
    · intro h
      have h' := congrArg (fun v => ~~~ v) h
      simp only [not_not] at h'
      have r1 := add_range 0 l
      have r2 := add_range 0 (over l p [m0, m1, m2, m3])
      rw [← toNat_ofInt r1.1 r1.2, ← toNat_ofInt r2.1 r2.2, h']
  cases hu : unlike l.length p 0 [m0, m1, m2, m3] with
  | false => rw [e.2 hu]; simp
  | true =>
    have hne : add 0 l ≠ add 0 (over l p [m0, m1, m2, m3]) := fun h => by rw [e.1 h] at hu; cases hu
    simp [hne]

/-- The exclusive or of three lists of bytes, place by place. -/
def mix3 : List Int → List Int → List Int → List Int
  | a :: as, b :: bs, c :: cs => x8 (x8 a b) c :: mix3 as bs cs
  | _, _, _ => []
theorem mix3_length : ∀ (a b c : List Int), a.length = b.length → a.length = c.length → (mix3 a b c).length = a.length
  | [], _, _, _, _ => by simp [mix3]
  | _ :: _, [], _, h, _ => by simp at h
  | _ :: _, _ :: _, [], _, h => by simp at h
  | x :: a, y :: b, z :: c, h1, h2 => by simp [mix3, mix3_length a b c (by simpa using h1) (by simpa using h2)]
theorem mix3_all : ∀ (a b c : List Int), All8 (mix3 a b c)
  | [], _, _ => by simp [mix3, All8]
  | _ :: _, [], _ => by simp [mix3, All8]
  | _ :: _, _ :: _, [] => by simp [mix3, All8]
  | x :: a, y :: b, z :: c => by
    intro v hv
    simp only [mix3, List.mem_cons] at hv
    rcases hv with rfl | hv
    · exact x8_range _ _
    · exact mix3_all a b c v hv
theorem mix3_getD : ∀ (a b c : List Int) (k : Nat), k < a.length → k < b.length → k < c.length → (mix3 a b c).getD k 0 = x8 (x8 (a.getD k 0) (b.getD k 0)) (c.getD k 0)
  | [], _, _, _, h, _, _ => by simp at h
  | _ :: _, [], _, _, _, h, _ => by simp at h
  | _ :: _, _ :: _, [], _, _, _, h => by simp at h
  | x :: a, y :: b, z :: c, 0, _, _, _ => by simp [mix3]
  | x :: a, y :: b, z :: c, k + 1, h1, h2, h3 => by
    have e := mix3_getD a b c k (by simpa using h1) (by simpa using h2) (by simpa using h3)
    simpa [mix3] using e
theorem run_mix3 : ∀ (a b c : List Int) (r s t : BitVec 32), a.length = b.length → a.length = c.length → All8 a → All8 b → All8 c →
    run (r ^^^ s ^^^ t) (mix3 a b c) = run r a ^^^ run s b ^^^ run t c
  | [], b, c, r, s, t, h1, h2, _, _, _ => by
    have hb : b = [] := List.length_eq_zero_iff.1 h1.symm
    have hc : c = [] := List.length_eq_zero_iff.1 h2.symm
    subst hb hc
    rfl
  | _ :: _, [], _, _, _, _, h, _, _, _, _ => by simp at h
  | _ :: _, _ :: _, [], _, _, _, _, h, _, _, _ => by simp at h
  | x :: a, y :: b, z :: c, r, s, t, h1, h2, ha, hb, hc => by
    have hx := ha x List.mem_cons_self
    have hy := hb y List.mem_cons_self
    have hz := hc z List.mem_cons_self
    have hxy := x8_range x y
    show run (byte (r ^^^ s ^^^ t ^^^ BitVec.ofInt 32 (x8 (x8 x y) z))) (mix3 a b c) = _
    have e : byte (r ^^^ s ^^^ t ^^^ BitVec.ofInt 32 (x8 (x8 x y) z)) = byte (r ^^^ BitVec.ofInt 32 x) ^^^ byte (s ^^^ BitVec.ofInt 32 y) ^^^ byte (t ^^^ BitVec.ofInt 32 z) := by
      rw [← byte_lin, ← byte_lin, x8_vec hxy.1 hxy.2 hz.1 hz.2, x8_vec hx.1 hx.2 hy.1 hy.2]
      congr 1
      ac_rfl
    rw [e, run_mix3 a b c _ _ _ (by simpa using h1) (by simpa using h2) (fun v hv => ha v (List.mem_cons_of_mem _ hv)) (fun v hv => hb v (List.mem_cons_of_mem _ hv)) (fun v hv => hc v (List.mem_cons_of_mem _ hv))]
    rfl
theorem add_vec (s : Int) (l : List Int) : BitVec.ofInt 32 (add s l) = ~~~ run (~~~ BitVec.ofInt 32 s) l := by
  unfold add; rw [ofInt_toNat]
theorem not_xor3 (a b c : BitVec 32) : ~~~ (a ^^^ b ^^^ c) = ~~~ a ^^^ ~~~ b ^^^ ~~~ c := by
  apply BitVec.eq_of_getLsbD_eq
  intro i hi
  simp only [BitVec.getLsbD_not, BitVec.getLsbD_xor, hi, decide_true, Bool.true_and]
  cases a.getLsbD i <;> cases b.getLsbD i <;> cases c.getLsbD i <;> rfl
theorem mixes (a b c : List Int) (h1 : a.length = b.length) (h2 : a.length = c.length) (ha : All8 a) (hb : All8 b) (hc : All8 c) :
    (add 0 (mix3 a b c) == bits .xor .u32 (bits .xor .u32 (add 0 a) (add 0 b)) (add 0 c)) = true := by
  have ra := add_range 0 a
  have rb := add_range 0 b
  have rc := add_range 0 c
  have rab := xor_range (add 0 a) (add 0 b)
  rw [beq_iff_eq, xor_int rab.1 rab.2 rc.1 rc.2, xor_int ra.1 ra.2 rb.1 rb.2, ofInt_toNat, add_vec, add_vec, add_vec, ← not_xor3, ← run_mix3 a b c _ _ _ h1 h2 ha hb hc]
  unfold add
  congr 3
end Crc
end Go.Proofs.YtpplhafbmcgahaaDoor
