/- The plain mathematics of the sum: no program is named here. What a nibble's step, a byte's step and a whole list do to a number of 32 bits; that each is linear and one to one; that a change of up to four neighbouring bytes changes the end. -/
import Derived.WalkKit
import Derived.Laws.BitsAllLaws
namespace Go.Proofs.YtpplhafbmcgahabDoor
namespace Crc

def poly : BitVec 32 := 0xEDB88320#32
def tabI : List Int := [0, 498536548, 997073096, 651767980, 1994146192, 1802195444, 1303535960, 1342533948, 3988292384, 4027552580, 3604390888, 3412177804, 2607071920, 2262029012, 2685067896, 3183342108]
def tab (k : Nat) : BitVec 32 := BitVec.ofInt 32 (tabI.getD k 0)
def bit (r : BitVec 32) : BitVec 32 := (r >>> 1) ^^^ (if r.getLsbD 0 = true then poly else 0#32)
def nib (r : BitVec 32) : BitVec 32 := tab (r.toNat % 16) ^^^ (r >>> 4)
def byte (r : BitVec 32) : BitVec 32 := nib (nib r)

def mk (b : Bool) : BitVec 32 := if b = true then poly else 0#32
theorem bit_mk (r : BitVec 32) : bit r = (r >>> 1) ^^^ mk (r.getLsbD 0) := rfl
theorem mk_xor (p q : Bool) : mk (p ^^ q) = mk p ^^^ mk q := by cases p <;> cases q <;> decide
theorem mk_low (p : Bool) : (mk p).getLsbD 0 = false := by cases p <;> decide
theorem bit_lin (a b : BitVec 32) : bit (a ^^^ b) = bit a ^^^ bit b := by
  rw [bit_mk, bit_mk, bit_mk, BitVec.getLsbD_xor, mk_xor, BitVec.ushiftRight_xor_distrib]
  ac_rfl
theorem bit_low (r : BitVec 32) : (bit r).getLsbD 0 = r.getLsbD 1 := by
  rw [bit_mk, BitVec.getLsbD_xor, mk_low]; simp
theorem bit_next (r : BitVec 32) (i : Nat) (hi : i < 5) : (bit r).getLsbD i = r.getLsbD (i + 1) := by
  rw [bit_mk, BitVec.getLsbD_xor]
  have : (mk (r.getLsbD 0)).getLsbD i = false := by
    rcases i with _ | _ | _ | _ | _ | i
    all_goals first | (cases r.getLsbD 0 <;> decide) | omega
  rw [this, BitVec.getLsbD_ushiftRight]; simp [Nat.add_comm]
theorem four (r : BitVec 32) : bit (bit (bit (bit r))) = (mk (r.getLsbD 0) >>> 3 ^^^ mk (r.getLsbD 1) >>> 2 ^^^ mk (r.getLsbD 2) >>> 1 ^^^ mk (r.getLsbD 3)) ^^^ (r >>> 4) := by
  rw [bit_mk (bit (bit (bit r))), bit_next _ 0 (by omega), bit_next _ 1 (by omega), bit_next _ 2 (by omega)]
  rw [bit_mk (bit (bit r)), bit_next _ 0 (by omega), bit_next _ 1 (by omega)]
  rw [bit_mk (bit r), bit_next _ 0 (by omega), bit_mk r]
  have sh : ∀ (x : BitVec 32) (m n : Nat), x >>> m >>> n = x >>> (m + n) := fun x m n => (BitVec.shiftRight_add x m n).symm
  simp only [BitVec.ushiftRight_xor_distrib, sh]
  show _ ^^^ _ ^^^ mk (r.getLsbD 3) = _
  ac_rfl
theorem low (r : BitVec 32) (i : Nat) (hi : i < 4) : r.getLsbD i = (r.toNat % 16).testBit i := by
  have h := Nat.testBit_mod_two_pow r.toNat 4 i
  rw [show (2 : Nat) ^ 4 = 16 from rfl] at h
  rw [h, BitVec.getLsbD]; simp [hi]
theorem tab_mk : ∀ k, k < 16 → tab k = (mk (k.testBit 0) >>> 3 ^^^ mk (k.testBit 1) >>> 2 ^^^ mk (k.testBit 2) >>> 1 ^^^ mk (k.testBit 3)) := by decide
theorem nib_bits (r : BitVec 32) : nib r = bit (bit (bit (bit r))) := by
  rw [four, low r 0 (by omega), low r 1 (by omega), low r 2 (by omega), low r 3 (by omega), ← tab_mk _ (Nat.mod_lt _ (by omega))]
  rfl
theorem nib_lin (a b : BitVec 32) : nib (a ^^^ b) = nib a ^^^ nib b := by simp only [nib_bits, bit_lin]
theorem byte_lin (a b : BitVec 32) : byte (a ^^^ b) = byte a ^^^ byte b := by simp only [byte, nib_lin]
theorem byte_bits (r : BitVec 32) : byte r = bit (bit (bit (bit (bit (bit (bit (bit r))))))) := by simp only [byte, nib_bits]

theorem bit_zero (r : BitVec 32) (h : bit r = 0#32) : r = 0#32 := by
  have h31 : (bit r).getLsbD 31 = r.getLsbD 0 := by
    rw [bit_mk, BitVec.getLsbD_xor, BitVec.getLsbD_ushiftRight]
    have : r.getLsbD (1 + 31) = false := BitVec.getLsbD_of_ge _ _ (by omega)
    rw [this]
    cases r.getLsbD 0 <;> decide
  rw [h] at h31
  have h0 : r.getLsbD 0 = false := by simpa using h31.symm
  have hs : r >>> 1 = 0#32 := by
    rw [bit_mk, h0] at h
    simpa [mk] using h
  apply BitVec.eq_of_getLsbD_eq
  intro i hi
  rcases i with _ | i
  · simpa using h0
  · have := congrArg (fun x => BitVec.getLsbD x i) hs
    simp only [BitVec.getLsbD_ushiftRight] at this
    rw [Nat.add_comm i 1]
    simpa using this
theorem byte_zero (r : BitVec 32) (h : byte r = 0#32) : r = 0#32 := by
  rw [byte_bits] at h
  exact bit_zero _ (bit_zero _ (bit_zero _ (bit_zero _ (bit_zero _ (bit_zero _ (bit_zero _ (bit_zero _ h)))))))
theorem xor_zero {a b : BitVec 32} (h : a ^^^ b = 0#32) : a = b := by
  have : a ^^^ b ^^^ b = 0#32 ^^^ b := by rw [h]
  simpa [BitVec.xor_assoc] using this
theorem byte_inj {a b : BitVec 32} (h : byte a = byte b) : a = b := by
  apply xor_zero
  apply byte_zero
  rw [byte_lin, h]; simp

/-- What r becomes over these bytes. -/
def run (r : BitVec 32) : List Int → BitVec 32
  | [] => r
  | c :: l => run (byte (r ^^^ BitVec.ofInt 32 c)) l
theorem run_append (r : BitVec 32) (a b : List Int) : run r (a ++ b) = run (run r a) b := by
  induction a generalizing r with
  | nil => rfl
  | cons c l ih => exact ih _
theorem run_snoc (r : BitVec 32) (a : List Int) (c : Int) : run r (a ++ [c]) = byte (run r a ^^^ BitVec.ofInt 32 c) := by rw [run_append]; rfl
theorem run_inj {a b : BitVec 32} (l : List Int) (h : run a l = run b l) : a = b := by
  induction l generalizing a b with
  | nil => exact h
  | cons c l ih =>
    have := byte_inj (ih h)
    have h2 : a ^^^ BitVec.ofInt 32 c ^^^ BitVec.ofInt 32 c = b ^^^ BitVec.ofInt 32 c ^^^ BitVec.ofInt 32 c := by rw [this]
    simpa [BitVec.xor_assoc] using h2

/-- The number that Add answers, as Go's integer. -/
def add (s : Int) (l : List Int) : Int := ((~~~ run (~~~ BitVec.ofInt 32 s) l).toNat : Int)
theorem toNat_lt (v : BitVec 32) : (v.toNat : Int) < 4294967296 := by have := v.isLt; omega
theorem add_range (s : Int) (l : List Int) : 0 ≤ add s l ∧ add s l < 4294967296 := ⟨by unfold add; omega, toNat_lt _⟩
theorem ofInt_toNat (v : BitVec 32) : BitVec.ofInt 32 (v.toNat : Int) = v := by simp
theorem toNat_ofInt {x : Int} (h0 : 0 ≤ x) (h1 : x < 4294967296) : ((BitVec.ofInt 32 x).toNat : Int) = x := by
  obtain ⟨n, rfl⟩ := Int.eq_ofNat_of_zero_le h0
  rw [BitVec.ofInt_natCast, BitVec.toNat_ofNat, Nat.mod_eq_of_lt (by omega)]
theorem not_not (v : BitVec 32) : ~~~ ~~~ v = v := by simp
theorem ofInt_add (s : Int) (l : List Int) : ~~~ BitVec.ofInt 32 (add s l) = run (~~~ BitVec.ofInt 32 s) l := by
  unfold add; rw [ofInt_toNat, not_not]
theorem add_append (s : Int) (a b : List Int) : add s (a ++ b) = add (add s a) b := by
  show _ = ((~~~ run (~~~ BitVec.ofInt 32 (add s a)) b).toNat : Int)
  rw [ofInt_add, ← run_append]; rfl
theorem add_nil {s : Int} (h0 : 0 ≤ s) (h1 : s < 4294967296) : add s [] = s := by
  show ((~~~ ~~~ BitVec.ofInt 32 s).toNat : Int) = s
  rw [not_not, toNat_ofInt h0 h1]
theorem add_inj {x y : Int} (hx0 : 0 ≤ x) (hx1 : x < 4294967296) (hy0 : 0 ≤ y) (hy1 : y < 4294967296) (l : List Int) (h : add x l = add y l) : x = y := by
  have e : ~~~ BitVec.ofInt 32 x = ~~~ BitVec.ofInt 32 y := by
    apply run_inj l
    rw [← ofInt_add, ← ofInt_add, h]
  have e2 : BitVec.ofInt 32 x = BitVec.ofInt 32 y := by rw [← not_not (BitVec.ofInt 32 x), e, not_not]
  rw [← toNat_ofInt hx0 hx1, e2, toNat_ofInt hy0 hy1]
theorem tabI_range : ∀ k, k < 16 → 0 ≤ tabI.getD k 0 ∧ tabI.getD k 0 < 4294967296 := by decide
theorem nib_int {r : Int} (h0 : 0 ≤ r) (h1 : r < 4294967296) : bits .xor .u32 (tabI.getD (r % 16).toNat 0) (r / 16) = ((nib (BitVec.ofInt 32 r)).toNat : Int) := by
  obtain ⟨n, rfl⟩ := Int.eq_ofNat_of_zero_le h0
  have e1 : ((n : Int) % 16).toNat = n % 16 := by omega
  have e2 : ((n : Int) / 16) = ((n / 16 : Nat) : Int) := by omega
  have ht := tabI_range (n % 16) (Nat.mod_lt _ (by omega))
  have e3 : (BitVec.ofInt 32 (n : Int)).toNat = n := by rw [BitVec.ofInt_natCast, BitVec.toNat_ofNat]; exact Nat.mod_eq_of_lt (by omega)
  have e4 : (tab (n % 16)).toNat = (tabI.getD (n % 16) 0).toNat := by
    have := toNat_ofInt ht.1 ht.2
    unfold tab
    omega
  rw [e1, u32_xor _ _ ht.1 ht.2 (by omega) (by omega), e2, Int.toNat_natCast]
  unfold nib
  rw [BitVec.toNat_xor, BitVec.toNat_ushiftRight, e3, e4, Nat.shiftRight_eq_div_pow]
theorem xor_int {a b : Int} (ha0 : 0 ≤ a) (ha1 : a < 4294967296) (hb0 : 0 ≤ b) (hb1 : b < 4294967296) : bits .xor .u32 a b = ((BitVec.ofInt 32 a ^^^ BitVec.ofInt 32 b).toNat : Int) := by
  rw [u32_xor _ _ ha0 ha1 hb0 hb1, BitVec.toNat_xor]
  have e1 := toNat_ofInt ha0 ha1
  have e2 := toNat_ofInt hb0 hb1
  rw [show a.toNat = (BitVec.ofInt 32 a).toNat by omega, show b.toNat = (BitVec.ofInt 32 b).toNat by omega]
theorem not_int {a : Int} (ha0 : 0 ≤ a) (ha1 : a < 4294967296) : bits .xor .u32 IntKind.u32.max a = ((~~~ BitVec.ofInt 32 a).toNat : Int) := by
  have hm : IntKind.u32.max = 4294967295 := by decide
  rw [hm, xor_int (by omega) (by omega) ha0 ha1]
  have : BitVec.ofInt 32 4294967295 = BitVec.allOnes 32 := by decide
  rw [this, BitVec.allOnes_xor]
/-- The number that stands behind k bytes. -/
def at_ (s : Int) (l : List Int) (k : Nat) : Int := ((run (~~~ BitVec.ofInt 32 s) (l.take k)).toNat : Int)
theorem at_range (s : Int) (l : List Int) (k : Nat) : 0 ≤ at_ s l k ∧ at_ s l k < 4294967296 := ⟨by unfold at_; omega, toNat_lt _⟩
def nibI (r : Int) : Int := ((nib (BitVec.ofInt 32 r)).toNat : Int)
theorem nibI_range (r : Int) : 0 ≤ nibI r ∧ nibI r < 4294967296 := ⟨by unfold nibI; omega, toNat_lt _⟩
theorem at_zero {s : Int} (l : List Int) (h0 : 0 ≤ s) (h1 : s < 4294967296) : bits .xor .u32 IntKind.u32.max s = at_ s l 0 := by rw [not_int h0 h1]; rfl
theorem at_succ (s : Int) (l : List Int) (k : Nat) (hk : k < l.length) (hb0 : 0 ≤ l.getD k 0) (hb1 : l.getD k 0 < 256) :
    nibI (nibI (bits .xor .u32 (at_ s l k) (l.getD k 0))) = at_ s l (k + 1) := by
  have hr := at_range s l k
  rw [xor_int hr.1 hr.2 hb0 (by omega)]
  unfold nibI at_
  rw [ofInt_toNat, ofInt_toNat, ofInt_toNat, List.take_succ_eq_append_getElem hk, run_snoc]
  simp [byte, List.getD, hk]
theorem at_end {s : Int} (l : List Int) (k : Nat) : bits .xor .u32 IntKind.u32.max (at_ s l k) = add s (l.take k) := by
  have hr := at_range s l k
  rw [not_int hr.1 hr.2]
  unfold at_ add
  rw [ofInt_toNat]
theorem xor_range (a b : Int) : 0 ≤ bits .xor .u32 a b ∧ bits .xor .u32 a b < 4294967296 := by
  have e : bits .xor .u32 a b = IntKind.u32.wrap ((BitVec.ofInt 32 a ^^^ BitVec.ofInt 32 b).toNat : Int) := rfl
  rw [e, IntKind.wrap_u32']
  omega
/-- One shift, as Go's integer; so many of them. -/
def bitI (v : Int) : Int := ((bit (BitVec.ofInt 32 v)).toNat : Int)
def bitN (x : Int) : Nat → Int
  | 0 => x
  | j + 1 => bitI (bitN x j)
theorem bitN_succ (x : Int) (j : Nat) : bitI (bitN x j) = bitN x (j + 1) := rfl
theorem bitN_range {x : Int} (h0 : 0 ≤ x) (h1 : x < 4294967296) : ∀ j, 0 ≤ bitN x j ∧ bitN x j < 4294967296
  | 0 => ⟨h0, h1⟩
  | _ + 1 => ⟨by unfold bitN bitI; omega, toNat_lt _⟩
theorem and_one {v : Int} (h0 : 0 ≤ v) (h1 : v < 4294967296) : bits .and .u32 v 1 = v % 2 := by
  rw [u32_and _ _ h0 h1 (by omega) (by omega)]
  obtain ⟨n, rfl⟩ := Int.eq_ofNat_of_zero_le h0
  simp [Nat.and_one_is_mod]
theorem low_mod {v : Int} (h0 : 0 ≤ v) (h1 : v < 4294967296) : (BitVec.ofInt 32 v).getLsbD 0 = decide (v % 2 = 1) := by
  obtain ⟨n, rfl⟩ := Int.eq_ofNat_of_zero_le h0
  rw [BitVec.ofInt_natCast, BitVec.getLsbD, BitVec.toNat_ofNat, Nat.mod_eq_of_lt (by omega), Nat.testBit_zero]
  congr 1
  apply propext
  omega
theorem half {v : Int} (h0 : 0 ≤ v) (h1 : v < 4294967296) : ((BitVec.ofInt 32 v >>> 1).toNat : Int) = v / 2 := by
  obtain ⟨n, rfl⟩ := Int.eq_ofNat_of_zero_le h0
  rw [BitVec.toNat_ushiftRight, BitVec.ofInt_natCast, BitVec.toNat_ofNat, Nat.mod_eq_of_lt (by omega), Nat.shiftRight_eq_div_pow]
  omega
theorem bitI_yes {v : Int} (h0 : 0 ≤ v) (h1 : v < 4294967296) (h : (bits .and .u32 v 1 == 1) = true) : bits .xor .u32 (v / 2) 3988292384 = bitI v := by
  rw [and_one h0 h1, beq_iff_eq] at h
  rw [xor_int (by omega) (by omega) (by omega) (by omega)]
  unfold bitI bit
  rw [low_mod h0 h1, ← half h0 h1, ofInt_toNat]
  simp [h, poly]
theorem bitI_no {v : Int} (h0 : 0 ≤ v) (h1 : v < 4294967296) (h : (bits .and .u32 v 1 == 1) = false) : v / 2 = bitI v := by
  rw [and_one h0 h1, beq_eq_false_iff_ne] at h
  unfold bitI bit
  rw [low_mod h0 h1, ← half h0 h1]
  simp [h]
theorem bitN_vec (x : Int) : ∀ j, BitVec.ofInt 32 (bitN x (j + 1)) = bit (BitVec.ofInt 32 (bitN x j)) := by
  intro j
  show BitVec.ofInt 32 ((bit (BitVec.ofInt 32 (bitN x j))).toNat : Int) = _
  rw [ofInt_toNat]
theorem bitN_eight (x : Int) : bitN x 8 = nibI (nibI x) := by
  show ((bit (BitVec.ofInt 32 (bitN x 7))).toNat : Int) = ((nib (BitVec.ofInt 32 ((nib (BitVec.ofInt 32 x)).toNat : Int))).toNat : Int)
  rw [bitN_vec, bitN_vec, bitN_vec, bitN_vec, bitN_vec, bitN_vec, bitN_vec, ofInt_toNat, nib_bits, nib_bits]
  rfl
theorem wakes : add 0 [49, 50, 51, 52, 53, 54, 55, 56, 57] = 3421780262 := by decide +kernel
end Crc
end Go.Proofs.YtpplhafbmcgahabDoor
