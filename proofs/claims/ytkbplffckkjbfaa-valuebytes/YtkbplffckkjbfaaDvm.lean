/- Values read. Plain mathematics. -/
import Derived.Test.YtkbplffckkjbfaaDa
namespace Go.Proofs.Ytkbplffckkjbfaa
set_option linter.unusedVariables false
set_option linter.unusedSimpArgs false

abbrev RSt := Option (List UInt8)
def rdLs (f : RSt → V × RSt) : Nat → RSt → List V × RSt
  | 0, st => ([], st)
  | n + 1, st => ((f st).1 :: (rdLs f n (f st).2).1, (rdLs f n (f st).2).2)
def rdMs (f g : RSt → V × RSt) : Nat → RSt → List V × RSt
  | 0, st => ([], st)
  | n + 1, st => ((f st).1 :: (g (f st).2).1 :: (rdMs f g n (g (f st).2).2).1, (rdMs f g n (g (f st).2).2).2)
def rdInt (st : RSt) : V × RSt := (.mk 1 (rdI st).1 [] [], (rdI st).2)
def rdText (st : RSt) : V × RSt := (.mk 3 0 (rdB (rdU 256 st).1 (rdU 256 st).2).1 [], (rdB (rdU 256 st).1 (rdU 256 st).2).2)
def rdK (kb : Bool) : RSt → V × RSt := if kb then rdInt else rdText
def rdV : Ty → RSt → V × RSt
  | .int => rdInt
  | .bool => fun st => (.mk 2 (rdU 1 st).1 [] [], (rdU 1 st).2)
  | .text => rdText
  | .list E => fun st => (.mk 4 0 [] (rdLs (rdV E) (rdU 64 st).1 (rdU 64 st).2).1, (rdLs (rdV E) (rdU 64 st).1 (rdU 64 st).2).2)
  | .map kb E => fun st => (.mk 5 0 [] (rdMs (rdK kb) (rdV E) (rdU 64 st).1 (rdU 64 st).2).1, (rdMs (rdK kb) (rdV E) (rdU 64 st).1 (rdU 64 st).2).2)
theorem rdV_key (kb : Bool) : rdV (keyTy kb) = rdK kb := by cases kb <;> rfl
def lft (st : RSt) : Nat := (st.getD []).length
theorem rdN_lft (st : RSt) : lft (rdN st).2 ≤ lft st := by
  rcases st with _ | bs
  · simp [rdN, lft]
  · simp only [rdN, lft]
    split <;> simp
theorem rdU_lft (n : Nat) (st : RSt) : lft (rdU n st).2 ≤ lft st := by
  unfold rdU
  split
  · simp [lft]
  · exact rdN_lft st
theorem rdU_le (n : Nat) (st : RSt) : (rdU n st).1 ≤ n := by
  unfold rdU
  split
  · simp
  · rename_i h; omega
theorem rdI_lft (st : RSt) : lft (rdI st).2 ≤ lft st := Nat.le_trans (rdN_lft _) (rdU_lft _ _)
theorem rdB_lft (n : Int) (st : RSt) : lft (rdB n st).2 ≤ lft st := by
  rcases st with _ | bs
  · simp [rdB, lft]
  · simp only [rdB, lft]
    split <;> simp
theorem rdB_len (n : Nat) (st : RSt) : (rdB n st).1.length ≤ n := by
  rcases st with _ | bs
  · simp [rdB]
  · simp only [rdB]
    split
    · simp
    · simp; omega
theorem rdLs_lft {f : RSt → V × RSt} (hf : ∀ st, lft (f st).2 ≤ lft st) : ∀ (n : Nat) (st : RSt), lft (rdLs f n st).2 ≤ lft st
  | 0, st => Nat.le_refl _
  | n + 1, st => Nat.le_trans (rdLs_lft hf n _) (hf st)
theorem rdMs_lft {f g : RSt → V × RSt} (hf : ∀ st, lft (f st).2 ≤ lft st) (hg : ∀ st, lft (g st).2 ≤ lft st) : ∀ (n : Nat) (st : RSt), lft (rdMs f g n st).2 ≤ lft st
  | 0, st => Nat.le_refl _
  | n + 1, st => Nat.le_trans (rdMs_lft hf hg n _) (Nat.le_trans (hg _) (hf st))
theorem rdInt_lft (st : RSt) : lft (rdInt st).2 ≤ lft st := rdI_lft st
theorem rdText_lft (st : RSt) : lft (rdText st).2 ≤ lft st := Nat.le_trans (rdB_lft _ _) (rdU_lft _ _)
theorem rdK_lft (kb : Bool) (st : RSt) : lft (rdK kb st).2 ≤ lft st := by
  cases kb
  · exact rdText_lft st
  · exact rdInt_lft st
theorem rdV_lft : ∀ (T : Ty) (st : RSt), lft (rdV T st).2 ≤ lft st
  | .int, st => rdI_lft st
  | .bool, st => rdU_lft _ _
  | .text, st => rdText_lft st
  | .list E, st => Nat.le_trans (rdLs_lft (rdV_lft E) _ _) (rdU_lft _ _)
  | .map kb E, st => Nat.le_trans (rdMs_lft (rdK_lft kb) (rdV_lft E) _ _) (rdU_lft _ _)
theorem rdLs_len (f : RSt → V × RSt) : ∀ (n : Nat) (st : RSt), (rdLs f n st).1.length = n
  | 0, st => rfl
  | n + 1, st => by simp [rdLs, rdLs_len f n]
theorem rdMs_len (f g : RSt → V × RSt) : ∀ (n : Nat) (st : RSt), (rdMs f g n st).1.length = 2 * n
  | 0, st => rfl
  | n + 1, st => by simp [rdMs, rdMs_len f g n]; omega
theorem rdLs_wts {f : RSt → V × RSt} {b : Nat} (hf : ∀ st, wt (f st).1 ≤ b) : ∀ (n : Nat) (st : RSt), wts (rdLs f n st).1 ≤ n * b
  | 0, st => by simp [rdLs, wts]
  | n + 1, st => by
    have := rdLs_wts hf n (f st).2
    have := hf st
    simp only [rdLs, wts]
    rw [Nat.add_mul]; omega
theorem rdMs_wts {f g : RSt → V × RSt} {b c : Nat} (hf : ∀ st, wt (f st).1 ≤ b) (hg : ∀ st, wt (g st).1 ≤ c) : ∀ (n : Nat) (st : RSt), wts (rdMs f g n st).1 ≤ n * (b + c)
  | 0, st => by simp [rdMs, wts]
  | n + 1, st => by
    have := rdMs_wts hf hg n (g (f st).2).2
    have := hf st
    have := hg (f st).2
    simp only [rdMs, wts]
    rw [Nat.add_mul]; omega
theorem rdText_wt (st : RSt) : wt (rdText st).1 ≤ 257 := by
  have h1 := rdU_le 256 st
  have h2 := rdB_len (rdU 256 st).1 (rdU 256 st).2
  show wt (.mk _ _ _ _) ≤ 257
  rw [wt_mk]
  simp only [wts]
  omega
theorem rdK_wt (kb : Bool) (st : RSt) : wt (rdK kb st).1 ≤ 257 := by
  cases kb
  · exact rdText_wt st
  · show wt (.mk _ _ _ _) ≤ 257
    rw [wt_mk]; simp [wts]
theorem rdV_wt : ∀ (T : Ty) (st : RSt), wt (rdV T st).1 ≤ 300 ^ T.dp
  | .int, st => by show wt (.mk _ _ _ _) ≤ _; rw [wt_mk]; simp [wts, Ty.dp]
  | .bool, st => by show wt (.mk _ _ _ _) ≤ _; rw [wt_mk]; simp [wts, Ty.dp]
  | .text, st => Nat.le_trans (rdText_wt st) (by simp [Ty.dp])
  | .list E, st => by
    have h1 := rdLs_wts (rdV_wt E) (rdU 64 st).1 (rdU 64 st).2
    have h2 := Nat.mul_le_mul_right (300 ^ E.dp) (rdU_le 64 st)
    have h3 : 1 ≤ 300 ^ E.dp := Nat.pos_of_ne_zero (by simp)
    show wt (.mk _ _ _ _) ≤ _
    rw [wt_mk, Ty.dp, Nat.pow_succ]
    simp only [List.length_nil]
    omega
  | .map kb E, st => by
    have h1 := rdMs_wts (rdK_wt kb) (rdV_wt E) (rdU 64 st).1 (rdU 64 st).2
    have h2 := Nat.mul_le_mul_right (257 + 300 ^ E.dp) (rdU_le 64 st)
    have h3 : 300 ^ 1 ≤ 300 ^ E.dp := Nat.pow_le_pow_right (by omega) (Ty.dp_pos E)
    show wt (.mk _ _ _ _) ≤ _
    rw [wt_mk, Ty.dp, Nat.pow_succ]
    simp only [List.length_nil]
    omega
end Go.Proofs.Ytkbplffckkjbfaa
