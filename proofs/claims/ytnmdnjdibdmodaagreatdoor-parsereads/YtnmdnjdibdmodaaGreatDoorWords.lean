/- Plain and Word, the program's and the document's. -/
import Derived.Test.YtnmdnjdibdmodaaGreatDoorWakes
import Derived.Laws.IdiomStrings
namespace Go.Proofs.YtnmdnjdibdmodaaGreatDoor
open Go.RowKit
set_option linter.unusedSimpArgs false
set_option linter.unusedVariables false

def plainB (l : List UInt8) : Bool := decide (l.length ≤ 256) && l.all Lx.isPlain
def wordB (l : List UInt8) : Bool := match l with
  | [] => false
  | c :: r => decide ((c :: r).length ≤ 16) && (Lx.isLetter c && (c :: r).all Lx.isPart)
theorem len_list (s : ByteArray) : s.data.toList.length = s.size := by simp
theorem all_of (p : UInt8 → Bool) (l : List UInt8) : decide ((l.takeWhile p).length = l.length) = l.all p := by
  rw [Bool.eq_iff_iff]; simp only [decide_eq_true_eq]; exact Lx.tw_all

theorem all_take_step {p : UInt8 → Bool} {l : List UInt8} {k : Nat} (h : (l.take k).all p = true) (hk : k < l.length) (hp : p l[k] = true) : (l.take (k + 1)).all p = true := by
  rw [List.take_succ_eq_append_getElem hk, List.all_append, h]; simp [hp]
theorem all_take_no {p : UInt8 → Bool} {l : List UInt8} {k : Nat} (hk : k < l.length) (hp : p l[k] = false) : l.all p = false := by
  rw [List.all_eq_false]; exact ⟨l[k], List.getElem_mem hk, by simp [hp]⟩
theorem not_plain {c : UInt8} : Lx.isPlain c = false ↔ ((c.toNat : Int) < 32 ∨ 126 < (c.toNat : Int)) := by
  rw [← Bool.not_eq_true, Lx.isPlain]; simp [UInt8.le_iff_toNat_le]; omega

theorem list_cons (s : ByteArray) (h : 0 < s.size) : s.data.toList = s[0] :: s.data.toList.tail := by
  have e := drop_at s 0 h
  simpa using e
theorem empty_of {s : ByteArray} (h : s.size = 0) : s = ⟨#[]⟩ := bytes_same (by
  have := len_list s
  rw [h] at this
  rw [List.eq_nil_of_length_eq_zero this])
theorem str_ne {s : ByteArray} (h : 0 < s.size) : (s.toList == []) = false := by
  rw [ByteArray.toList_eq, list_cons s h]; rfl

theorem letter_digit (c : UInt8) (h : Lx.isPart c = true) : (! Lx.isDigit c) = Lx.isLetter c := by
  simp only [Lx.isPart, Lx.isLetter, Lx.isDigit] at *
  rw [Bool.eq_iff_iff]
  simp [UInt8.le_iff_toNat_le, ← UInt8.toNat_inj] at *
  omega

end Go.Proofs.YtnmdnjdibdmodaaGreatDoor
