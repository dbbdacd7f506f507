/- Plain and Word, the program's and the document's. -/
import Derived.Test.YtjolbladokgpbaaDoorWakes
import Derived.Laws.IdiomStrings
namespace Go.Proofs.YtjolbladokgpbaaDoor
open Go.RowKit
set_option linter.unusedSimpArgs false
set_option linter.unusedVariables false

def plainB (l : List UInt8) : Bool := decide (l.length ≤ 256) && l.all Lx.isPlain
def wordB (l : List UInt8) : Bool := match l with
  | [] => false
  | c :: r => decide ((c :: r).length ≤ 16) && (Lx.isLetter c && (c :: r).all Lx.isPart)
theorem len_list (s : ByteArray) : s.data.toList.length = s.size := by simp
theorem all_of (p : UInt8 → Bool) (l : List UInt8) : decide ((l.takeWhile p).length = l.length) = l.all p := by
  rw [Bool.eq_iff_iff]; simp only [decide_eq_true_eq]; exact Lx.tw_all

set_option maxHeartbeats 1000000 in
theorem plain_any (s : ByteArray) (w : World) (hs : s.size ≤ maxLen) : Calls Tryd.prog 15 #[.string s] w fun e w' => e = .returned (.bool (plainB s.data.toList)) ∧ w' = w := by
  have hc := count_any s 28 Lx.isPlain w hs kPlain ePlain
  have hl := len_list s
  have hle := Lx.tw_le (p := Lx.isPlain) s.data.toList
  have ha := all_of Lx.isPlain s.data.toList
  unfold plainB
  rw [hl, ← ha, hl]
  clear ha
  generalize (s.data.toList.takeWhile Lx.isPlain).length = k at *
  unfold maxLen at hs
  by_cases h : s.size ≤ 256
  · go_enter Tryd.func15, Tryd.ntmps15
    go_wp2_with (go_at_call 27; refine hc.mono ?_; rintro e w' ⟨rfl, rfl⟩)
    go_ret
    exact ⟨ret_bool (by rw [Bool.eq_iff_iff]; simp; omega), rfl⟩
  · go_enter Tryd.func15, Tryd.ntmps15
    go_wp2
    go_ret
    exact ⟨ret_bool (by simp [h]), rfl⟩

theorem all_take_step {p : UInt8 → Bool} {l : List UInt8} {k : Nat} (h : (l.take k).all p = true) (hk : k < l.length) (hp : p l[k] = true) : (l.take (k + 1)).all p = true := by
  rw [List.take_succ_eq_append_getElem hk, List.all_append, h]; simp [hp]
theorem all_take_no {p : UInt8 → Bool} {l : List UInt8} {k : Nat} (hk : k < l.length) (hp : p l[k] = false) : l.all p = false := by
  rw [List.all_eq_false]; exact ⟨l[k], List.getElem_mem hk, by simp [hp]⟩
theorem not_plain {c : UInt8} : Lx.isPlain c = false ↔ ((c.toNat : Int) < 32 ∨ 126 < (c.toNat : Int)) := by
  rw [← Bool.not_eq_true, Lx.isPlain]; simp [UInt8.le_iff_toNat_le]; omega

set_option maxHeartbeats 1000000 in
theorem rplain_any (s : ByteArray) (w : World) (hs : s.size ≤ maxLen) : Calls Tryd.prog 16 #[.string s] w fun e w' => e = .returned (.bool (plainB s.data.toList)) ∧ w' = w := by
  have hl := len_list s
  unfold maxLen at hs
  go_enter Tryd.func16, Tryd.ntmps16
  go_wp2
  go_loop [3] (fun i => ∃ k : Nat, k ≤ s.size ∧ i = .int .i64 k ∧ Aside ((s.data.toList.take k).all Lx.isPlain = true)) (fun i => s.size - (intOf i).toNat)
  case atStart => exact ⟨0, Nat.zero_le _, rfl, by show _ = _; simp⟩
  case round =>
    obtain ⟨k, hk, rfl, ha⟩ := hrel
    by_cases hlt : k < s.size
    · rcases hp : Lx.isPlain s[k] with _ | _
      · have hq := not_plain.1 hp
        have hres : Aside (plainB s.data.toList = false) := by
          show _ = _
          unfold plainB
          rw [all_take_no (k := k) (by omega) (show Lx.isPlain (s.data.toList[k]'(by omega)) = false from hp)]; simp
        clear hp hl
        by_cases h1 : (s[k].toNat : Int) < 32
        · clear hq
          go_wp2
          go_ret
          exact ⟨ret_bool hres.out.symm, rfl⟩
        · have h2 : 126 < (s[k].toNat : Int) := by omega
          clear hq
          go_wp2
          go_ret
          exact ⟨ret_bool hres.out.symm, rfl⟩
      · have hq := fun a => (Bool.eq_false_iff.1 (not_plain.2 a)) hp
        have h1 : ¬ (s[k].toNat : Int) < 32 := fun a => hq (Or.inl a)
        have h2 : ¬ 126 < (s[k].toNat : Int) := fun a => hq (Or.inr a)
        clear hq
        have hnx : Aside ((s.data.toList.take (k + 1)).all Lx.isPlain = true) := all_take_step ha.out (by omega) (show Lx.isPlain (s.data.toList[k]'(by omega)) = true from hp)
        clear hp hl
        go_wp2
        go_round
        case rel => exact ⟨k + 1, by omega, by go_num, hnx⟩
        case measure => simp [intOf]; omega
    · have hres : Aside (plainB s.data.toList = decide ((s.size : Int) ≤ 256)) := by
        show _ = _
        have h1 := ha.out
        rw [List.take_of_length_le (by omega)] at h1
        unfold plainB
        rw [h1, hl, Bool.and_true]
        rw [Bool.eq_iff_iff]; simp; omega
      clear hl
      go_wp2
      all_goals
        go_ret
        exact ⟨ret_bool (by first | exact hres.out.symm | (rw [hres.out, Bool.eq_iff_iff]; simp; omega)), rfl⟩

theorem list_cons (s : ByteArray) (h : 0 < s.size) : s.data.toList = s[0] :: s.data.toList.tail := by
  have e := drop_at s 0 h
  simpa using e
theorem empty_of {s : ByteArray} (h : s.size = 0) : s = ⟨#[]⟩ := bytes_same (by
  have := len_list s
  rw [h] at this
  rw [List.eq_nil_of_length_eq_zero this])
theorem str_ne {s : ByteArray} (h : 0 < s.size) : (s.toList == []) = false := by
  rw [ByteArray.toList_eq, list_cons s h]; rfl

set_option maxHeartbeats 1000000 in
theorem word_any (s : ByteArray) (w : World) (hs : s.size ≤ maxLen) : Calls Tryd.prog 17 #[.string s] w fun e w' => e = .returned (.bool (wordB s.data.toList)) ∧ w' = w := by
  have hc := count_any s 30 Lx.isPart w hs kPart ePart
  have hl := len_list s
  have hle := Lx.tw_le (p := Lx.isPart) s.data.toList
  have ha := all_of Lx.isPart s.data.toList
  unfold maxLen at hs
  by_cases h0 : 0 < s.size
  · have hne := str_ne h0
    have hw : Aside (wordB s.data.toList = (decide (s.size ≤ 16) && (Lx.isLetter s[0] && decide ((s.data.toList.takeWhile Lx.isPart).length = s.size)))) := by
      show _ = _
      rw [← hl, ha]
      conv => lhs; rw [list_cons s h0]
      conv => rhs; rw [list_cons s h0]
      rfl
    clear ha
    generalize (s.data.toList.takeWhile Lx.isPart).length = k at *
    by_cases h : s.size ≤ 16
    · rcases hlt : Lx.isLetter s[0] with _ | _
      · go_enter Tryd.func17, Tryd.ntmps17
        go_wp2_with (first
          | (go_at_call 29; refine (isLetter_any _ _).mono ?_; rw [hlt]; rintro e w' ⟨rfl, rfl⟩)
          | (go_at_call 27; refine hc.mono ?_; rintro e w' ⟨rfl, rfl⟩))
        go_ret
        exact ⟨ret_bool (by rw [hw.out, hlt]; simp), rfl⟩
      · go_enter Tryd.func17, Tryd.ntmps17
        go_wp2_with (first
          | (go_at_call 29; refine (isLetter_any _ _).mono ?_; rw [hlt]; rintro e w' ⟨rfl, rfl⟩)
          | (go_at_call 27; refine hc.mono ?_; rintro e w' ⟨rfl, rfl⟩))
        go_ret
        exact ⟨ret_bool (by rw [hw.out, hlt, Bool.eq_iff_iff]; simp; omega), rfl⟩
    · go_enter Tryd.func17, Tryd.ntmps17
      go_wp2
      go_ret
      exact ⟨ret_bool (by rw [hw.out]; simp [h]), rfl⟩
  · have e := empty_of (s := s) (by omega)
    subst e
    go_enter Tryd.func17, Tryd.ntmps17
    go_wp2
    go_ret
    exact ⟨rfl, rfl⟩

theorem letter_digit (c : UInt8) (h : Lx.isPart c = true) : (! Lx.isDigit c) = Lx.isLetter c := by
  simp only [Lx.isPart, Lx.isLetter, Lx.isDigit] at *
  rw [Bool.eq_iff_iff]
  simp [UInt8.le_iff_toNat_le, ← UInt8.toNat_inj] at *
  omega

set_option maxHeartbeats 2000000 in
theorem rword_any (s : ByteArray) (w : World) (hs : s.size ≤ maxLen) : Calls Tryd.prog 18 #[.string s] w fun e w' => e = .returned (.bool (wordB s.data.toList)) ∧ w' = w := by
  have hl := len_list s
  unfold maxLen at hs
  have hnot : ∀ (x : Bool) (w : World), (Op.unary .not (.bool x)).run Tryd.prog w = .ok (.bool (!x)) w := fun _ _ => rfl
  go_enter Tryd.func18, Tryd.ntmps18
  go_wp2
  go_loop [3] (fun i => ∃ k : Nat, k ≤ s.size ∧ i = .int .i64 k ∧ Aside ((s.data.toList.take k).all Lx.isPart = true)) (fun i => s.size - (intOf i).toNat)
  case atStart => exact ⟨0, Nat.zero_le _, rfl, by show _ = _; simp⟩
  case round =>
    obtain ⟨k, hk, rfl, ha⟩ := hrel
    by_cases hlt : k < s.size
    · have hno : Aside (Lx.isPart s[k] = false → wordB s.data.toList = false) := by
        intro hp
        have h1 := all_take_no (l := s.data.toList) (k := k) (by omega) (show Lx.isPart (s.data.toList[k]'(by omega)) = false from hp)
        have h0 : 0 < s.size := by omega
        rw [list_cons s h0] at h1 ⊢
        simp only [wordB]
        rw [h1]; simp
      have hnx : Aside (Lx.isPart s[k] = true → (s.data.toList.take (k + 1)).all Lx.isPart = true) := fun hp => all_take_step ha.out (by omega) (show Lx.isPart (s.data.toList[k]'(by omega)) = true from hp)
      clear hl
      rcases hp1 : Lx.isLetter s[k] with _ | _
      · rcases hp2 : Lx.isDigit s[k] with _ | _
        · have hres : Aside (wordB s.data.toList = false) := hno.out (by simp [Lx.isPart, hp1, hp2])
          clear hno hnx
          go_wp2_with (first
            | (go_at_call 31; refine (rletter_any _ _).mono ?_; rw [hp1]; rintro e w' ⟨rfl, rfl⟩)
            | (go_at_call 32; refine (rdigit_any _ _).mono ?_; rw [hp2]; rintro e w' ⟨rfl, rfl⟩))
          go_ret
          exact ⟨ret_bool hres.out.symm, rfl⟩
        · have hnx' : Aside _ := (show Aside _ from hnx.out (by simp [Lx.isPart, hp1, hp2]))
          clear hno hnx
          go_wp2_with (first
            | (go_at_call 31; refine (rletter_any _ _).mono ?_; rw [hp1]; rintro e w' ⟨rfl, rfl⟩)
            | (go_at_call 32; refine (rdigit_any _ _).mono ?_; rw [hp2]; rintro e w' ⟨rfl, rfl⟩))
          go_round
          case rel => exact ⟨k + 1, by omega, by go_num, hnx'⟩
          case measure => simp [intOf]; omega
      · have hnx' : Aside _ := (show Aside _ from hnx.out (by simp [Lx.isPart, hp1]))
        clear hno hnx
        go_wp2_with (first
          | (go_at_call 31; refine (rletter_any _ _).mono ?_; rw [hp1]; rintro e w' ⟨rfl, rfl⟩))
        go_round
        case rel => exact ⟨k + 1, by omega, by go_num, hnx'⟩
        case measure => simp [intOf]; omega
    · have h1 := ha.out
      rw [List.take_of_length_le (by omega)] at h1
      by_cases h0 : 0 < s.size
      · have hd : (! Lx.isDigit s[0]) = Lx.isLetter s[0] := by
          apply letter_digit
          rw [list_cons s h0] at h1
          simp at h1
          exact h1.1
        have hres : Aside (wordB s.data.toList = (decide (s.size ≤ 16) && Lx.isLetter s[0])) := by
          show _ = _
          rw [← hl]
          rw [list_cons s h0] at h1 ⊢
          simp only [wordB]
          rw [h1, Bool.and_true]
        clear h1 hl ha
        have hd' : Aside _ := (show Aside _ from hd)
        clear hd
        by_cases h16 : s.size ≤ 16
        · rcases hx : Lx.isDigit s[0] with _ | _
          all_goals
            go_wp2_with (go_at_call 32; refine (rdigit_any _ _).mono ?_; rw [hx]; rintro e w' ⟨rfl, rfl⟩)
            go_ret
            exact ⟨ret_bool (by rw [hres.out, ← hd'.out, hx]; simp [h16]), rfl⟩
        · go_wp2
          go_ret
          exact ⟨ret_bool (by rw [hres.out]; simp [h16]), rfl⟩
      · have e := empty_of (s := s) (by omega)
        have hk0 : k = 0 := by omega
        clear h1 hl ha hk hlt h0 hs
        subst hk0
        subst e
        go_wp2
        go_ret
        exact ⟨rfl, rfl⟩
end Go.Proofs.YtjolbladokgpbaaDoor
