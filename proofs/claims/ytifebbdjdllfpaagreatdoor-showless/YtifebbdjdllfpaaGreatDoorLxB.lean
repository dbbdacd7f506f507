import Derived.Test.YtifebbdjdllfpaaGreatDoorLexFn
import Derived.Laws.IdiomStrings
import Derived.Test.YtifebbdjdllfpaaGreatDoorPx
import Derived.Test.YtifebbdjdllfpaaGreatDoorPxSim
/- Lex of every text; what the statements ask first. -/
namespace Go.Proofs.YtifebbdjdllfpaaGreatDoor
open Go.RowKit
set_option linter.unusedSimpArgs false
set_option linter.unusedVariables false

theorem lex_any (s : ByteArray) (w : World) (henv : Env w) (hm : s.size ≤ maxLen) :
    Calls Tryz.prog 17 #[.string s] w fun e w' => LexPost (Lx.lex dotC s.data.toList) w e w' := by
  have hl : s.data.toList.length = s.size := by simp
  unfold Lx.lex
  rw [hl]
  by_cases hs : 16384 < s.size
  · rw [if_pos hs]
    exact lex_long s w hs hm
  · rw [if_neg hs]
    exact lex_short s w henv (by omega)

theorem owns_cells {w : World} {base : Nat} {e : TypeId} {sz : Nat} {v : Value} {n : Nat} {xs : List Value} (h : w.ownsRow base e sz v n xs) (hn : 0 < n) :
    ∃ g cap, v = .slice (some ⟨g, 0, none⟩) n cap ∧ base ≤ g ∧ g < w.heap.size ∧ (∀ k u, xs[k]? = some u → w.cell? ⟨g, k, none⟩ = some u) := by
  obtain ⟨h1, h2⟩ := h
  rcases h2 with ⟨_, h0⟩ | ⟨g, cap, cur, hv, hg, hh, _, _, _, ht⟩
  · omega
  · refine ⟨g, cap, hv, hg, (Array.getElem?_eq_some_iff.1 hh).1, fun k u hk => ?_⟩
    rw [Lib.cell_of_heap hh]
    rw [← ht, List.getElem?_take] at hk
    split at hk
    · simpa using hk
    · simp at hk

end Go.Proofs.YtifebbdjdllfpaaGreatDoor
/- Plain and Word, the program's and the document's. -/
namespace Go.Proofs.YtifebbdjdllfpaaGreatDoor
open Go.RowKit
set_option linter.unusedSimpArgs false
set_option linter.unusedVariables false

def plainB (l : List UInt8) : Bool := decide (l.length ≤ 256) && l.all Lx.isPlain
def wordB (l : List UInt8) : Bool := match l with
  | [] => false
  | c :: r => decide ((c :: r).length ≤ 16) && (Lx.isLetter c && (c :: r).all Lx.isPart)
theorem len_list (s : ByteArray) : s.data.toList.length = s.size := by simp
theorem all_of (p : UInt8 → Bool) (l : List UInt8) : decide ((l.takeWhile p).length = l.length) = l.all p := by
  rw [Bool.eq_iff_iff]; simp only [decide_eq_true_eq]; exact Lx.tw_all

set_option maxHeartbeats 1000000 in
theorem plain_any (s : ByteArray) (w : World) (hs : s.size ≤ maxLen) : Calls Tryz.prog 157 #[.string s] w fun e w' => e = .returned (.bool (plainB s.data.toList)) ∧ w' = w := by
  have hc := count_any s 101 Lx.isPlain w hs kPlain ePlain
  have hl := len_list s
  have hle := Lx.tw_le (p := Lx.isPlain) s.data.toList
  have ha := all_of Lx.isPlain s.data.toList
  unfold plainB
  rw [hl, ← ha, hl]
  clear ha
  generalize (s.data.toList.takeWhile Lx.isPlain).length = k at *
  unfold maxLen at hs
  by_cases h : s.size ≤ 256
  · go_enter Tryz.func157, Tryz.ntmps157
    go_wp2_with (go_at_call 95; refine hc.mono ?_; rintro e w' ⟨rfl, rfl⟩)
    go_ret
    exact ⟨ret_bool (by rw [Bool.eq_iff_iff]; simp; omega), rfl⟩
  · go_enter Tryz.func157, Tryz.ntmps157
    go_wp2
    go_ret
    exact ⟨ret_bool (by simp [h]), rfl⟩

theorem all_take_step {p : UInt8 → Bool} {l : List UInt8} {k : Nat} (h : (l.take k).all p = true) (hk : k < l.length) (hp : p l[k] = true) : (l.take (k + 1)).all p = true := by
  rw [List.take_succ_eq_append_getElem hk, List.all_append, h]; simp [hp]
theorem all_take_no {p : UInt8 → Bool} {l : List UInt8} {k : Nat} (hk : k < l.length) (hp : p l[k] = false) : l.all p = false := by
  rw [List.all_eq_false]; exact ⟨l[k], List.getElem_mem hk, by simp [hp]⟩
theorem not_plain {c : UInt8} : Lx.isPlain c = false ↔ ((c.toNat : Int) < 32 ∨ 126 < (c.toNat : Int)) := by
  rw [← Bool.not_eq_true, Lx.isPlain]; simp [UInt8.le_iff_toNat_le]; omega

set_option maxHeartbeats 1000000 in
theorem rplain_any (s : ByteArray) (w : World) (hs : s.size ≤ maxLen) : Calls Tryz.prog 113 #[.string s] w fun e w' => e = .returned (.bool (plainB s.data.toList)) ∧ w' = w := by
  have hl := len_list s
  unfold maxLen at hs
  go_enter Tryz.func113, Tryz.ntmps113
  go_wp2
  go_loop [3] (fun i => ∃ k : Nat, k ≤ s.size ∧ i = .int .i64 k ∧ Aside ((s.data.toList.take k).all Lx.isPlain = true)) (fun i => s.size - (intOf i).toNat)
  case atStart => exact ⟨0, Nat.zero_le _, rfl, by show _ = _; simp⟩
  case round =>
    obtain ⟨k, hk, rfl, ha⟩ := hrel
    by_cases hlt : k < s.size
    · rcases hp : Lx.isPlain s[k] with _ | _
      · have hq := not_plain.1 hp
        have hres : Aside (plainB s.data.toList = false) := by
          show _ = _
          unfold plainB
          rw [all_take_no (k := k) (by omega) (show Lx.isPlain (s.data.toList[k]'(by omega)) = false from hp)]; simp
        clear hp hl
        by_cases h1 : (s[k].toNat : Int) < 32
        · clear hq
          go_wp2
          go_ret
          exact ⟨ret_bool hres.out.symm, rfl⟩
        · have h2 : 126 < (s[k].toNat : Int) := by omega
          clear hq
          go_wp2
          go_ret
          exact ⟨ret_bool hres.out.symm, rfl⟩
      · have hq := fun a => (Bool.eq_false_iff.1 (not_plain.2 a)) hp
        have h1 : ¬ (s[k].toNat : Int) < 32 := fun a => hq (Or.inl a)
        have h2 : ¬ 126 < (s[k].toNat : Int) := fun a => hq (Or.inr a)
        clear hq
        have hnx : Aside ((s.data.toList.take (k + 1)).all Lx.isPlain = true) := all_take_step ha.out (by omega) (show Lx.isPlain (s.data.toList[k]'(by omega)) = true from hp)
        clear hp hl
        go_wp2
        go_round
        case rel => exact ⟨k + 1, by omega, by go_num, hnx⟩
        case measure => simp [intOf]; omega
    · have hres : Aside (plainB s.data.toList = decide ((s.size : Int) ≤ 256)) := by
        show _ = _
        have h1 := ha.out
        rw [List.take_of_length_le (by omega)] at h1
        unfold plainB
        rw [h1, hl, Bool.and_true]
        rw [Bool.eq_iff_iff]; simp; omega
      clear hl
      go_wp2
      all_goals
        go_ret
        exact ⟨ret_bool (by first | exact hres.out.symm | (rw [hres.out, Bool.eq_iff_iff]; simp; omega)), rfl⟩

theorem list_cons (s : ByteArray) (h : 0 < s.size) : s.data.toList = s[0] :: s.data.toList.tail := by
  have e := drop_at s 0 h
  simpa using e
theorem empty_of {s : ByteArray} (h : s.size = 0) : s = ⟨#[]⟩ := bytes_same (by
  have := len_list s
  rw [h] at this
  rw [List.eq_nil_of_length_eq_zero this])
theorem str_ne {s : ByteArray} (h : 0 < s.size) : (s.toList == []) = false := by
  rw [ByteArray.toList_eq, list_cons s h]; rfl

set_option maxHeartbeats 1000000 in
theorem word_any (s : ByteArray) (w : World) (hs : s.size ≤ maxLen) : Calls Tryz.prog 86 #[.string s] w fun e w' => e = .returned (.bool (wordB s.data.toList)) ∧ w' = w := by
  have hc := count_any s 96 Lx.isPart w hs kPart ePart
  have hl := len_list s
  have hle := Lx.tw_le (p := Lx.isPart) s.data.toList
  have ha := all_of Lx.isPart s.data.toList
  unfold maxLen at hs
  by_cases h0 : 0 < s.size
  · have hne := str_ne h0
    have hw : Aside (wordB s.data.toList = (decide (s.size ≤ 16) && (Lx.isLetter s[0] && decide ((s.data.toList.takeWhile Lx.isPart).length = s.size)))) := by
      show _ = _
      rw [← hl, ha]
      conv => lhs; rw [list_cons s h0]
      conv => rhs; rw [list_cons s h0]
      rfl
    clear ha
    generalize (s.data.toList.takeWhile Lx.isPart).length = k at *
    by_cases h : s.size ≤ 16
    · rcases hlt : Lx.isLetter s[0] with _ | _
      · go_enter Tryz.func86, Tryz.ntmps86
        go_wp2_with (first
          | (go_at_call 72; refine (isLetter_any _ _).mono ?_; rw [hlt]; rintro e w' ⟨rfl, rfl⟩)
          | (go_at_call 95; refine hc.mono ?_; rintro e w' ⟨rfl, rfl⟩))
        go_ret
        exact ⟨ret_bool (by rw [hw.out, hlt]; simp), rfl⟩
      · go_enter Tryz.func86, Tryz.ntmps86
        go_wp2_with (first
          | (go_at_call 72; refine (isLetter_any _ _).mono ?_; rw [hlt]; rintro e w' ⟨rfl, rfl⟩)
          | (go_at_call 95; refine hc.mono ?_; rintro e w' ⟨rfl, rfl⟩))
        go_ret
        exact ⟨ret_bool (by rw [hw.out, hlt, Bool.eq_iff_iff]; simp; omega), rfl⟩
    · go_enter Tryz.func86, Tryz.ntmps86
      go_wp2
      go_ret
      exact ⟨ret_bool (by rw [hw.out]; simp [h]), rfl⟩
  · have e := empty_of (s := s) (by omega)
    subst e
    go_enter Tryz.func86, Tryz.ntmps86
    go_wp2
    go_ret
    exact ⟨rfl, rfl⟩

theorem letter_digit (c : UInt8) (h : Lx.isPart c = true) : (! Lx.isDigit c) = Lx.isLetter c := by
  simp only [Lx.isPart, Lx.isLetter, Lx.isDigit] at *
  rw [Bool.eq_iff_iff]
  simp [UInt8.le_iff_toNat_le, ← UInt8.toNat_inj] at *
  omega

set_option maxHeartbeats 2000000 in
theorem rword_any (s : ByteArray) (w : World) (hs : s.size ≤ maxLen) : Calls Tryz.prog 64 #[.string s] w fun e w' => e = .returned (.bool (wordB s.data.toList)) ∧ w' = w := by
  have hl := len_list s
  unfold maxLen at hs
  have hnot : ∀ (x : Bool) (w : World), (Op.unary .not (.bool x)).run Tryz.prog w = .ok (.bool (!x)) w := fun _ _ => rfl
  go_enter Tryz.func64, Tryz.ntmps64
  go_wp2
  go_loop [3] (fun i => ∃ k : Nat, k ≤ s.size ∧ i = .int .i64 k ∧ Aside ((s.data.toList.take k).all Lx.isPart = true)) (fun i => s.size - (intOf i).toNat)
  case atStart => exact ⟨0, Nat.zero_le _, rfl, by show _ = _; simp⟩
  case round =>
    obtain ⟨k, hk, rfl, ha⟩ := hrel
    by_cases hlt : k < s.size
    · have hno : Aside (Lx.isPart s[k] = false → wordB s.data.toList = false) := by
        intro hp
        have h1 := all_take_no (l := s.data.toList) (k := k) (by omega) (show Lx.isPart (s.data.toList[k]'(by omega)) = false from hp)
        have h0 : 0 < s.size := by omega
        rw [list_cons s h0] at h1 ⊢
        simp only [wordB]
        rw [h1]; simp
      have hnx : Aside (Lx.isPart s[k] = true → (s.data.toList.take (k + 1)).all Lx.isPart = true) := fun hp => all_take_step ha.out (by omega) (show Lx.isPart (s.data.toList[k]'(by omega)) = true from hp)
      clear hl
      rcases hp1 : Lx.isLetter s[k] with _ | _
      · rcases hp2 : Lx.isDigit s[k] with _ | _
        · have hres : Aside (wordB s.data.toList = false) := hno.out (by simp [Lx.isPart, hp1, hp2])
          clear hno hnx
          go_wp2_with (first
            | (go_at_call 90; refine (rletter_any _ _).mono ?_; rw [hp1]; rintro e w' ⟨rfl, rfl⟩)
            | (go_at_call 91; refine (rdigit_any _ _).mono ?_; rw [hp2]; rintro e w' ⟨rfl, rfl⟩))
          go_ret
          exact ⟨ret_bool hres.out.symm, rfl⟩
        · have hnx' : Aside _ := (show Aside _ from hnx.out (by simp [Lx.isPart, hp1, hp2]))
          clear hno hnx
          go_wp2_with (first
            | (go_at_call 90; refine (rletter_any _ _).mono ?_; rw [hp1]; rintro e w' ⟨rfl, rfl⟩)
            | (go_at_call 91; refine (rdigit_any _ _).mono ?_; rw [hp2]; rintro e w' ⟨rfl, rfl⟩))
          go_round
          case rel => exact ⟨k + 1, by omega, by go_num, hnx'⟩
          case measure => simp [intOf]; omega
      · have hnx' : Aside _ := (show Aside _ from hnx.out (by simp [Lx.isPart, hp1]))
        clear hno hnx
        go_wp2_with (first
          | (go_at_call 90; refine (rletter_any _ _).mono ?_; rw [hp1]; rintro e w' ⟨rfl, rfl⟩))
        go_round
        case rel => exact ⟨k + 1, by omega, by go_num, hnx'⟩
        case measure => simp [intOf]; omega
    · have h1 := ha.out
      rw [List.take_of_length_le (by omega)] at h1
      by_cases h0 : 0 < s.size
      · have hd : (! Lx.isDigit s[0]) = Lx.isLetter s[0] := by
          apply letter_digit
          rw [list_cons s h0] at h1
          simp at h1
          exact h1.1
        have hres : Aside (wordB s.data.toList = (decide (s.size ≤ 16) && Lx.isLetter s[0])) := by
          show _ = _
          rw [← hl]
          rw [list_cons s h0] at h1 ⊢
          simp only [wordB]
          rw [h1, Bool.and_true]
        clear h1 hl ha
        have hd' : Aside _ := (show Aside _ from hd)
        clear hd
        by_cases h16 : s.size ≤ 16
        · rcases hx : Lx.isDigit s[0] with _ | _
          all_goals
            go_wp2_with (go_at_call 91; refine (rdigit_any _ _).mono ?_; rw [hx]; rintro e w' ⟨rfl, rfl⟩)
            go_ret
            exact ⟨ret_bool (by rw [hres.out, ← hd'.out, hx]; simp [h16]), rfl⟩
        · go_wp2
          go_ret
          exact ⟨ret_bool (by rw [hres.out]; simp [h16]), rfl⟩
      · have e := empty_of (s := s) (by omega)
        have hk0 : k = 0 := by omega
        clear h1 hl ha hk hlt h0 hs
        subst hk0
        subst e
        go_wp2
        go_ret
        exact ⟨rfl, rfl⟩
end Go.Proofs.YtifebbdjdllfpaaGreatDoor
/- Quote, the program's and the document's. -/
namespace Go.Proofs.YtifebbdjdllfpaaGreatDoor
open Go.RowKit
set_option linter.unusedSimpArgs false
set_option linter.unusedVariables false

def escT (l : List UInt8) : List UInt8 := l.flatMap fun c => if Lx.isEsc c then [92, c] else [c]
def quoteT (l : List UInt8) : List UInt8 := 34 :: escT l ++ [34]
theorem escT_snoc (l : List UInt8) (c : UInt8) : escT (l ++ [c]) = escT l ++ if Lx.isEsc c then [92, c] else [c] := by simp [escT]
theorem escT_len : ∀ l : List UInt8, (escT l).length ≤ 2 * l.length
  | [] => by simp [escT]
  | c :: r => by
    have h := escT_len r
    have e : escT (c :: r) = (if Lx.isEsc c then [92, c] else [c]) ++ escT r := by simp [escT]
    rw [e]; split <;> simp <;> omega
theorem take_next (s : ByteArray) (k : Nat) (h : k < s.size) : s.data.toList.take (k + 1) = s.data.toList.take k ++ [s[k]] := by
  rw [List.take_succ_eq_append_getElem (by simpa using h)]; rfl
theorem cells_snoc (l : List UInt8) (c : UInt8) : Lib.byteCells (l ++ [c]) = Lib.byteCells l ++ [.int .u8 c.toNat] := by simp [Lib.byteCells]
theorem write_any (B b : Nat) (l : List UInt8) (c : UInt8) (w : World) (h : IsB B b (Lib.byteCells l) w) (hl : l.length + 1 ≤ 140737488355328) (hB : B ≤ b) :
    Calls Tryz.prog 99 #[.pointer (some ⟨b, 0, none⟩), .int .u8 c.toNat] w fun e w' => e = .returned .nilIface ∧ (IsB B b (Lib.byteCells (l ++ [c])) w' ∧ Below B w w') := by
  rw [cells_snoc]
  exact writeByte_any B b (Lib.byteCells l) c.toNat w h (by simp [Lib.byteCells]; omega) (by have := h.lt; omega)
theorem write34 (B b : Nat) (l : List UInt8) (w : World) (h : IsB B b (Lib.byteCells l) w) (hl : l.length + 1 ≤ 140737488355328) (hB : B ≤ b) :
    Calls Tryz.prog 99 #[.pointer (some ⟨b, 0, none⟩), .int .u8 34] w fun e w' => e = .returned .nilIface ∧ (IsB B b (Lib.byteCells (l ++ [34])) w' ∧ Below B w w') := write_any B b l 34 w h hl hB
theorem write92 (B b : Nat) (l : List UInt8) (w : World) (h : IsB B b (Lib.byteCells l) w) (hl : l.length + 1 ≤ 140737488355328) (hB : B ≤ b) :
    Calls Tryz.prog 99 #[.pointer (some ⟨b, 0, none⟩), .int .u8 92] w fun e w' => e = .returned .nilIface ∧ (IsB B b (Lib.byteCells (l ++ [92])) w' ∧ Below B w w') := write_any B b l 92 w h hl hB

set_option maxHeartbeats 4000000 in
theorem quote_any (s : ByteArray) (w : World) (hs : s.size ≤ 1099511627776) : Calls Tryz.prog 158 #[.string s] w fun e w' => e = .returned (.string ⟨(quoteT s.data.toList).toArray⟩) ∧ Below w.heap.size w w' := by
  have hl := len_list s
  have hb0 : Below w.heap.size w (w.alloc (.cells #[.pointer none, .slice none 0 0] 63)) := (Below.refl _ _).alloc (Nat.le_refl _) _
  have hi0 : IsB w.heap.size w.heap.size (Lib.byteCells []) (w.alloc (.cells #[.pointer none, .slice none 0 0] 63)) := fresh_builder (Nat.le_refl _) (by show (w.heap.push _)[w.heap.size]? = _; rw [Array.getElem?_push, if_pos rfl])
  go_enter Tryz.func158, Tryz.ntmps158
  go_wp2_with (go_at_call 99; refine (write34 w.heap.size w.heap.size [] _ hi0 (by simp) (Nat.le_refl _)).mono ?_; rintro e w1 ⟨rfl, hi1, hb1⟩)
  go_loopg [8] s.size (fun g i wr => ∃ k : Nat, k ≤ s.size ∧ g = s.size - k ∧ i = .int .i64 k ∧ IsB w.heap.size w.heap.size (Lib.byteCells (34 :: escT (s.data.toList.take k))) wr ∧ Below w.heap.size w wr)
  case atStart => exact ⟨0, Nat.zero_le _, rfl, rfl, hi1, hb0.trans hb1⟩
  case round =>
    obtain ⟨k, hk, rfl, rfl, hi, hb⟩ := hrel
    clear hi0 hi1 hb0 hb1
    have hlen := escT_len (s.data.toList.take k)
    have htl : (s.data.toList.take k).length ≤ k := List.length_take_le _ _
    by_cases hlt : k < s.size
    · have htn := take_next s k hlt
      rcases hp : Lx.isEsc s[k] with _ | _
      · have hnx : Aside (34 :: escT (s.data.toList.take (k + 1)) = (34 :: escT (s.data.toList.take k)) ++ [s[k]]) := by
          show _ = _
          rw [htn, escT_snoc, hp]; rfl
        have hw := write_any w.heap.size w.heap.size _ s[k] wr hi (by simp; omega) (Nat.le_refl _)
        clear htn
        go_wp2_with (first
          | (go_at_call 122; refine (needs_any _ _).mono ?_; rw [hp]; rintro e w' ⟨rfl, rfl⟩)
          | (go_at_call 99; refine hw.mono ?_; rintro e w2 ⟨rfl, hi2, hb2⟩))
        go_roundg (s.size - (k + 1))
        case measure => omega
        case rel => exact ⟨k + 1, by omega, rfl, by go_num, by rw [hnx.out]; exact hi2, hb.trans hb2⟩
      · have hnx : Aside (34 :: escT (s.data.toList.take (k + 1)) = ((34 :: escT (s.data.toList.take k)) ++ [92]) ++ [s[k]]) := by
          show _ = _
          rw [htn, escT_snoc, hp]; simp
        have hw1 := write92 w.heap.size w.heap.size _ wr hi (by simp; omega) (Nat.le_refl _)
        have hw2 : ∀ w2, IsB w.heap.size w.heap.size (Lib.byteCells ((34 :: escT (s.data.toList.take k)) ++ [92])) w2 → _ := fun w2 h2 => write_any w.heap.size w.heap.size _ s[k] w2 h2 (by simp; omega) (Nat.le_refl _)
        clear htn
        go_wp2_with fail
        refine (needs_any _ _).mono ?_
        rw [hp]
        rintro e w' ⟨rfl, rfl⟩
        go_wp2_with fail
        refine hw1.mono ?_
        rintro e w2 ⟨rfl, hi2, hb2⟩
        go_wp2_with fail
        refine (hw2 w2 hi2).mono ?_
        rintro e w3 ⟨rfl, hi3, hb3⟩
        go_wp2_with fail
        go_roundg (s.size - (k + 1))
        case measure => omega
        case rel => exact ⟨k + 1, by omega, rfl, by go_num, by rw [hnx.out]; exact hi3, (hb.trans hb2).trans hb3⟩
    · have hfull : s.data.toList.take k = s.data.toList := List.take_of_length_le (by omega)
      rw [hfull] at hi hlen
      have hw := write34 w.heap.size w.heap.size _ wr hi (by simp; omega) (Nat.le_refl _)
      clear hfull htl hl
      go_wp2_with fail
      refine hw.mono ?_
      rintro e w2 ⟨rfl, hi2, hb2⟩
      have hst := string_any w.heap.size w.heap.size _ w2 hi2 (by have := hi2.lt; omega)
      go_wp2_with fail
      refine hst.mono ?_
      rintro e w3 ⟨rfl, hb3⟩
      go_wp2
      go_ret
      exact ⟨rfl, (hb.trans hb2).trans hb3⟩

def Row (w0 : World) (v : Value) (l : List UInt8) (w : World) : Prop := w.ownsRow w0.heap.size 5 1 v l.length (Lib.byteCells l)

theorem esc_no {c : UInt8} (h : Lx.isEsc c = false) : ((c.toNat : Int) == 34) = false ∧ ((c.toNat : Int) == 92) = false := by
  simp only [Lx.isEsc, Bool.or_eq_false_iff, beq_eq_false_iff_ne, ne_eq, ← UInt8.toNat_inj] at h ⊢
  obtain ⟨h1, h2⟩ := h
  exact ⟨fun a => h1 (by show c.toNat = 34; omega), fun a => h2 (by show c.toNat = 92; omega)⟩
theorem esc_yes {c : UInt8} (h : Lx.isEsc c = true) : ((c.toNat : Int) == 34) = true ∨ ((c.toNat : Int) == 92) = true := by
  simp only [Lx.isEsc, Bool.or_eq_true, beq_iff_eq] at h ⊢
  rcases h with rfl | rfl
  · exact Or.inl rfl
  · exact Or.inr rfl

set_option maxHeartbeats 4000000 in
theorem rquote_any (s : ByteArray) (w : World) (hs : s.size ≤ 1099511627776) : Calls Tryz.prog 112 #[.string s] w fun e w' => e = .returned (.string ⟨(quoteT s.data.toList).toArray⟩) ∧ Below w.heap.size w w' := by
  have hl := len_list s
  obtain ⟨i0, hi0, hz⟩ := Option.map_eq_some_iff.1 (show (Tryz.prog.info? 5).map (fun i => (i.zero, i.size, i.bytes)) = some (some (.int .u8 0), 1, 1) by kernel_rfl)
  simp only [Prod.mk.injEq] at hz
  obtain ⟨hz0, hz1, hz2⟩ := hz
  have hb0 : Below w.heap.size w (w.alloc (.cells #[.int .u8 34] 5)) := (Below.refl _ _).alloc (Nat.le_refl _) _
  have hr0 : Row w (.slice (some ⟨w.heap.size, 0, none⟩) 1 1) [34] (w.alloc (.cells #[.int .u8 34] 5)) :=
    ⟨rfl, Or.inr ⟨w.heap.size, 1, #[.int .u8 34], rfl, Nat.le_refl _, by show (w.heap.push _)[w.heap.size]? = _; rw [Array.getElem?_push, if_pos rfl], by simp, by unfold maxLen; omega, rfl, rfl⟩⟩
  go_enter Tryz.func112, Tryz.ntmps112
  go_wp2_with fail
  go_loopg [3, 4] s.size (fun g v i wr => ∃ k : Nat, k ≤ s.size ∧ g = s.size - k ∧ i = .int .i64 k ∧ Row w v (34 :: escT (s.data.toList.take k)) wr ∧ Below w.heap.size w wr)
  case atStart => exact ⟨0, Nat.zero_le _, rfl, rfl, hr0, hb0⟩
  case round =>
    obtain ⟨k, hk, rfl, rfl, hr, hb⟩ := hrel
    clear hr0 hb0
    unfold Row at hr
    have hlen := escT_len (s.data.toList.take k)
    have htl : (s.data.toList.take k).length ≤ k := List.length_take_le _ _
    by_cases hlt : k < s.size
    · have htn := take_next s k hlt
      rcases hp : Lx.isEsc s[k] with _ | _
      · have hnx : Aside (34 :: escT (s.data.toList.take (k + 1)) = (34 :: escT (s.data.toList.take k)) ++ [s[k]]) := by
          show _ = _
          rw [htn, escT_snoc, hp]; rfl
        obtain ⟨k1, k2⟩ := esc_no hp
        clear htn hp
        go_wp2_with (at_builtin; refine wpList_append_own _ rfl _ _ 61 rfl w.heap.size 5 i0 (.int .u8 0) 1 1 Tryz.underlying61 hi0 hz0 hz1 hz2 rfl (by decide) _ _ _ rfl (hr.alloc _) ⟨wr.heap.size, 0, none⟩ 1 1 [.int .u8 s[k].toNat] rfl rfl ?c1 ?c2 ?c3 ?c4 ?c5 ?_)
        case c1 =>
          intro j u hj
          match j, hj with
          | 0, hj => simp at hj; subst hj; simp [Addr.add]
        case c2 => intro u hu; simp at hu; subst hu; rfl
        case c3 => unfold maxLen; simp; omega
        case c4 => simp; omega
        case c5 => have := hb.size; simp; omega
        intro v' w2 hr2 hg2 _
        go_wp2_with fail
        go_roundg (s.size - (k + 1))
        case measure => omega
        case rel =>
          refine ⟨k + 1, by omega, rfl, by go_num, ?_, (hb.alloc hb.size _).grown hg2 (by have := hb.size; simp; omega) (fun x hx => (hr.lt x hx).1)⟩
          rw [hnx.out]
          unfold Row
          rw [cells_snoc]
          simpa using hr2
      · have hnx : Aside (34 :: escT (s.data.toList.take (k + 1)) = ((34 :: escT (s.data.toList.take k)) ++ [92]) ++ [s[k]]) := by
          show _ = _
          rw [htn, escT_snoc, hp]; simp
        have hor : (((s[k].toNat : Int) == 34) = true ∧ True) ∨ (((s[k].toNat : Int) == 34) = false ∧ ((s[k].toNat : Int) == 92) = true) := by
          rcases esc_yes hp with h | h
          · exact Or.inl ⟨h, trivial⟩
          · exact Or.inr ⟨by have : (s[k].toNat : Int) = 92 := by simpa using h
                             rw [this]; rfl, h⟩
        clear htn hp
        rcases hor with ⟨k1, k2⟩ | ⟨k1, k2⟩
        all_goals
          go_wp2_with (at_builtin; refine wpList_append_own _ rfl _ _ 61 rfl w.heap.size 5 i0 (.int .u8 0) 1 1 Tryz.underlying61 hi0 hz0 hz1 hz2 rfl (by decide) _ _ _ rfl (hr.alloc _) ⟨wr.heap.size, 0, none⟩ 1 1 [.int .u8 92] rfl rfl ?c1 ?c2 ?c3 ?c4 ?c5 ?_)
          case c1 =>
            intro j u hj
            match j, hj with
            | 0, hj => simp at hj; subst hj; simp [Addr.add]
          case c2 => intro u hu; simp at hu; subst hu; rfl
          case c3 => unfold maxLen; simp; omega
          case c4 => simp; omega
          case c5 => have := hb.size; simp; omega
          intro v2 w2 hr2 hg2 _
          have hb2 : Below w.heap.size w w2 := (hb.alloc hb.size _).grown hg2 (by have := hb.size; simp; omega) (fun x hx => (hr.lt x hx).1)
          replace hr2 : w2.ownsRow w.heap.size 5 1 v2 ((34 :: escT (s.data.toList.take k)) ++ [92]).length (Lib.byteCells ((34 :: escT (s.data.toList.take k)) ++ [(92 : UInt8)])) := by
            rw [cells_snoc]; simpa using hr2
          clear hr hg2 hb
          go_wp2_with (at_builtin; refine wpList_append_own _ rfl _ _ 61 rfl w.heap.size 5 i0 (.int .u8 0) 1 1 Tryz.underlying61 hi0 hz0 hz1 hz2 rfl (by decide) _ _ _ rfl (hr2.alloc _) ⟨w2.heap.size, 0, none⟩ 1 1 [.int .u8 s[k].toNat] rfl rfl ?c1 ?c2 ?c3 ?c4 ?c5 ?_)
          case c1 =>
            intro j u hj
            match j, hj with
            | 0, hj => simp at hj; subst hj; simp [Addr.add]
          case c2 => intro u hu; simp at hu; subst hu; rfl
          case c3 => unfold maxLen; simp; omega
          case c4 => simp; omega
          case c5 => have := hb2.size; simp; omega
          intro v3 w3 hr3 hg3 _
          go_wp2_with fail
          go_roundg (s.size - (k + 1))
          case measure => omega
          case rel =>
            refine ⟨k + 1, by omega, rfl, by go_num, ?_, (hb2.alloc hb2.size _).grown hg3 (by have := hb2.size; simp; omega) (fun x hx => (hr2.lt x hx).1)⟩
            rw [hnx.out]
            unfold Row
            rw [cells_snoc]
            simpa using hr3
    · have hfull : s.data.toList.take k = s.data.toList := List.take_of_length_le (by omega)
      rw [hfull] at hr hlen
      rw [hl] at hlen
      clear hfull htl hl
      go_wp2_with (at_builtin; refine wpList_append_own _ rfl _ _ 61 rfl w.heap.size 5 i0 (.int .u8 0) 1 1 Tryz.underlying61 hi0 hz0 hz1 hz2 rfl (by decide) _ _ _ rfl (hr.alloc _) ⟨wr.heap.size, 0, none⟩ 1 1 [.int .u8 34] rfl rfl ?c1 ?c2 ?c3 ?c4 ?c5 ?_)
      case c1 =>
        intro j u hj
        match j, hj with
        | 0, hj => simp at hj; subst hj; simp [Addr.add]
      case c2 => intro u hu; simp at hu; subst hu; rfl
      case c3 => unfold maxLen; simp; omega
      case c4 => simp; omega
      case c5 => have := hb.size; simp; omega
      intro v2 w2 hr2 hg2 _
      have hb2 : Below w.heap.size w w2 := (hb.alloc hb.size _).grown hg2 (by have := hb.size; simp; omega) (fun x hx => (hr.lt x hx).1)
      replace hr2 : w2.ownsRow w.heap.size 5 1 v2 (quoteT s.data.toList).length (Lib.byteCells (quoteT s.data.toList)) := by
        show w2.ownsRow _ _ _ _ ((34 :: escT s.data.toList) ++ [34]).length (Lib.byteCells ((34 :: escT s.data.toList) ++ [(34 : UInt8)]))
        rw [cells_snoc]; simpa using hr2
      clear hr hg2 hb
      obtain ⟨g, cap, rfl, _, _, hc⟩ := owns_cells hr2 (by simp [quoteT])
      have hcv := run_convert_bytes_back (P := Tryz.prog) w2 61 9 5 ⟨g, 0, none⟩ cap (quoteT s.data.toList) Tryz.underlying61 Tryz.underlying5 Tryz.underlying9 (by
        intro j hj
        have := hc j (.int .u8 ((quoteT s.data.toList)[j].toNat : Int)) (by simp [Lib.byteCells, List.getElem?_eq_getElem hj])
        have e : (⟨g, 0, none⟩ : Addr).add j = ⟨g, j, none⟩ := by unfold Addr.add; split <;> simp_all
        rw [e]; exact this)
      clear hc hr2
      go_wp2
      go_ret
      exact ⟨rfl, hb2⟩
end Go.Proofs.YtifebbdjdllfpaaGreatDoor
/- There and back: a quoted plain text is read as that text, a name as that name. -/
namespace Go.Proofs.YtifebbdjdllfpaaGreatDoor
open Go.RowKit
set_option linter.unusedSimpArgs false
set_option linter.unusedVariables false

theorem quote_back : ∀ (l : List UInt8) (o : Nat) (acc : List UInt8), l.all Lx.isPlain = true →
    Lx.quoteR (escT l ++ [34]) o acc = if (acc ++ l).length ≤ 256 then Lx.R.ok 3 (acc ++ l) 0 (o + (escT l).length + 1) else Lx.R.bad 0 3
  | [], o, acc, _ => by
    rw [show escT [] ++ [34] = [(34 : UInt8)] from rfl, quoteR_cons, if_pos rfl]; simp [escT]
  | c :: r, o, acc, h => by
    simp only [List.all_cons, Bool.and_eq_true] at h
    have e : escT (c :: r) = (if Lx.isEsc c then [92, c] else [c]) ++ escT r := by simp [escT]
    rcases hc : Lx.isEsc c with _ | _
    · have h34 : c ≠ 34 := by rintro rfl; simp [Lx.isEsc] at hc
      have h92 : c ≠ 92 := by rintro rfl; simp [Lx.isEsc] at hc
      rw [e, hc]
      simp only [Bool.false_eq_true, if_false, List.cons_append, List.nil_append]
      rw [quoteR_cons, if_neg h34, if_neg h92, if_pos h.1, quote_back r (o + 1) (acc ++ [c]) h.2]
      simp only [List.append_assoc, List.cons_append, List.nil_append, List.length_cons]
      rw [show o + 1 + (escT r).length + 1 = o + ((escT r).length + 1) + 1 by omega]
    · rw [e, hc]
      simp only [if_true, List.cons_append, List.nil_append]
      rw [quoteR_cons, if_neg (by decide), if_pos rfl]
      simp only [hc, if_true]
      rw [quote_back r (o + 2) (acc ++ [c]) h.2]
      simp only [List.append_assoc, List.cons_append, List.nil_append, List.length_cons]
      rw [show o + 2 + (escT r).length + 1 = o + ((escT r).length + 1 + 1) + 1 by omega]
theorem lex_whole {dot : Bool} {c : UInt8} {r : List UInt8} {k : Nat} {t : List UInt8} {m : Nat} (hl : (c :: r).length ≤ 16384) (hs : Lx.skipF false (c :: r) = 0) (ht : Lx.tokR dot (c :: r) = Lx.R.ok k t m (c :: r).length) :
    Lx.lex dot (c :: r) = .inl [⟨k, t, m, 0⟩, ⟨5, [], 0, (c :: r).length⟩] := by
  unfold Lx.lex
  rw [if_neg (by omega), Lx.lexGo_ok (x := c) (r := r) (by rw [hs]; rfl) ht (by simp), if_pos (by omega), hs]
  simp only [Nat.zero_add, List.drop_length]
  rw [Lx.lexGo_end (by rfl), if_pos (by omega)]
  rfl
theorem lex_quote (dot : Bool) (l : List UInt8) (h : plainB l = true) : Lx.lex dot (quoteT l) = .inl [⟨3, l, 0, 0⟩, ⟨5, [], 0, (quoteT l).length⟩] := by
  simp only [plainB, Bool.and_eq_true, decide_eq_true_eq] at h
  have hlen := escT_len l
  have e : quoteT l = 34 :: (escT l ++ [34]) := rfl
  rw [e]
  apply lex_whole
  · simp; omega
  · simp [Lx.skipF, Lx.isBlank]
  · have ht : Lx.tokR dot (34 :: (escT l ++ [34])) = Lx.quoteR (escT l ++ [34]) 1 [] := by
      simp [Lx.tokR, Lx.isLetter, Lx.isDigit]
    rw [ht, quote_back l 1 [] h.2]
    simp only [List.nil_append]
    rw [if_pos h.1]
    simp only [List.length_cons, List.length_append, List.length_nil]
    rw [show 1 + (escT l).length + 1 = (escT l).length + (0 + 1) + 1 by omega]
theorem letter_kind {c : UInt8} (h : Lx.isLetter c = true) : Lx.isBlank c = false ∧ c ≠ 35 := by
  simp only [Lx.isLetter, Lx.isBlank, Bool.or_eq_true, Bool.and_eq_true, decide_eq_true_eq, beq_iff_eq, UInt8.le_iff_toNat_le, Bool.or_eq_false_iff, beq_eq_false_iff_ne, ne_eq, ← UInt8.toNat_inj] at *
  have e97 : (97 : UInt8).toNat = 97 := rfl
  have e122 : (122 : UInt8).toNat = 122 := rfl
  have e95 : (95 : UInt8).toNat = 95 := rfl
  have e32 : (32 : UInt8).toNat = 32 := rfl
  have e10 : (10 : UInt8).toNat = 10 := rfl
  have e9 : (9 : UInt8).toNat = 9 := rfl
  have e35 : (35 : UInt8).toNat = 35 := rfl
  omega
theorem lex_word (dot : Bool) (l : List UInt8) (h : wordB l = true) : Lx.lex dot l = .inl [⟨1, l, 0, 0⟩, ⟨5, [], 0, l.length⟩] := by
  match l, h with
  | c :: r, h =>
    simp only [wordB, Bool.and_eq_true, decide_eq_true_eq] at h
    obtain ⟨h1, h2, h3⟩ := h
    have htw : (c :: r).takeWhile Lx.isPart = c :: r := by
      have := (Lx.tw_all (p := Lx.isPart) (l := c :: r)).2 h3
      rw [← Lx.tw_take (c :: r), this, List.take_length]
    apply lex_whole
    · omega
    · exact Lx.skip_none (fun x hx => by simp at hx; subst hx; exact letter_kind h2)
    · simp only [Lx.tokR, h2, if_true]
      unfold Lx.nameR
      rw [htw, if_pos h1]
theorem word_lex (dot : Bool) (l : List UInt8) (t1 : Lx.Tok) (h : Lx.lex dot l = .inl [⟨1, l, 0, 0⟩, t1]) : wordB l = true := by
  unfold Lx.lex at h
  split at h
  · simp at h
  · rcases hd : l.drop (Lx.skipF false l) with _ | ⟨x, r⟩
    · rw [Lx.lexGo_end hd] at h
      simp at h
    · rcases ht : Lx.tokR dot (x :: r) with ⟨k, t, m, n⟩ | ⟨o, e⟩
      · rw [Lx.lexGo_ok hd ht (tok_kinds ht).2.1] at h
        simp only [Nat.zero_lt_succ, if_true] at h
        rcases hg : Lx.lexGo dot (l.drop (Lx.skipF false l + n)) (0 + Lx.skipF false l + n) (0 + 1) with ts | y
        · rw [hg] at h
          simp only [Lx.Out.pre, List.cons_append, List.nil_append, Sum.inl.injEq, List.cons.injEq, Lx.Tok.mk.injEq] at h
          obtain ⟨⟨rfl, rfl, rfl, h0⟩, _⟩ := h
          have hs : Lx.skipF false t = 0 := by omega
          rw [hs] at hd
          simp only [List.drop_zero] at hd
          subst hd
          simp only [Lx.tokR] at ht
          split at ht
          · rename_i hlx
            unfold Lx.nameR at ht
            split at ht
            · rename_i h16
              simp only [Lx.R.ok, Sum.inl.injEq, Prod.mk.injEq] at ht
              have hall : (x :: r).all Lx.isPart = true := (Lx.tw_all (p := Lx.isPart)).1 (by rw [ht.2.1])
              rw [ht.2.1] at h16
              simp only [wordB, Bool.and_eq_true, decide_eq_true_eq]
              exact ⟨h16, hlx, hall⟩
            · simp [Lx.R.ok, Lx.R.bad] at ht
          · split at ht
            · unfold Lx.numberR at ht
              split at ht
              · simp [Lx.R.ok, Lx.R.bad] at ht
              · split at ht
                · simp [Lx.R.ok] at ht
                · simp [Lx.R.ok, Lx.R.bad] at ht
            · split at ht
              · have := quote_kinds r.length r 1 [] _ _ _ _ (Nat.le_refl _) ht
                omega
              · unfold Lx.markR at ht
                split at ht
                · simp [Lx.R.ok, Lx.R.bad] at ht
                · simp [Lx.R.ok] at ht
        · rw [hg] at h; simp [Lx.Out.pre] at h
      · rw [Lx.lexGo_bad hd ht] at h
        simp at h
end Go.Proofs.YtifebbdjdllfpaaGreatDoor
/- The statement on there and back, walked. -/
namespace Go.Proofs.YtifebbdjdllfpaaGreatDoor
open Go.RowKit
set_option linter.unusedSimpArgs false
set_option linter.unusedVariables false

theorem quote_err : ∀ (N : Nat) (l : List UInt8) (o : Nat) (acc : List UInt8) (a er : Nat), l.length ≤ N → Lx.quoteR l o acc = Lx.R.bad a er → er ≠ 0
  | N, [], o, acc, a, er, _, h => by simp [Lx.quoteR, Lx.R.bad] at h; omega
  | 0, c :: r, o, acc, a, er, hN, h => by simp at hN
  | N + 1, c :: r, o, acc, a, er, hN, h => by
    rw [quoteR_cons] at h
    simp only [List.length_cons] at hN
    split at h
    · split at h
      · simp [Lx.R.ok, Lx.R.bad] at h
      · simp [Lx.R.bad] at h; omega
    · split at h
      · split at h
        · simp [Lx.R.bad] at h; omega
        · split at h
          · rename_i d r' _
            exact quote_err N r' (o + 2) _ a er (by simp at hN; omega) h
          · simp [Lx.R.bad] at h; omega
      · split at h
        · exact quote_err N r (o + 1) _ a er (by omega) h
        · simp [Lx.R.bad] at h; omega
theorem tok_err {dot : Bool} {l : List UInt8} {a er : Nat} (h : Lx.tokR dot l = Lx.R.bad a er) : er ≠ 0 := by
  match l, h with
  | [], h => simp [Lx.tokR, Lx.R.ok, Lx.R.bad] at h
  | c :: r, h =>
    simp only [Lx.tokR] at h
    split at h
    · unfold Lx.nameR at h
      split at h
      · simp [Lx.R.ok, Lx.R.bad] at h
      · simp [Lx.R.bad] at h; omega
    · split at h
      · unfold Lx.numberR at h
        split at h
        · simp [Lx.R.bad] at h; omega
        · split at h
          · simp [Lx.R.ok, Lx.R.bad] at h
          · simp [Lx.R.bad] at h; omega
      · split at h
        · exact quote_err r.length r 1 [] a er (Nat.le_refl _) h
        · unfold Lx.markR at h
          split at h
          · simp [Lx.R.bad] at h; omega
          · simp [Lx.R.ok, Lx.R.bad] at h
theorem lexF_err (dot : Bool) : ∀ (f : Nat) (l : List UInt8) (i c a er : Nat), l.length < f → Lx.lexF dot f l i c = .inr (a, er) → er ≠ 0
  | 0, l, i, c, a, er, hf, h => by omega
  | f + 1, l, i, c, a, er, hf, h => by
    simp only [Lx.lexF] at h
    split at h
    · split at h
      · simp at h
      · simp at h; omega
    · rename_i x r hd
      have hl := congrArg List.length hd
      simp at hl
      split at h
      · rename_i o e ht
        simp at h
        rw [← h.2]
        exact tok_err ht
      · rename_i k t m n ht
        split at h
        · rcases hg : Lx.lexF dot f (r.drop (n - 1)) (i + Lx.skipF false l + n) (c + 1) with ts | ⟨a', e'⟩
          · rw [hg] at h; simp [Lx.Out.pre] at h
          · rw [hg] at h
            simp [Lx.Out.pre] at h
            rw [← h.2]
            exact lexF_err dot f _ _ _ a' e' (by simp; omega) hg
        · simp at h; omega
theorem lex_err {dot : Bool} {l : List UInt8} {a er : Nat} (h : Lx.lex dot l = .inr (a, er)) : er ≠ 0 := by
  unfold Lx.lex at h
  split at h
  · simp at h; omega
  · exact lexF_err dot _ l 0 0 a er (Nat.lt_succ_self _) h

theorem str_same (s : ByteArray) : (⟨s.data.toList.toArray⟩ : ByteArray) = s := bytes_same rfl

end Go.Proofs.YtifebbdjdllfpaaGreatDoor
/- A token hangs on its own bytes, and on the one behind only so far; blanks and notes likewise. Plain mathematics. -/
namespace Go.Proofs.YtifebbdjdllfpaaGreatDoor
set_option linter.unusedSimpArgs false
set_option linter.unusedVariables false

/-- What may stand behind a token in place of what stood there: the same byte, nothing, a blank or a note. -/
def Behind (a b : Option UInt8) : Prop := b = a ∨ ∀ c, b = some c → Lx.isBlank c = true ∨ c = 35

theorem tw_same {p : UInt8 → Bool} : ∀ {l l2 : List UInt8}, l2.take (l.takeWhile p).length = l.take (l.takeWhile p).length →
    (∀ c, l2[(l.takeWhile p).length]? = some c → p c = false) → l2.takeWhile p = l.takeWhile p
  | [], [], _, _ => rfl
  | [], c :: r, _, h => by
    have := h c rfl
    simp [this]
  | a :: r, l2, h1, h2 => by
    by_cases ha : p a
    · simp only [List.takeWhile_cons_of_pos ha, List.length_cons] at h1 h2 ⊢
      rcases l2 with _ | ⟨b, r2⟩
      · simp at h1
      · simp only [List.take_succ_cons, List.cons.injEq] at h1
        obtain ⟨hba, h3⟩ := h1
        subst hba
        rw [List.takeWhile_cons_of_pos ha]
        congr 1
        exact tw_same h3 (fun c hc => h2 c (by simpa using hc))
    · simp only [List.takeWhile_cons_of_neg ha, List.length_nil] at h1 h2 ⊢
      rcases l2 with _ | ⟨b, r2⟩
      · rfl
      · have := h2 b rfl
        simp [this]
theorem tw_next {p : UInt8 → Bool} {l : List UInt8} {c : UInt8} (h : l[(l.takeWhile p).length]? = some c) : p c = false := by
  obtain ⟨hlt, he⟩ := List.getElem?_eq_some_iff.1 h
  rcases hp : p c with _ | _
  · rfl
  · have := Lx.tw_step (l := l) (p := p) (k := (l.takeWhile p).length) (Nat.le_refl _) hlt (by rw [he]; exact hp)
    omega
theorem part_no {c : UInt8} (h : Lx.isBlank c = true ∨ c = 35) : Lx.isPart c = false ∧ Lx.isDigit c = false ∧ c ≠ 61 ∧ c ≠ 38 ∧ c ≠ 124 := by
  have : c = 32 ∨ c = 10 ∨ c = 9 ∨ c = 35 := by
    rcases h with h | h
    · simp only [Lx.isBlank, Bool.or_eq_true, beq_iff_eq] at h
      rcases h with (h | h) | h <;> simp [h]
    · simp [h]
  rcases this with rfl | rfl | rfl | rfl <;> decide
theorem quote_local : ∀ (N : Nat) (l l2 : List UInt8) (o : Nat) (acc : List UInt8) (k : Nat) (t : List UInt8) (m n : Nat), l.length ≤ N → Lx.quoteR l o acc = Lx.R.ok k t m n → l2.take (n - o) = l.take (n - o) → Lx.quoteR l2 o acc = Lx.R.ok k t m n
  | N, [], l2, o, acc, k, t, m, n, _, h, _ => by simp [Lx.quoteR, Lx.R.bad, Lx.R.ok] at h
  | 0, c :: r, l2, o, acc, k, t, m, n, hN, h, _ => by simp at hN
  | N + 1, c :: r, l2, o, acc, k, t, m, n, hN, h, ht => by
    have hk := quote_kinds (N + 1) (c :: r) o acc k t m n hN h
    obtain ⟨q, hq⟩ : ∃ q, n - o = q + 1 := ⟨n - o - 1, by omega⟩
    rw [hq] at ht
    rcases l2 with _ | ⟨b, r2⟩
    · simp at ht
    · simp only [List.take_succ_cons, List.cons.injEq] at ht
      obtain ⟨hbc, ht2⟩ := ht
      subst hbc
      rw [quoteR_cons] at h ⊢
      simp only [List.length_cons] at hN
      split at h
      · rename_i h34; rw [if_pos h34]; exact h
      · rename_i h34
        rw [if_neg h34]
        split at h
        · rename_i h92
          rw [if_pos h92]
          rcases r with _ | ⟨d, r'⟩
          · simp [Lx.R.ok, Lx.R.bad] at h
          · simp only at h
            split at h
            · rename_i hd
              have hk2 := quote_kinds r'.length r' (o + 2) (acc ++ [d]) k t m n (Nat.le_refl _) h
              obtain ⟨q', hq'⟩ : ∃ q', q = q' + 1 := ⟨q - 1, by omega⟩
              rw [hq'] at ht2
              rcases r2 with _ | ⟨e, r2'⟩
              · simp at ht2
              · simp only [List.take_succ_cons, List.cons.injEq] at ht2
                obtain ⟨hed, ht3⟩ := ht2
                subst hed
                simp only [hd, if_true]
                exact quote_local N r' r2' (o + 2) _ k t m n (by simp at hN; omega) h (by rw [show n - (o + 2) = q' by omega]; exact ht3)
            · simp [Lx.R.ok, Lx.R.bad] at h
        · rename_i h92
          rw [if_neg h92]
          split at h
          · rename_i hp
            rw [if_pos hp]
            have hk2 := quote_kinds r.length r (o + 1) _ k t m n (Nat.le_refl _) h
            exact quote_local N r r2 (o + 1) _ k t m n (by omega) h (by rw [show n - (o + 1) = q by omega]; exact ht2)
          · simp [Lx.R.ok, Lx.R.bad] at h
theorem tok_local {dot : Bool} {x : UInt8} {r l2 : List UInt8} {k : Nat} {t : List UInt8} {m n : Nat} (h : Lx.tokR dot (x :: r) = Lx.R.ok k t m n)
    (ht : l2.take n = (x :: r).take n) (hb : Behind (x :: r)[n]? l2[n]?) : Lx.tokR dot l2 = Lx.R.ok k t m n := by
  have hk := tok_kinds h
  obtain ⟨n', rfl⟩ : ∃ n', n = n' + 1 := ⟨n - 1, by omega⟩
  match l2, ht, hb with
  | [], ht, _ => simp at ht
  | y :: r2, ht, hb =>
    have ht' := ht
    simp only [List.take_succ_cons, List.cons.injEq] at ht'
    obtain ⟨rfl, ht'⟩ := ht'
    simp only [Lx.tokR] at h ⊢
    split at h
    · rename_i hl
      rw [if_pos hl]
      unfold Lx.nameR at h ⊢
      split at h
      · rename_i h16
        simp only [Lx.R.ok, Sum.inl.injEq, Prod.mk.injEq] at h
        have e : (y :: r2).takeWhile Lx.isPart = (y :: r).takeWhile Lx.isPart := by
          rw [← h.2.2.2] at ht hb
          refine tw_same ht (fun c hc => ?_)
          rcases hb with hb | hb
          · exact tw_next (hb ▸ hc)
          · exact (part_no (hb c hc)).1
        rw [e, if_pos h16]
        simp only [Lx.R.ok, Sum.inl.injEq, Prod.mk.injEq]
        exact h
      · simp [Lx.R.ok, Lx.R.bad] at h
    · rename_i hl
      rw [if_neg hl]
      split at h
      · rename_i hd
        rw [if_pos hd]
        unfold Lx.numberR at h ⊢
        split at h
        · simp [Lx.R.ok, Lx.R.bad] at h
        · rename_i h48
          split at h
          · rename_i hv
            simp only [Lx.R.ok, Sum.inl.injEq, Prod.mk.injEq] at h
            have e : (y :: r2).takeWhile Lx.isDigit = (y :: r).takeWhile Lx.isDigit := by
              rw [← h.2.2.2] at ht hb
              refine tw_same ht (fun c hc => ?_)
              rcases hb with hb | hb
              · exact tw_next (hb ▸ hc)
              · exact (part_no (hb c hc)).2.1
            rw [e, if_neg h48, if_pos hv]
            simp only [Lx.R.ok, Sum.inl.injEq, Prod.mk.injEq]
            exact h
          · simp [Lx.R.ok, Lx.R.bad] at h
      · rename_i hd
        rw [if_neg hd]
        split at h
        · rename_i h34
          rw [if_pos h34]
          exact quote_local r.length r r2 1 [] k t m (n' + 1) (Nat.le_refl _) h (by simpa using ht')
        · rename_i h34
          rw [if_neg h34]
          unfold Lx.markR at h ⊢
          split at h
          · simp [Lx.R.ok, Lx.R.bad] at h
          · rename_i hz
            simp only [Lx.R.ok, Sum.inl.injEq, Prod.mk.injEq] at h
            have e : Lx.markN dot (y :: r2) = Lx.markN dot (y :: r) := by
              obtain ⟨_, _, _, hn⟩ := h
              clear hl hd h34 hz
              rcases h2 : Lx.two (y :: r) with _ | _
              · have hn1 : Lx.markN dot (y :: r) = if Lx.one dot y then 1 else 0 := by unfold Lx.markN; rw [h2]; rfl
                have hn0 : n' = 0 := by rw [hn1] at hn; split at hn <;> omega
                subst hn0
                have h22 : Lx.two (y :: r2) = false := by
                  rcases hr2 : r2 with _ | ⟨z, r3⟩
                  · rfl
                  · rcases hb with hb | hb
                    · rw [hr2] at hb
                      rcases r with _ | ⟨z', r'⟩
                      · simp at hb
                      · simp at hb; subst hb
                        simpa [Lx.two] using h2
                    · have := part_no (hb z (by rw [hr2]; rfl))
                      simp [Lx.two, this.2.2.1, this.2.2.2.1, this.2.2.2.2]
                rw [hn1]; unfold Lx.markN; rw [h22]; rfl
              · have hn2 : Lx.markN dot (y :: r) = 2 := by unfold Lx.markN; rw [h2]; rfl
                have hn0 : n' = 1 := by omega
                subst hn0
                rcases r with _ | ⟨z', r'⟩
                · simp [Lx.two] at h2
                · rcases r2 with _ | ⟨z, r3⟩
                  · simp at ht'
                  · simp at ht'; subst ht'
                    rw [hn2]; unfold Lx.markN
                    rw [show Lx.two (y :: z :: r3) = Lx.two (y :: z :: r') from rfl, h2]; rfl
            rw [e, if_neg hz]
            simp only [Lx.R.ok, Sum.inl.injEq, Prod.mk.injEq]
            rw [← h.2.2.2] at ht
            rw [ht]
            exact h
end Go.Proofs.YtifebbdjdllfpaaGreatDoor
/- A text that ends right ahead of a token has the tokens ahead of it, and the end. Plain mathematics. -/
namespace Go.Proofs.YtifebbdjdllfpaaGreatDoor
set_option linter.unusedSimpArgs false
set_option linter.unusedVariables false

theorem skip_take : ∀ (b : Bool) (l : List UInt8) (q : Nat), Lx.skipF b l ≤ q → Lx.skipF b (l.take q) = Lx.skipF b l
  | b, [], q, _ => by simp
  | true, c :: r, 0, h => by simp only [Lx.skipF] at h; split at h <;> omega
  | false, c :: r, 0, h => by
    simp only [List.take_zero]
    have : Lx.skipF false (c :: r) = 0 := by omega
    rw [this]; rfl
  | true, c :: r, q + 1, h => by
    simp only [Lx.skipF, List.take_succ_cons] at h ⊢
    split
    · rename_i hc; rw [if_pos hc] at h; rw [skip_take false r q (by omega)]
    · rename_i hc; rw [if_neg hc] at h; rw [skip_take true r q (by omega)]
  | false, c :: r, q + 1, h => by
    simp only [Lx.skipF, List.take_succ_cons] at h ⊢
    split
    · rename_i hc; rw [if_pos hc] at h; rw [skip_take false r q (by omega)]
    · rename_i hc
      rw [if_neg hc] at h
      split
      · rename_i h35; rw [if_pos h35] at h; rw [skip_take true r q (by omega)]
      · rfl
theorem cut_here {dot : Bool} {l : List UInt8} {i c : Nat} (hc : c < 4096) : Lx.lexGo dot (l.take (Lx.skipF false l)) i c = .inl [⟨5, [], 0, i + Lx.skipF false l⟩] := by
  have hs := skip_take false l (Lx.skipF false l) (Nat.le_refl _)
  rw [Lx.lexGo_end (by rw [hs]; exact List.drop_eq_nil_of_le (by simp; omega)), if_pos hc, hs]
theorem lex_cut (dot : Bool) : ∀ (N : Nat) (l : List UInt8) (i c : Nat) (ts : List Lx.Tok) (j : Nat) (t : Lx.Tok), l.length ≤ N → Lx.lexGo dot l i c = .inl ts → ts[j]? = some t →
    Lx.lexGo dot (l.take (t.place - i)) i c = .inl (ts.take j ++ [⟨5, [], 0, t.place⟩]) ∧ i ≤ t.place ∧ t.place ≤ i + l.length := by
  intro N
  induction N with
  | zero =>
    intro l i c ts j t hN h ht
    have hl : l = [] := List.eq_nil_of_length_eq_zero (by omega)
    subst hl
    rw [Lx.lexGo_end (by rfl)] at h
    split at h
    · rename_i hc
      simp only [Sum.inl.injEq] at h
      subst h
      rcases j with _ | j
      · simp at ht; subst ht
        simp only [List.take_nil, List.take_zero, List.nil_append]
        rw [Lx.lexGo_end (by rfl), if_pos hc]
        exact ⟨rfl, by omega, by simp [Lx.skipF]⟩
      · simp at ht
    · simp at h
  | succ N ih =>
    intro l i c ts j t hN h ht
    have hkl := Lx.skip_le false l
    rcases hd : l.drop (Lx.skipF false l) with _ | ⟨x, r⟩
    · rw [Lx.lexGo_end hd] at h
      split at h
      · rename_i hc
        simp only [Sum.inl.injEq] at h
        subst h
        rcases j with _ | j
        · simp at ht; subst ht
          simp only [List.take_zero, List.nil_append, Nat.add_sub_cancel_left]
          exact ⟨cut_here hc, by omega, by omega⟩
        · simp at ht
      · simp at h
    · rcases htk : Lx.tokR dot (x :: r) with ⟨k, tx, m, n⟩ | ⟨o, e⟩
      · have hkn := tok_kinds htk
        have hlen := congrArg List.length hd
        simp at hlen
        rw [Lx.lexGo_ok hd htk hkn.2.1] at h
        split at h
        · rename_i hc
          rcases hg : Lx.lexGo dot (l.drop (Lx.skipF false l + n)) (i + Lx.skipF false l + n) (c + 1) with ts' | y
          · rw [hg] at h
            simp only [Lx.Out.pre, List.cons_append, List.nil_append, Sum.inl.injEq] at h
            subst h
            rcases j with _ | j
            · simp at ht; subst ht
              simp only [List.take_zero, List.nil_append, Nat.add_sub_cancel_left]
              exact ⟨cut_here hc, by omega, by omega⟩
            · simp only [List.getElem?_cons_succ] at ht
              obtain ⟨h1, h2, h3⟩ := ih (l.drop (Lx.skipF false l + n)) (i + Lx.skipF false l + n) (c + 1) ts' j t (by simp; omega) hg ht
              simp only [List.length_drop] at h3
              refine ⟨?_, by omega, by omega⟩
              have hs := skip_take false l (t.place - i) (by omega)
              have hd2 : (l.take (t.place - i)).drop (Lx.skipF false (l.take (t.place - i))) = x :: r.take (t.place - i - Lx.skipF false l - 1) := by
                rw [hs, List.drop_take, hd]
                obtain ⟨z, hz⟩ : ∃ z, t.place - i - Lx.skipF false l = z + 1 := ⟨t.place - i - Lx.skipF false l - 1, by omega⟩
                rw [hz]; rfl
              have htk2 : Lx.tokR dot (x :: r.take (t.place - i - Lx.skipF false l - 1)) = Lx.R.ok k tx m n := by
                have e : x :: r.take (t.place - i - Lx.skipF false l - 1) = (x :: r).take (t.place - i - Lx.skipF false l) := by
                  obtain ⟨z, hz⟩ : ∃ z, t.place - i - Lx.skipF false l = z + 1 := ⟨t.place - i - Lx.skipF false l - 1, by omega⟩
                  rw [hz]; rfl
                rw [e]
                refine tok_local htk ?_ ?_
                · rw [List.take_take, Nat.min_eq_left (by omega)]
                · rw [List.getElem?_take]
                  split
                  · exact Or.inl rfl
                  · exact Or.inr (fun c hc => by simp at hc)
              rw [Lx.lexGo_ok hd2 htk2 hkn.2.1, if_pos hc, hs, List.drop_take, show t.place - i - (Lx.skipF false l + n) = t.place - (i + Lx.skipF false l + n) by omega, h1]
              rfl
          · rw [hg] at h; simp [Lx.Out.pre] at h
        · simp at h
      · rw [Lx.lexGo_bad hd htk] at h
        simp at h
end Go.Proofs.YtifebbdjdllfpaaGreatDoor
/- The document's comparison of two lists of tokens. -/
namespace Go.Proofs.YtifebbdjdllfpaaGreatDoor
open Go.RowKit
set_option linter.unusedSimpArgs false
set_option linter.unusedVariables false

/-- At block g the tokens ts lie, one behind the other. -/
def TokRow (w : World) (g : Nat) (ts : List Lx.Tok) : Prop := ∀ k t, ts[k]? = some t → w.cell? ⟨g, k * 4, none⟩ = some (.int .i64 t.kind) ∧ w.cell? ⟨g, k * 4 + 1, none⟩ = some (.string ⟨t.text.toArray⟩) ∧ w.cell? ⟨g, k * 4 + 2, none⟩ = some (.int .i64 t.num) ∧ w.cell? ⟨g, k * 4 + 3, none⟩ = some (.int .i64 t.place)

theorem rowOf_at : ∀ (ts : List Lx.Tok) (k : Nat) (t : Lx.Tok), ts[k]? = some t → (rowOf ts)[k * 4]? = some (.int .i64 t.kind) ∧ (rowOf ts)[k * 4 + 1]? = some (.string ⟨t.text.toArray⟩) ∧ (rowOf ts)[k * 4 + 2]? = some (.int .i64 t.num) ∧ (rowOf ts)[k * 4 + 3]? = some (.int .i64 t.place)
  | [], k, t, h => by simp at h
  | a :: r, 0, t, h => by
    simp at h; subst h
    simp [rowOf, tokCells]
  | a :: r, k + 1, t, h => by
    have ih := rowOf_at r k t (by simpa using h)
    have e : rowOf (a :: r) = tokCells a ++ rowOf r := by simp [rowOf]
    have hl : (tokCells a).length = 4 := rfl
    rw [e]
    refine ⟨?_, ?_, ?_, ?_⟩
    · rw [List.getElem?_append_right (by omega), hl, show (k + 1) * 4 - 4 = k * 4 by omega]; exact ih.1
    · rw [List.getElem?_append_right (by omega), hl, show (k + 1) * 4 + 1 - 4 = k * 4 + 1 by omega]; exact ih.2.1
    · rw [List.getElem?_append_right (by omega), hl, show (k + 1) * 4 + 2 - 4 = k * 4 + 2 by omega]; exact ih.2.2.1
    · rw [List.getElem?_append_right (by omega), hl, show (k + 1) * 4 + 3 - 4 = k * 4 + 3 by omega]; exact ih.2.2.2
theorem owns_toks {w : World} {base : Nat} {e : TypeId} {v : Value} {ts : List Lx.Tok} (h : w.ownsRow base e 4 v ts.length (rowOf ts)) (hn : 0 < ts.length) :
    ∃ g cap, v = .slice (some ⟨g, 0, none⟩) ts.length cap ∧ base ≤ g ∧ g < w.heap.size ∧ ts.length ≤ cap ∧ TokRow w g ts := by
  have h2 := h.2
  obtain ⟨g, cap, hv, hg, hl, hc⟩ := owns_cells h hn
  refine ⟨g, cap, hv, hg, hl, ?_, ?_⟩
  · rcases h2 with ⟨h0, _⟩ | ⟨g', cap', cur, hv', _, _, hcap, _⟩
    · rw [hv] at h0; simp at h0
    · rw [hv] at hv'; simp at hv'; omega
  · intro k t hk
    obtain ⟨a, b, c, d⟩ := rowOf_at ts k t hk
    exact ⟨hc _ _ a, hc _ _ b, hc _ _ c, hc _ _ d⟩
theorem TokRow.below {w w' : World} {g : Nat} {ts : List Lx.Tok} {B : Nat} (h : TokRow w g ts) (m : Below B w w') (hB : g < B) : TokRow w' g ts := by
  intro k t hk
  obtain ⟨a, b, c, d⟩ := h k t hk
  exact ⟨by rw [m.cell (p := ⟨g, k * 4, none⟩) hB]; exact a, by rw [m.cell (p := ⟨g, k * 4 + 1, none⟩) hB]; exact b, by rw [m.cell (p := ⟨g, k * 4 + 2, none⟩) hB]; exact c, by rw [m.cell (p := ⟨g, k * 4 + 3, none⟩) hB]; exact d⟩
theorem TokRow.take {w : World} {g : Nat} {ts : List Lx.Tok} (h : TokRow w g ts) (j : Nat) : TokRow w g (ts.take j) := by
  intro k t hk
  rw [List.getElem?_take] at hk
  split at hk
  · exact h k t hk
  · simp at hk

end Go.Proofs.YtifebbdjdllfpaaGreatDoor
/- The statement on cuts, walked. -/
namespace Go.Proofs.YtifebbdjdllfpaaGreatDoor
open Go.RowKit
set_option linter.unusedSimpArgs false
set_option linter.unusedVariables false

theorem lex_nonempty {dot : Bool} {l : List UInt8} {ts : List Lx.Tok} (h : Lx.lex dot l = .inl ts) : 0 < ts.length ∧ l.length ≤ 16384 := by
  unfold Lx.lex at h
  split at h
  · simp at h
  · refine ⟨?_, by omega⟩
    rcases hd : l.drop (Lx.skipF false l) with _ | ⟨x, r⟩
    · rw [Lx.lexGo_end hd] at h
      simp at h; subst h; simp
    · rcases ht : Lx.tokR dot (x :: r) with ⟨k, t, m, n⟩ | ⟨o, e⟩
      · rw [Lx.lexGo_ok hd ht (tok_kinds ht).2.1] at h
        simp only [Nat.zero_lt_succ, if_true] at h
        rcases hg : Lx.lexGo dot (l.drop (Lx.skipF false l + n)) (0 + Lx.skipF false l + n) (0 + 1) with ts' | y
        · rw [hg] at h; simp [Lx.Out.pre] at h; subst h; simp
        · rw [hg] at h; simp [Lx.Out.pre] at h
      · rw [Lx.lexGo_bad hd ht] at h; simp at h
theorem lexF_few (dot : Bool) : ∀ (f : Nat) (l : List UInt8) (i c : Nat) (ts : List Lx.Tok), l.length < f → Lx.lexF dot f l i c = .inl ts → c + ts.length ≤ 4096
  | 0, l, i, c, ts, hf, h => by omega
  | f + 1, l, i, c, ts, hf, h => by
    simp only [Lx.lexF] at h
    split at h
    · split at h
      · simp at h; subst h; simp; omega
      · simp at h
    · rename_i x r hd
      have hl := congrArg List.length hd
      simp at hl
      split at h
      · simp at h
      · rename_i k t m n ht
        split at h
        · rcases hg : Lx.lexF dot f (r.drop (n - 1)) (i + Lx.skipF false l + n) (c + 1) with ts' | y
          · rw [hg] at h
            simp [Lx.Out.pre] at h
            subst h
            have := lexF_few dot f _ _ _ ts' (by simp; omega) hg
            simp; omega
          · rw [hg] at h; simp [Lx.Out.pre] at h
        · simp at h
theorem lex_few {dot : Bool} {l : List UInt8} {ts : List Lx.Tok} (h : Lx.lex dot l = .inl ts) : ts.length ≤ 4096 := by
  unfold Lx.lex at h
  split at h
  · simp at h
  · have := lexF_few dot _ l 0 0 ts (Nat.lt_succ_self _) h
    omega
theorem lex_cut0 {dot : Bool} {l : List UInt8} {ts : List Lx.Tok} {j : Nat} {t : Lx.Tok} (h : Lx.lex dot l = .inl ts) (ht : ts[j]? = some t) :
    Lx.lex dot (l.take t.place) = .inl (ts.take j ++ [⟨5, [], 0, t.place⟩]) ∧ t.place ≤ l.length := by
  have hle := (lex_nonempty h).2
  unfold Lx.lex at h
  rw [if_neg (by omega)] at h
  obtain ⟨h1, _, h3⟩ := lex_cut dot l.length l 0 0 ts j t (Nat.le_refl _) h ht
  simp at h1 h3
  refine ⟨?_, h3⟩
  unfold Lx.lex
  rw [if_neg (by simp; omega)]
  simpa using h1

end Go.Proofs.YtifebbdjdllfpaaGreatDoor
/- Blanks and notes put ahead of tokens, and behind all, change no token but its place. Plain mathematics. -/
namespace Go.Proofs.YtifebbdjdllfpaaGreatDoor
set_option linter.unusedSimpArgs false
set_option linter.unusedVariables false

/-- Where what belongs to a token ends: where the next one begins, or the text ends. -/
def chunkEnd (l : List UInt8) : List Lx.Tok → Nat
  | [] => l.length
  | u :: _ => u.place
def build (l : List UInt8) (p : Nat → List UInt8) : Nat → List Lx.Tok → List UInt8
  | _, [] => []
  | j, t :: rest => p j ++ ((l.take (chunkEnd l rest)).drop t.place ++ build l p (j + 1) rest)
def kinds (t : Lx.Tok) : Nat × List UInt8 × Nat := (t.kind, t.text, t.num)
/-- Blanks and notes that are shut, whatever stands behind. -/
structure Pad (p : List UInt8) : Prop where
  shut : ∀ Y, Lx.skipF false (p ++ Y) = p.length + Lx.skipF false Y
  all : ∀ b, Lx.skipF b p = p.length
  head : ∀ c, p.head? = some c → Lx.isBlank c = true ∨ c = 35
theorem pad_nil : Pad [] := ⟨fun Y => by simp, fun b => by cases b <;> rfl, fun c h => by simp at h⟩

theorem skip_app : ∀ (b : Bool) (g : List UInt8) (x : UInt8) (r : List UInt8), Lx.skipF b (g ++ x :: r) = g.length → ∀ Y, Lx.skipF b (g ++ Y) = g.length + Lx.skipF false Y
  | true, [], x, r, h, Y => by
    simp only [List.nil_append, Lx.skipF, List.length_nil] at h
    split at h <;> omega
  | false, [], x, r, h, Y => by simp
  | true, c :: g, x, r, h, Y => by
    simp only [List.cons_append, Lx.skipF, List.length_cons] at h ⊢
    split
    · rename_i hc; rw [if_pos hc] at h; rw [skip_app false g x r (by omega) Y]; omega
    · rename_i hc; rw [if_neg hc] at h; rw [skip_app true g x r (by omega) Y]; omega
  | false, c :: g, x, r, h, Y => by
    simp only [List.cons_append, Lx.skipF, List.length_cons] at h ⊢
    split
    · rename_i hc; rw [if_pos hc] at h; rw [skip_app false g x r (by omega) Y]; omega
    · rename_i hc
      rw [if_neg hc] at h
      split
      · rename_i h35; rw [if_pos h35] at h; rw [skip_app true g x r (by omega) Y]; omega
      · rename_i h35; rw [if_neg h35] at h; omega
theorem skip_app_end : ∀ (b : Bool) (g : List UInt8), Lx.skipF b g = g.length → ∀ Y, (∀ b, Lx.skipF b Y = Y.length) → Lx.skipF b (g ++ Y) = g.length + Y.length
  | b, [], _, Y, hY => by simp [hY b]
  | true, c :: g, h, Y, hY => by
    simp only [List.cons_append, Lx.skipF, List.length_cons] at h ⊢
    split
    · rename_i hc; rw [if_pos hc] at h; rw [skip_app_end false g (by omega) Y hY]; omega
    · rename_i hc; rw [if_neg hc] at h; rw [skip_app_end true g (by omega) Y hY]; omega
  | false, c :: g, h, Y, hY => by
    simp only [List.cons_append, Lx.skipF, List.length_cons] at h ⊢
    split
    · rename_i hc; rw [if_pos hc] at h; rw [skip_app_end false g (by omega) Y hY]; omega
    · rename_i hc
      rw [if_neg hc] at h
      split
      · rename_i h35; rw [if_pos h35] at h; rw [skip_app_end true g (by omega) Y hY]; omega
      · rename_i h35; rw [if_neg h35] at h; omega
/-- A gap g that may stand where the text L stands: it is gone over whole, whatever comes behind. -/
structure Fits (g L : List UInt8) : Prop where
  tok : ∀ x r, L.drop (Lx.skipF false L) = x :: r → ∀ Y, Lx.skipF false (g ++ Y) = g.length + Lx.skipF false Y
  fin : L.drop (Lx.skipF false L) = [] → ∀ Y, (∀ b, Lx.skipF b Y = Y.length) → Lx.skipF false (g ++ Y) = g.length + Y.length
theorem fits_nil (L : List UInt8) : Fits [] L := ⟨fun x r _ Y => by simp, fun _ Y hY => by simp [hY false]⟩
theorem fits_gap (L : List UInt8) : Fits (L.take (Lx.skipF false L)) L := by
  have hle := Lx.skip_le false L
  have hlen : (L.take (Lx.skipF false L)).length = Lx.skipF false L := by simp; omega
  refine ⟨fun x r hd Y => ?_, fun hd Y hY => ?_⟩
  · refine skip_app false (L.take (Lx.skipF false L)) x r ?_ Y
    rw [← hd, List.take_append_drop, hlen]
  · refine skip_app_end false (L.take (Lx.skipF false L)) ?_ Y hY
    rw [skip_take false L _ (Nat.le_refl _), hlen]
theorem first_tok {dot : Bool} {L : List UInt8} {i c : Nat} {ts : List Lx.Tok} (h : Lx.lexGo dot L i c = .inl ts) : ∃ u rest, ts = u :: rest ∧ u.place = i + Lx.skipF false L ∧ c < 4096 ∧
    ((L.drop (Lx.skipF false L) = [] ∧ rest = [] ∧ u = ⟨5, [], 0, i + Lx.skipF false L⟩) ∨
     ∃ x r k t m n, L.drop (Lx.skipF false L) = x :: r ∧ Lx.tokR dot (x :: r) = Lx.R.ok k t m n ∧ u = ⟨k, t, m, i + Lx.skipF false L⟩ ∧ Lx.lexGo dot (L.drop (Lx.skipF false L + n)) (i + Lx.skipF false L + n) (c + 1) = .inl rest) := by
  rcases hd : L.drop (Lx.skipF false L) with _ | ⟨x, r⟩
  · rw [Lx.lexGo_end hd] at h
    split at h
    · rename_i hc
      simp only [Sum.inl.injEq] at h
      exact ⟨_, [], h.symm, rfl, hc, Or.inl ⟨rfl, rfl, rfl⟩⟩
    · simp at h
  · rcases ht : Lx.tokR dot (x :: r) with ⟨k, t, m, n⟩ | ⟨o, e⟩
    · rw [Lx.lexGo_ok hd ht (tok_kinds ht).2.1] at h
      split at h
      · rename_i hc
        rcases hg : Lx.lexGo dot (L.drop (Lx.skipF false L + n)) (i + Lx.skipF false L + n) (c + 1) with ts' | y
        · rw [hg] at h
          simp only [Lx.Out.pre, List.cons_append, List.nil_append, Sum.inl.injEq] at h
          exact ⟨_, ts', h.symm, rfl, hc, Or.inr ⟨x, r, k, t, m, n, rfl, ht, rfl, hg⟩⟩
        · rw [hg] at h; simp [Lx.Out.pre] at h
      · simp at h
    · rw [Lx.lexGo_bad hd ht] at h; simp at h
theorem blanks (dot : Bool) (l : List UInt8) (p : Nat → List UInt8) (hp : ∀ j, Pad (p j)) : ∀ (N i c : Nat) (ts : List Lx.Tok) (j : Nat) (g : List UInt8) (i' : Nat), l.length - i < N → i ≤ l.length →
    Lx.lexGo dot (l.drop i) i c = .inl ts → Fits g (l.drop i) → ∃ ts', Lx.lexGo dot (g ++ build l p j ts) i' c = .inl ts' ∧ ts'.map kinds = ts.map kinds := by
  intro N
  induction N with
  | zero => intro i c ts j g i' hN; omega
  | succ N ih =>
    intro i c ts j g i' hN hi h hg
    obtain ⟨u, rest, rfl, hpl, hc, hcase⟩ := first_tok h
    have hkl := Lx.skip_le false (l.drop i)
    simp only [List.length_drop] at hkl
    rcases hcase with ⟨hd, rfl, rfl⟩ | ⟨x, r, k, t, m, n, hd, ht, rfl, hrest⟩
    · have hq : i + Lx.skipF false (l.drop i) = l.length := by
        have := congrArg List.length hd
        simp at this; omega
      have e : build l p j [⟨5, [], 0, i + Lx.skipF false (l.drop i)⟩] = p j := by
        simp only [build, chunkEnd]
        rw [hq, List.take_length, List.drop_length]; simp
      rw [e]
      have hs := hg.fin hd (p j) (hp j).all
      rw [Lx.lexGo_end (by rw [hs]; exact List.drop_eq_nil_of_le (by simp)), if_pos hc]
      exact ⟨_, rfl, rfl⟩
    · have hkn := tok_kinds ht
      have hlen := congrArg List.length hd
      simp at hlen
      rw [List.drop_drop, ← Nat.add_assoc] at hrest
      obtain ⟨u1, rest1, rfl, hpl1, hc1, hcase1⟩ := first_tok hrest
      generalize hq : i + Lx.skipF false (l.drop i) = q at *
      generalize hk2 : Lx.skipF false (l.drop (q + n)) = k2 at *
      have hk2l := Lx.skip_le false (l.drop (q + n))
      rw [hk2] at hk2l
      simp only [List.length_drop] at hk2l
      have hdq : l.drop q = x :: r := by rw [← hq, ← List.drop_drop]; exact hd
      have hchunk : (l.take (chunkEnd l (u1 :: rest1))).drop q = (x :: r).take n ++ (l.drop (q + n)).take k2 := by
        simp only [chunkEnd, hpl1]
        rw [List.drop_take, hdq, show q + n + k2 - q = n + k2 by omega, List.take_add, ← hdq, List.drop_drop]
      have e : build l p j (⟨k, t, m, q⟩ :: u1 :: rest1) = p j ++ ((x :: r).take n ++ ((l.drop (q + n)).take k2 ++ build l p (j + 1) (u1 :: rest1))) := by
        rw [build, hchunk, List.append_assoc]
      rw [e]
      generalize hB1 : build l p (j + 1) (u1 :: rest1) = B1 at *
      obtain ⟨n', hn'⟩ : ∃ n', n = n' + 1 := ⟨n - 1, by omega⟩
      have htk : (x :: r).take n = x :: r.take n' := by rw [hn']; rfl
      have hxb : Lx.isBlank x = false ∧ x ≠ 35 := by
        have := Lx.skip_head false (l.drop i) x (by rw [hd]; rfl)
        exact this
      have hs0 : Lx.skipF false ((x :: r).take n ++ ((l.drop (q + n)).take k2 ++ B1)) = 0 := Lx.skip_none (fun y hy => by rw [htk] at hy; simp at hy; subst hy; exact hxb)
      have hs : Lx.skipF false (g ++ (p j ++ ((x :: r).take n ++ ((l.drop (q + n)).take k2 ++ B1)))) = g.length + (p j).length := by
        rw [hg.tok x r hd, (hp j).shut, hs0]; omega
      have hdrop : (g ++ (p j ++ ((x :: r).take n ++ ((l.drop (q + n)).take k2 ++ B1)))).drop (g.length + (p j).length) = x :: (r.take n' ++ ((l.drop (q + n)).take k2 ++ B1)) := by
        rw [← List.append_assoc, List.drop_append_of_le_length (by simp), List.drop_eq_nil_of_le (by simp), List.nil_append, htk]; rfl
      have hltn : ((x :: r).take n).length = n := by simp; omega
      have hy : x :: (r.take n' ++ ((l.drop (q + n)).take k2 ++ B1)) = (x :: r).take n ++ ((l.drop (q + n)).take k2 ++ B1) := by rw [htk]; rfl
      have htok : Lx.tokR dot (x :: (r.take n' ++ ((l.drop (q + n)).take k2 ++ B1))) = Lx.R.ok k t m n := by
        rw [hy]
        refine tok_local ht ?_ ?_
        · rw [List.take_append_of_le_length (by omega), List.take_take, Nat.min_self]
        · rw [List.getElem?_append_right (by omega), hltn, Nat.sub_self]
          have ha : (x :: r)[n]? = (l.drop (q + n))[0]? := by rw [← hdq, List.getElem?_drop, List.getElem?_drop]; simp
          rw [ha]
          by_cases hk0 : k2 = 0
          · rw [hk0] at hpl1 hcase1 ⊢
            simp only [List.take_zero, List.nil_append, Nat.add_zero, List.drop_zero] at hpl1 hcase1 ⊢
            rw [← hB1, build]
            rcases hpj : p (j + 1) with _ | ⟨y, pr⟩
            · rw [List.nil_append, hpl1]
              rcases hcase1 with ⟨hd1, rfl, _⟩ | ⟨x1, r1, k1, t1, m1, n1, hd1, ht1, _, hrest1⟩
              · refine Or.inr (fun z hz => ?_)
                simp only [chunkEnd, List.take_length] at hz
                rw [hd1] at hz; simp [build] at hz
              · obtain ⟨u2, rest2, hr2, hpl2, _⟩ := first_tok hrest1
                have hn1 := (tok_kinds ht1).2.1
                refine Or.inl ?_
                rw [hr2, chunkEnd, List.drop_take, hd1, List.getElem?_append_left (by simp; omega), List.getElem?_take, if_pos (by omega)]
            · refine Or.inr (fun z hz => ?_)
              simp at hz
              exact (hp (j + 1)).head z (by rw [hpj, ← hz]; rfl)
          · refine Or.inl ?_
            rw [List.getElem?_append_left (by simp; omega), List.getElem?_take, if_pos (by omega)]
      have hlast : (g ++ (p j ++ ((x :: r).take n ++ ((l.drop (q + n)).take k2 ++ B1)))).drop (g.length + (p j).length + n) = (l.drop (q + n)).take k2 ++ B1 := by
        rw [← List.drop_drop, hdrop, hy, List.drop_append_of_le_length (by omega), List.drop_eq_nil_of_le (by omega), List.nil_append]
      obtain ⟨ts', h1, h2⟩ := ih (q + n) (c + 1) (u1 :: rest1) (j + 1) ((l.drop (q + n)).take k2) (i' + (g.length + (p j).length) + n) (by omega) (by omega) hrest (by have := fits_gap (l.drop (q + n)); rw [hk2] at this; exact this)
      rw [Lx.lexGo_ok (by rw [hs]; exact hdrop) htok hkn.2.1, if_pos hc, hs, hlast, ← hB1, h1]
      exact ⟨_, rfl, by simp [h2, kinds]⟩
end Go.Proofs.YtifebbdjdllfpaaGreatDoor
/- The tokens of a text are good: the end's is the last one, and no other is. -/
namespace Go.Proofs.YtifebbdjdllfpaaGreatDoor
set_option linter.unusedVariables false

theorem lexGo_good (dot : Bool) (l : List UInt8) : ∀ (N i c : Nat) (ts : List Lx.Tok), l.length - i < N → i ≤ l.length → Lx.lexGo dot (l.drop i) i c = .inl ts → Px.Good ts := by
  intro N
  induction N with
  | zero => intro i c ts hN; omega
  | succ N ih =>
    intro i c ts hN hi h
    obtain ⟨u, rest, rfl, hpl, hc, hcase⟩ := first_tok h
    have hkl := Lx.skip_le false (l.drop i)
    simp only [List.length_drop] at hkl
    rcases hcase with ⟨hd, rfl, rfl⟩ | ⟨x, r, k, t, m, n, hd, ht, rfl, hrest⟩
    · rfl
    · have hkn := tok_kinds ht
      have hlen := congrArg List.length hd
      simp at hlen
      rw [List.drop_drop, ← Nat.add_assoc] at hrest
      have hg := ih (i + Lx.skipF false (l.drop i) + n) (c + 1) rest (by omega) (by omega) hrest
      match rest, hg with
      | u :: r, hg => exact ⟨hkn.1, hg⟩
theorem lex_good {dot : Bool} {l : List UInt8} {ts : List Lx.Tok} (h : Lx.lex dot l = .inl ts) : Px.Good ts := by
  have hle := (lex_nonempty h).2
  unfold Lx.lex at h
  rw [if_neg (by omega)] at h
  exact lexGo_good dot l (l.length + 1) 0 0 ts (by omega) (by omega) (by simpa using h)
/-- Where a fault of a text's parts is. -/
theorem parse_place {l : List UInt8} {ts : List Lx.Tok} {a e : Nat} (h : Lx.lex true l = .inl ts) (hp : Px.program ts = .inr (a, e)) : (∃ t ∈ ts, t.place = a) ∧ (e = 31 ∨ e = 32) :=
  (Px.program_ok ts (lex_good h)).bad a e hp
end Go.Proofs.YtifebbdjdllfpaaGreatDoor
/- What kind a token is goes by its first byte, if it is no text. -/
namespace Go.Proofs.YtifebbdjdllfpaaGreatDoor
set_option linter.unusedVariables false

def cls : List UInt8 → Nat
  | [] => 5
  | c :: _ => if Lx.isLetter c then 1 else if Lx.isDigit c then 2 else 4
def Tidy (t : Lx.Tok) : Prop := t.kind = 3 ∨ t.kind = cls t.text
theorem tok_tidy {dot : Bool} {x : UInt8} {r : List UInt8} {k : Nat} {t : List UInt8} {m n : Nat} (h : Lx.tokR dot (x :: r) = Lx.R.ok k t m n) : k = 3 ∨ k = cls t := by
  simp only [Lx.tokR] at h
  split at h
  · rename_i hl
    unfold Lx.nameR at h
    split at h
    · simp only [Lx.R.ok, Sum.inl.injEq, Prod.mk.injEq] at h
      obtain ⟨rfl, rfl, _⟩ := h
      right
      rw [List.takeWhile_cons_of_pos (by simp [Lx.isPart, hl])]
      simp [cls, hl]
    · simp [Lx.R.ok, Lx.R.bad] at h
  · rename_i hl
    split at h
    · rename_i hd
      unfold Lx.numberR at h
      split at h
      · simp [Lx.R.ok, Lx.R.bad] at h
      · split at h
        · simp only [Lx.R.ok, Sum.inl.injEq, Prod.mk.injEq] at h
          obtain ⟨rfl, rfl, _⟩ := h
          right
          rw [List.takeWhile_cons_of_pos hd]
          simp [cls, hl, hd]
        · simp [Lx.R.ok, Lx.R.bad] at h
    · rename_i hd
      split at h
      · left
        exact (quote_kinds r.length r 1 [] k t m n (Nat.le_refl _) h).1
      · unfold Lx.markR at h
        split at h
        · simp [Lx.R.ok, Lx.R.bad] at h
        · rename_i hz
          simp only [Lx.R.ok, Sum.inl.injEq, Prod.mk.injEq] at h
          obtain ⟨rfl, rfl, _⟩ := h
          right
          obtain ⟨q, hq⟩ : ∃ q, Lx.markN dot (x :: r) = q + 1 := ⟨Lx.markN dot (x :: r) - 1, by omega⟩
          rw [hq, List.take_succ_cons]
          simp [cls, hl, hd]
theorem lexGo_tidy (dot : Bool) (l : List UInt8) : ∀ (N i c : Nat) (ts : List Lx.Tok), l.length - i < N → i ≤ l.length → Lx.lexGo dot (l.drop i) i c = .inl ts → ∀ t ∈ ts, Tidy t := by
  intro N
  induction N with
  | zero => intro i c ts hN; omega
  | succ N ih =>
    intro i c ts hN hi h
    obtain ⟨u, rest, rfl, hpl, hc, hcase⟩ := first_tok h
    have hkl := Lx.skip_le false (l.drop i)
    simp only [List.length_drop] at hkl
    rcases hcase with ⟨hd, rfl, rfl⟩ | ⟨x, r, k, t, m, n, hd, ht, rfl, hrest⟩
    · intro t ht
      simp at ht; subst ht
      exact Or.inr rfl
    · have hkn := tok_kinds ht
      have hlen := congrArg List.length hd
      simp at hlen
      rw [List.drop_drop, ← Nat.add_assoc] at hrest
      have hg := ih (i + Lx.skipF false (l.drop i) + n) (c + 1) rest (by omega) (by omega) hrest
      intro t' ht'
      simp only [List.mem_cons] at ht'
      rcases ht' with rfl | ht'
      · exact tok_tidy ht
      · exact hg t' ht'
theorem lex_tidy {dot : Bool} {l : List UInt8} {ts : List Lx.Tok} (h : Lx.lex dot l = .inl ts) : ∀ t ∈ ts, Tidy t := by
  have hle := (lex_nonempty h).2
  unfold Lx.lex at h
  rw [if_neg (by omega)] at h
  exact lexGo_tidy dot l (l.length + 1) 0 0 ts (by omega) (by omega) (by simpa using h)
/-- Whether a token is a word or a mark, by its text alone. -/
def isB (x : List UInt8) (t : Lx.Tok) : Bool := t.text == x && t.kind != 3
theorem isB_sees {x : List UInt8} {t : Lx.Tok} {r : List Lx.Tok} (h : Tidy t) (h3 : cls x ≠ 3) : isB x t = Px.sees (cls x) x (t :: r) := by
  simp only [isB, Px.sees]
  rw [Bool.eq_iff_iff]
  simp only [Bool.and_eq_true, beq_iff_eq, bne_iff_ne, ne_eq]
  constructor
  · rintro ⟨h1, h2⟩
    rcases h with h | h
    · exact absurd h h2
    · exact ⟨by rw [h, h1], h1⟩
  · rintro ⟨h1, h2⟩
    exact ⟨h2, by omega⟩
end Go.Proofs.YtifebbdjdllfpaaGreatDoor
/- A token hangs on its own bytes; behind it may stand any byte that can't go on with it. Plain mathematics. -/
namespace Go.Proofs.YtifebbdjdllfpaaGreatDoor
set_option linter.unusedSimpArgs false
set_option linter.unusedVariables false

/-- A byte that no name, number or mark goes on with. -/
def Sep (c : UInt8) : Prop := Lx.isPart c = false ∧ Lx.isDigit c = false ∧ c ≠ 61 ∧ c ≠ 38 ∧ c ≠ 124
/-- What may stand behind a token in place of what stood there: the same byte, or nothing, or a byte that can't go on with it. -/
def Beside (a b : Option UInt8) : Prop := b = a ∨ ∀ c, b = some c → Sep c
theorem tok_sep {dot : Bool} {x : UInt8} {r l2 : List UInt8} {k : Nat} {t : List UInt8} {m n : Nat} (h : Lx.tokR dot (x :: r) = Lx.R.ok k t m n)
    (ht : l2.take n = (x :: r).take n) (hb : Beside (x :: r)[n]? l2[n]?) : Lx.tokR dot l2 = Lx.R.ok k t m n := by
  have hk := tok_kinds h
  obtain ⟨n', rfl⟩ : ∃ n', n = n' + 1 := ⟨n - 1, by omega⟩
  match l2, ht, hb with
  | [], ht, _ => simp at ht
  | y :: r2, ht, hb =>
    have ht' := ht
    simp only [List.take_succ_cons, List.cons.injEq] at ht'
    obtain ⟨rfl, ht'⟩ := ht'
    simp only [Lx.tokR] at h ⊢
    split at h
    · rename_i hl
      rw [if_pos hl]
      unfold Lx.nameR at h ⊢
      split at h
      · rename_i h16
        simp only [Lx.R.ok, Sum.inl.injEq, Prod.mk.injEq] at h
        have e : (y :: r2).takeWhile Lx.isPart = (y :: r).takeWhile Lx.isPart := by
          rw [← h.2.2.2] at ht hb
          refine tw_same ht (fun c hc => ?_)
          rcases hb with hb | hb
          · exact tw_next (hb ▸ hc)
          · exact (hb c hc).1
        rw [e, if_pos h16]
        simp only [Lx.R.ok, Sum.inl.injEq, Prod.mk.injEq]
        exact h
      · simp [Lx.R.ok, Lx.R.bad] at h
    · rename_i hl
      rw [if_neg hl]
      split at h
      · rename_i hd
        rw [if_pos hd]
        unfold Lx.numberR at h ⊢
        split at h
        · simp [Lx.R.ok, Lx.R.bad] at h
        · rename_i h48
          split at h
          · rename_i hv
            simp only [Lx.R.ok, Sum.inl.injEq, Prod.mk.injEq] at h
            have e : (y :: r2).takeWhile Lx.isDigit = (y :: r).takeWhile Lx.isDigit := by
              rw [← h.2.2.2] at ht hb
              refine tw_same ht (fun c hc => ?_)
              rcases hb with hb | hb
              · exact tw_next (hb ▸ hc)
              · exact (hb c hc).2.1
            rw [e, if_neg h48, if_pos hv]
            simp only [Lx.R.ok, Sum.inl.injEq, Prod.mk.injEq]
            exact h
          · simp [Lx.R.ok, Lx.R.bad] at h
      · rename_i hd
        rw [if_neg hd]
        split at h
        · rename_i h34
          rw [if_pos h34]
          exact quote_local r.length r r2 1 [] k t m (n' + 1) (Nat.le_refl _) h (by simpa using ht')
        · rename_i h34
          rw [if_neg h34]
          unfold Lx.markR at h ⊢
          split at h
          · simp [Lx.R.ok, Lx.R.bad] at h
          · rename_i hz
            simp only [Lx.R.ok, Sum.inl.injEq, Prod.mk.injEq] at h
            have e : Lx.markN dot (y :: r2) = Lx.markN dot (y :: r) := by
              obtain ⟨_, _, _, hn⟩ := h
              clear hl hd h34 hz
              rcases h2 : Lx.two (y :: r) with _ | _
              · have hn1 : Lx.markN dot (y :: r) = if Lx.one dot y then 1 else 0 := by unfold Lx.markN; rw [h2]; rfl
                have hn0 : n' = 0 := by rw [hn1] at hn; split at hn <;> omega
                subst hn0
                have h22 : Lx.two (y :: r2) = false := by
                  rcases hr2 : r2 with _ | ⟨z, r3⟩
                  · rfl
                  · rcases hb with hb | hb
                    · rw [hr2] at hb
                      rcases r with _ | ⟨z', r'⟩
                      · simp at hb
                      · simp at hb; subst hb
                        simpa [Lx.two] using h2
                    · have := hb z (by rw [hr2]; rfl)
                      simp [Lx.two, this.2.2.1, this.2.2.2.1, this.2.2.2.2]
                rw [hn1]; unfold Lx.markN; rw [h22]; rfl
              · have hn2 : Lx.markN dot (y :: r) = 2 := by unfold Lx.markN; rw [h2]; rfl
                have hn0 : n' = 1 := by omega
                subst hn0
                rcases r with _ | ⟨z', r'⟩
                · simp [Lx.two] at h2
                · rcases r2 with _ | ⟨z, r3⟩
                  · simp at ht'
                  · simp at ht'; subst ht'
                    rw [hn2]; unfold Lx.markN
                    rw [show Lx.two (y :: z :: r3) = Lx.two (y :: z :: r') from rfl, h2]; rfl
            rw [e, if_neg hz]
            simp only [Lx.R.ok, Sum.inl.injEq, Prod.mk.injEq]
            rw [← h.2.2.2] at ht
            rw [ht]
            exact h
end Go.Proofs.YtifebbdjdllfpaaGreatDoor
/- Round brackets around numbers change nothing but places, where nothing is too deep. Plain mathematics. -/
namespace Go.Proofs.YtifebbdjdllfpaaGreatDoor.Px
open Go.Proofs.YtifebbdjdllfpaaGreatDoor.Lx (Tok B)
set_option linter.unusedVariables false
set_option linter.unusedSimpArgs false

/-- The tokens m are those of l at other places, some numbers with round brackets around them. -/
inductive Ins : List Tok → List Tok → Prop
  | nil : Ins [] []
  | cons {t u : Tok} {l m : List Tok} : TS t u → Ins l m → Ins (t :: l) (u :: m)
  | wrap {t u a b : Tok} {l m : List Tok} : t.kind = 2 → TS t u → a.kind = 4 → a.text = [40] → b.kind = 4 → b.text = [41] → Ins l m → Ins (t :: l) (a :: u :: b :: m)
def notnum : List Tok → Prop
  | [] => True
  | t :: _ => t.kind ≠ 2
theorem Ins.of_sim {l m : List Tok} (h : TSim l m) : Ins l m := by
  induction h with
  | nil => exact .nil
  | cons a _ ih => exact .cons a ih
theorem sees_notnum {k : Nat} {x : B} {l : List Tok} (h : sees k x l = true) (hk : k ≠ 2) : notnum l := by
  obtain ⟨t, r, rfl, h1, _⟩ := sees_head h
  show t.kind ≠ 2
  omega
theorem Ins.yes {l m : List Tok} (h : Ins l m) {k : Nat} {x : B} (hs : sees k x l = true) (hk : k ≠ 2) : sees k x m = true ∧ Ins l.tail m.tail := by
  cases h with
  | nil => simp [sees] at hs
  | cons a h => exact ⟨by rw [← hs]; simp only [sees, a.kind, a.text], h⟩
  | wrap h2 _ _ _ _ _ h => simp [sees] at hs; omega
theorem Ins.no {l m : List Tok} (h : Ins l m) {k : Nat} {x : B} (hs : sees k x l = false) (hk : k ≠ 4 ∨ x ≠ [40]) : sees k x m = false := by
  cases h with
  | nil => rfl
  | cons a h => rw [← hs]; simp only [sees, a.kind, a.text]
  | wrap h2 _ h4 ht _ _ h =>
    simp only [sees, h4, ht]
    rcases hk with hk | hk
    · have : (4 == k) = false := by simp; omega
      rw [this]; rfl
    · have : (([40] : B) == x) = false := by simp; exact fun e => hk e.symm
      rw [this, Bool.and_false]
theorem Ins.sees {l m : List Tok} (h : Ins l m) (k : Nat) (x : B) (h2 : k ≠ 2) (hk : k ≠ 4 ∨ x ≠ [40]) : Px.sees k x m = Px.sees k x l := by
  rcases hs : Px.sees k x l with _ | _
  · exact h.no hs hk
  · exact (h.yes hs h2).1
theorem Ins.seesN {l m : List Tok} (h : Ins l m) (k : Nat) (x : B) (h2 : k ≠ 2) (hn : notnum l) : Px.sees k x m = Px.sees k x l := by
  cases h with
  | nil => rfl
  | cons a h => simp only [Px.sees, a.kind, a.text]
  | wrap h2 => exact absurd h2 hn
/-- What is answered of l and of m: where l's is a part, so is m's, but for places; or m is too deep. (Where a number stands behind, nothing is said.) -/
def InsE {α : Type} (ρ : α → α → Prop) (r s : R α) : Prop := ∀ x l, r = .inl (x, l) → notnum l → (∃ a, s = .inr (a, 32)) ∨ ∃ y m, s = .inl (y, m) ∧ ρ x y ∧ Ins l m
def InsF {α : Type} (ρ : α → α → Prop) (r s : R α) : Prop := ∀ x l, r = .inl (x, l) → (∃ a, s = .inr (a, 32)) ∨ ∃ y m, s = .inl (y, m) ∧ ρ x y ∧ Ins l m
theorem InsF.e {α : Type} {ρ : α → α → Prop} {r s : R α} (h : InsF ρ r s) : InsE ρ r s := fun x l e _ => h x l e
theorem bind_inl {α β : Type} {r : R α} {f : α → List Tok → R β} {z : β × List Tok} (h : bind r f = .inl z) : ∃ x l, r = .inl (x, l) ∧ f x l = .inl z := by
  match r, h with
  | .inl (x, l), h => exact ⟨x, l, rfl, h⟩
/-- Behind an expression. -/
theorem InsE.bindE {α β : Type} {ρ : α → α → Prop} {σ : β → β → Prop} {r s : R α} {f g : α → List Tok → R β} (h : InsE ρ r s) (hn : ∀ x l y l', f x l = .inl (y, l') → notnum l' → notnum l) (hf : ∀ x y l m, r = .inl (x, l) → s = .inl (y, m) → ρ x y → Ins l m → InsE σ (f x l) (g y m)) : InsE σ (bind r f) (bind s g) := by
  intro y l' hy hl
  obtain ⟨x, l, hr, hx⟩ := bind_inl hy
  rcases h x l hr (hn x l y l' hx hl) with ⟨a, ha⟩ | ⟨x2, m, hs, hρ, hi⟩
  · exact Or.inl ⟨a, by rw [ha]; rfl⟩
  · rw [hs]; exact hf x x2 l m hr hs hρ hi y l' hx hl
theorem InsE.bindF {α β : Type} {ρ : α → α → Prop} {σ : β → β → Prop} {r s : R α} {f g : α → List Tok → R β} (h : InsE ρ r s) (hn : ∀ x l z, f x l = .inl z → notnum l) (hf : ∀ x y l m, r = .inl (x, l) → s = .inl (y, m) → ρ x y → Ins l m → InsF σ (f x l) (g y m)) : InsF σ (bind r f) (bind s g) := by
  intro y l' hy
  obtain ⟨x, l, hr, hx⟩ := bind_inl hy
  rcases h x l hr (hn x l _ hx) with ⟨a, ha⟩ | ⟨x2, m, hs, hρ, hi⟩
  · exact Or.inl ⟨a, by rw [ha]; rfl⟩
  · rw [hs]; exact hf x x2 l m hr hs hρ hi y l' hx
/-- Behind what looks at no token beyond its own. -/
theorem InsF.bindE {α β : Type} {ρ : α → α → Prop} {σ : β → β → Prop} {r s : R α} {f g : α → List Tok → R β} (h : InsF ρ r s) (hf : ∀ x y l m, r = .inl (x, l) → s = .inl (y, m) → ρ x y → Ins l m → InsE σ (f x l) (g y m)) : InsE σ (bind r f) (bind s g) := by
  intro y l' hy hl
  obtain ⟨x, l, hr, hx⟩ := bind_inl hy
  rcases h x l hr with ⟨a, ha⟩ | ⟨x2, m, hs, hρ, hi⟩
  · exact Or.inl ⟨a, by rw [ha]; rfl⟩
  · rw [hs]; exact hf x x2 l m hr hs hρ hi y l' hx hl
theorem InsF.bindF {α β : Type} {ρ : α → α → Prop} {σ : β → β → Prop} {r s : R α} {f g : α → List Tok → R β} (h : InsF ρ r s) (hf : ∀ x y l m, r = .inl (x, l) → s = .inl (y, m) → ρ x y → Ins l m → InsF σ (f x l) (g y m)) : InsF σ (bind r f) (bind s g) := by
  intro y l' hy
  obtain ⟨x, l, hr, hx⟩ := bind_inl hy
  rcases h x l hr with ⟨a, ha⟩ | ⟨x2, m, hs, hρ, hi⟩
  · exact Or.inl ⟨a, by rw [ha]; rfl⟩
  · rw [hs]; exact hf x x2 l m hr hs hρ hi y l' hx
theorem InsF.fail {α : Type} {ρ : α → α → Prop} {e : Nat} {l : List Tok} {s : R α} : InsF ρ (fail e l) s := fun x l h => by simp [Px.fail] at h
theorem InsE.fail {α : Type} {ρ : α → α → Prop} {e : Nat} {l : List Tok} {s : R α} : InsE ρ (fail e l) s := InsF.fail.e
theorem InsF.pure {α : Type} {ρ : α → α → Prop} {x y : α} {l m : List Tok} (h : ρ x y) (t : Ins l m) : InsF ρ (.inl (x, l)) (.inl (y, m)) := fun x' l' e => by
  simp at e; obtain ⟨rfl, rfl⟩ := e; exact Or.inr ⟨y, m, rfl, h, t⟩
theorem needK_ins {k : Nat} {x : B} {l m : List Tok} (h : Ins l m) (hk : k ≠ 2) : InsF EqR (needK k x l) (needK k x m) := by
  unfold needK
  split
  · rename_i hs
    obtain ⟨h1, h2⟩ := h.yes hs hk
    rw [if_pos h1]
    exact .pure rfl h2
  · exact .fail
theorem need_ins {x : B} {l m : List Tok} (h : Ins l m) : InsF EqR (need x l) (need x m) := needK_ins h (by decide)
theorem name_ins {l m : List Tok} (h : Ins l m) : InsF TS (name l) (name m) := by
  cases h with
  | nil => exact .fail
  | cons a h =>
    simp only [name, ← a.kind, ← a.text]
    split
    · exact .pure a h
    · exact .fail
  | wrap h2 _ _ _ _ _ h =>
    simp only [name]
    rw [if_neg (by omega)]
    exact .fail
theorem key_ins {l m : List Tok} (h : Ins l m) : InsF EqR (key l) (key m) := by
  unfold key
  rw [h.sees 1 _ (by decide) (by decide), h.sees 1 _ (by decide) (by decide)]
  split
  · rename_i hs; exact .pure rfl (h.yes hs (by decide)).2
  split
  · rename_i hs; exact .pure rfl (h.yes hs (by decide)).2
  · exact .fail
theorem typ_ins : ∀ (k : Nat) {l m : List Tok}, Ins l m → InsF EqR (typ k l) (typ k m)
  | 0, _, _, _ => .fail
  | k + 1, l, m, h => by
    simp only [typ]
    rw [h.sees 1 _ (by decide) (by decide), h.sees 1 _ (by decide) (by decide), h.sees 1 _ (by decide) (by decide), h.sees 4 _ (by decide) (by decide), h.sees 4 _ (by decide) (by decide)]
    split
    · rename_i hs; exact .pure rfl (h.yes hs (by decide)).2
    split
    · rename_i hs; exact .pure rfl (h.yes hs (by decide)).2
    split
    · rename_i hs; exact .pure rfl (h.yes hs (by decide)).2
    split
    · rename_i hs
      exact (typ_ins k (h.yes hs (by decide)).2).bindF fun _ _ _ _ _ _ e h1 => (need_ins h1).bindF fun _ _ _ _ _ _ _ h2 => .pure (by rw [e]) h2
    split
    · rename_i hs
      exact (key_ins (h.yes hs (by decide)).2).bindF fun _ _ _ _ _ _ e h1 => (need_ins h1).bindF fun _ _ _ _ _ _ _ h2 => (typ_ins k h2).bindF fun _ _ _ _ _ _ e3 h3 => (need_ins h3).bindF fun _ _ _ _ _ _ _ h4 => .pure (by rw [e, e3]) h4
    · exact .fail
theorem slot_ins {l m : List Tok} (h : Ins l m) : InsF SlR (slot l) (slot m) :=
  (name_ins h).bindF fun _ _ _ _ _ _ e h1 => (need_ins h1).bindF fun _ _ _ _ _ _ _ h2 => (typ_ins 4 h2).bindF fun _ _ _ _ _ _ e3 h3 => .pure (by simp only [SlR, Sl.er, e.text, e3]) h3
theorem sep_ins {n : Nat} {l m : List Tok} (h : Ins l m) : InsF EqR (sep n l) (sep n m) := by
  unfold sep; split
  · exact .pure rfl h
  · exact need_ins h
theorem Ins.good {l m : List Tok} (h : Ins l m) : Good l → Good m := by
  induction h with
  | nil => exact id
  | cons a h ih =>
    rename_i t u l m
    intro hg
    match l, m, h, hg, ih with
    | [], [], _, hg, _ => exact (show u.kind = 5 from a.kind ▸ (show t.kind = 5 from hg))
    | t2 :: l, u2 :: m, _, hg, ih => exact ⟨a.kind ▸ hg.1, ih hg.2⟩
  | wrap h2 a h4 _ h5 _ h ih =>
    rename_i t u c b l m _ _
    intro hg
    have hk := a.kind
    match l, m, h, hg, ih with
    | [], _, _, hg, _ => exact absurd (show t.kind = 5 from hg) (by omega)
    | t2 :: l, u2 :: m, _, hg, ih => exact ⟨by omega, by omega, by omega, ih hg.2⟩
theorem need_notnum {α : Type} {x : B} {l : List Tok} {f : Unit → List Tok → R α} {z : α × List Tok} (h : bind (need x l) f = .inl z) : notnum l := by
  obtain ⟨y, l1, h1, _⟩ := bind_inl h
  unfold need needK at h1
  split at h1
  · rename_i hs; exact sees_notnum hs (by decide)
  · simp [Px.fail] at h1
/-- A part that looks ahead, over tokens that are good. -/
def InsP {α : Type} (ρ : α → α → Prop) (q : P α) : Prop := ∀ l m, Good l → Ins l m → InsE ρ (q l) (q m)
def InsQ {α : Type} (ρ : α → α → Prop) (q : P α) : Prop := ∀ l m, Good l → Ins l m → InsF ρ (q l) (q m)
theorem items_notnum {α : Type} {q : P α} {f n : Nat} {a : List α} {l : List Tok} {z : List α × List Tok} (hn : 0 < n) (h : items q f n a l = .inl z) : notnum l := by
  match f, h with
  | f + 1, h =>
    simp only [items] at h
    split at h
    · rename_i hs; exact sees_notnum hs (by decide)
    · unfold sep at h
      rw [if_neg (by omega)] at h
      exact need_notnum h
theorem items_ins {α β : Type} {g : α → β} {q : P α} (hq : InsP (fun x y => g x = g y) q) (hok : Ok q) : ∀ (f n : Nat) (a b : List α), a.map g = b.map g → ∀ l m, Good l → Ins l m → l.length < f → ∀ f', m.length < f' → InsF (fun x y => x.map g = y.map g) (items q f n a l) (items q f' n b m)
  | 0, _, _, _, _, _, _, _, _, h, _, _ => by omega
  | f + 1, n, a, b, hab, l, m, hg, h, hf, 0, hf' => by omega
  | f + 1, n, a, b, hab, l, m, hg, h, hf, f' + 1, hf' => by
    have hgm := h.good hg
    simp only [items]
    rw [h.sees 4 _ (by decide) (by decide)]
    split
    · rename_i hs; exact .pure hab (h.yes hs (by decide)).2
    · refine (sep_ins h).bindF fun _ _ l1 m1 er es _ h1 => ?_
      have a1 := (sep_res hg).ok _ _ er
      have b1 := (sep_res hgm).ok _ _ es
      refine (hq _ _ a1.good h1).bindF (fun _ _ _ hz => items_notnum (Nat.succ_pos _) hz) fun x y l2 m2 er2 es2 e h2 => ?_
      have a2 := (hok _ a1.good).ok _ _ er2
      have b2 := (hok _ b1.good).ok _ _ es2
      have := a1.less; have := b1.less; have := a2.less; have := b2.less
      exact items_ins hq hok f (n + 1) _ _ (by simp [hab, e]) _ _ a2.good h2 (by omega) f' (by omega)
theorem levelOf_num {t : Tok} (h : t.kind ≠ 4) : levelOf t = (0, 0) := by unfold levelOf; rw [if_neg h]
theorem chain_notnum {n : Nat} {q : P Ex} {f c : Nat} {a : Ex} {l : List Tok} {y : Ex} {l' : List Tok} (hn : 0 < n) (h : chain n q f c a l = .inl (y, l')) (hl : notnum l') : notnum l := by
  match f, l, h with
  | f + 1, t :: r, h =>
    intro h2
    simp only [chain] at h
    rw [levelOf_num (by omega), if_neg (by simp; omega)] at h
    simp at h
    rw [← h.2] at hl
    exact hl h2
theorem chain_ins {n : Nat} {q : P Ex} (hn : 0 < n) (hq : InsP ExR q) (hok : Ok q) : ∀ (f c : Nat) (a b : Ex), a.er = b.er → ∀ l m, Good l → Ins l m → l.length < f → ∀ f', m.length < f' → notnum l → InsE ExR (chain n q f c a l) (chain n q f' c b m)
  | 0, _, _, _, _, _, _, _, _, h, _, _, _ => by omega
  | f + 1, c, a, b, hab, l, m, hg, h, hf, 0, hf', _ => by omega
  | f + 1, c, a, b, hab, l, m, hg, h, hf, f' + 1, hf', hnl => by
    have hgm := h.good hg
    cases h with
    | nil => exact absurd hg (by simp [Good])
    | wrap h2 => exact absurd h2 hnl
    | cons ht h =>
      rename_i t u l m
      simp only [chain, levelOf_sim ht]
      split
      · rename_i hl
        split
        · exact .fail
        · have hk : t.kind ≠ 5 := by
            intro h5
            rw [levelOf_num (by omega)] at hl; simp at hl; omega
          have hgl := hg.tail hk
          have hgm' := hgm.tail (by rw [← ht.kind]; exact hk)
          refine (hq _ _ hgl h).bindE (fun _ _ _ _ hz hl' => chain_notnum hn hz hl') fun x y l1 m1 er es e h1 => ?_
          have a1 := (hok _ hgl).ok _ _ er
          have b1 := (hok _ hgm').ok _ _ es
          have := a1.less; have := b1.less
          simp only [List.length_cons] at hf hf'
          intro z l' hz hl'
          exact chain_ins hn hq hok f (c + 1) _ _ (er_two hab e) _ _ a1.good h1 (by omega) f' (by omega) (chain_notnum hn hz hl') z l' hz hl'
      · exact (InsF.pure (ρ := ExR) hab (.cons ht h)).e
theorem level_ins {n : Nat} {q : P Ex} (hn : 0 < n) (hq : InsP ExR q) (hok : Ok q) : InsP ExR (level n q) := fun l m hg h => by
  refine (hq _ _ hg h).bindE (fun _ _ _ _ hz hl => chain_notnum hn hz hl) fun x y l1 m1 er es e h1 => ?_
  intro z l' hz hl
  exact chain_ins hn hq hok _ _ _ _ e _ _ ((hok _ hg).ok _ _ er).good h1 (Nat.lt_succ_self _) _ (Nat.lt_succ_self _) (chain_notnum hn hz hl) z l' hz hl
theorem lvl_ins {q : P Ex} (hq : InsP ExR q) (hok : Ok q) : InsP ExR (lvl q) :=
  level_ins (by decide) (level_ins (by decide) (level_ins (by decide) (level_ins (by decide) (level_ins (by decide) hq hok) (level_ok hok (by decide))) (level_ok (level_ok hok (by decide)) (by decide))) (level_ok (level_ok (level_ok hok (by decide)) (by decide)) (by decide))) (level_ok (level_ok (level_ok (level_ok hok (by decide)) (by decide)) (by decide)) (by decide))
theorem ats_notnum {e : P Ex} {f : Nat} {a : Ex} {l : List Tok} {y : Ex} {l' : List Tok} (h : ats e f a l = .inl (y, l')) (hl : notnum l') : notnum l := by
  match f, h with
  | f + 1, h =>
    simp only [ats] at h
    split at h
    · rename_i hs; exact sees_notnum hs (by decide)
    · simp at h; rw [h.2]; exact hl
theorem ats_ins {e : P Ex} (he : InsP ExR e) (hok : Ok e) : ∀ (f : Nat) (a b : Ex), a.er = b.er → ∀ l m, Good l → Ins l m → l.length < f → ∀ f', m.length < f' → InsE ExR (ats e f a l) (ats e f' b m)
  | 0, _, _, _, _, _, _, _, h, _, _ => by omega
  | f + 1, a, b, hab, l, m, hg, h, hf, 0, hf' => by omega
  | f + 1, a, b, hab, l, m, hg, h, hf, f' + 1, hf' => by
    have hgm := h.good hg
    simp only [ats]
    rw [h.sees 4 _ (by decide) (by decide)]
    split
    · rename_i hs
      obtain ⟨hs2, ht⟩ := h.yes hs (by decide)
      have a0 := sees4 hs hg
      have b0 := sees4 hs2 hgm
      refine (he _ _ a0.good ht).bindE (fun _ _ _ _ hz _ => need_notnum hz) fun x y l1 m1 er es e1 h1 => ?_
      have a1 := (hok _ a0.good).ok _ _ er
      have b1 := (hok _ b0.good).ok _ _ es
      refine (need_ins h1).bindE fun _ _ l2 m2 er2 es2 _ h2 => ?_
      have a2 := (need_res a1.good).ok _ _ er2
      have b2 := (need_res b1.good).ok _ _ es2
      have := a0.less; have := b0.less; have := a1.less; have := b1.less; have := a2.less; have := b2.less
      exact ats_ins he hok f _ _ (er_two hab e1) _ _ a2.good h2 (by omega) f' (by omega)
    · exact (InsF.pure (ρ := ExR) hab h).e
/-- A number in round brackets, behind the first of them: it is read as the number, or is too deep. -/
def Wraps (e : P Ex) : Prop := ∀ (u b : Tok) (m : List Tok), u.kind = 2 → b.kind = 4 → b.text = [41] → (∃ a, e (u :: b :: m) = .inr (a, 32)) ∨ e (u :: b :: m) = .inl (.mk 1 0 u.num [] [] u.place, b :: m)
theorem level_wraps {n : Nat} {q : P Ex} (hn : 0 < n) (h : Wraps q) : Wraps (level n q) := by
  intro u b m h2 h4 ht
  rcases h u b m h2 h4 ht with ⟨a, ha⟩ | ha
  · exact Or.inl ⟨a, by simp [level, ha, bind]⟩
  · refine Or.inr ?_
    have hl : levelOf b = (0, 0) := by simp [levelOf, h4, ht]
    simp only [level, ha, bind, chain, hl]
    rw [if_neg (by omega)]
theorem lvl_wraps {q : P Ex} (h : Wraps q) : Wraps (lvl q) := level_wraps (by decide) (level_wraps (by decide) (level_wraps (by decide) (level_wraps (by decide) (level_wraps (by decide) h))))
theorem unary_wraps : ∀ k, Wraps (unary k)
  | 0 => fun u b m _ _ _ => Or.inl ⟨_, rfl⟩
  | k + 1 => fun u b m h2 h4 ht => Or.inr (by simp [unary, sees, primary, ats, bind, h2, h4, ht])
theorem primary_ins {e : P Ex} (he : InsP ExR e) (hok : Ok e) (hw : Wraps e) : InsP ExR (primary e) := by
  intro l m hg h
  have hgm := h.good hg
  cases h with
  | nil => exact .fail
  | wrap h2 a h4 ht h5 ht5 h =>
    rename_i t u c b l m
    intro x l' hx _
    simp only [primary, h2, if_true] at hx
    simp only [Sum.inl.injEq, Prod.mk.injEq] at hx
    obtain ⟨rfl, rfl⟩ := hx
    rcases hw u b m (by rw [← a.kind]; exact h2) h5 ht5 with ⟨d, hd⟩ | hd
    · refine Or.inl ⟨d, ?_⟩
      simp [primary, sees, h4, ht, hd, bind]
    · refine Or.inr ⟨.mk 1 0 u.num [] [] u.place, m, ?_, ?_, h⟩
      · simp [primary, sees, h4, ht, hd, bind, need, needK, h5, ht5]
      · simp [ExR, Ex.er, a.num]
  | cons a h =>
    rename_i t u l m
    have hs : ∀ k x, sees k x (u :: m) = sees k x (t :: l) := fun k x => by simp only [sees, a.kind, a.text]
    simp only [primary, hs, ← a.kind, ← a.text, ← a.num]
    split
    · exact (InsF.pure (ρ := ExR) (by simp [ExR, Ex.er]) h).e
    split
    · exact (InsF.pure (ρ := ExR) (by simp [ExR, Ex.er]) h).e
    split
    · exact (InsF.pure (ρ := ExR) (by simp [ExR, Ex.er]) h).e
    split
    · exact (InsF.pure (ρ := ExR) (by simp [ExR, Ex.er]) h).e
    split
    · rename_i hs4
      have a0 := sees4 hs4 hg
      exact (he _ _ a0.good h).bindE (fun _ _ _ _ hz _ => need_notnum hz) fun x y l1 m1 er es e1 h1 => (need_ins h1).bindE fun _ _ _ _ _ _ _ h2 => (InsF.pure (ρ := ExR) e1 h2).e
    · refine (name_ins (.cons a h)).bindE fun t1 u1 l1 m1 er es e1 h1 => ?_
      have a1 := (name_res hg).ok _ _ er
      have b1 := (name_res hgm).ok _ _ es
      intro x l' hx hl'
      have hnn : notnum l1 := by
        split at hx
        · rename_i hs4; exact sees_notnum hs4 (by decide)
        · simp at hx; rw [hx.2]; exact hl'
      rw [h1.seesN 4 _ (by decide) hnn]
      split at hx
      · rename_i hs4
        rw [if_pos hs4]
        obtain ⟨hs5, ht⟩ := h1.yes hs4 (by decide)
        have a2 := sees4 hs4 a1.good
        have b2 := sees4 hs5 b1.good
        have := a2.less; have := b2.less
        exact ((items_ins (g := Ex.er) he hok _ _ _ _ rfl _ _ a2.good ht (by omega) _ (by omega)).bindE fun xs ys _ _ _ _ e2 h2 => (InsF.pure (ρ := ExR) (by rw [e1.text]; exact er_list e2) h2).e) x l' hx hl'
      · rename_i hs4
        rw [if_neg hs4]
        exact (InsF.pure (ρ := ExR) (by simp [ExR, Ex.er, e1.text]) h1).e x l' hx hl'
theorem unary_ins : ∀ k, InsP ExR (unary k)
  | 0 => fun _ _ _ _ => .fail
  | k + 1 => by
    intro l m hg h
    have hgm := h.good hg
    simp only [unary]
    rw [h.sees 4 _ (by decide) (by decide), h.sees 4 _ (by decide) (by decide)]
    split
    · rename_i hs
      exact (unary_ins k _ _ (sees4 hs hg).good (h.yes hs (by decide)).2).bindE (fun _ _ _ _ hz hl => by simp at hz; rw [hz.2]; exact hl) fun x y _ _ _ _ e h1 => (InsF.pure (ρ := ExR) (er_one e) h1).e
    split
    · rename_i hs
      exact (unary_ins k _ _ (sees4 hs hg).good (h.yes hs (by decide)).2).bindE (fun _ _ _ _ hz hl => by simp at hz; rw [hz.2]; exact hl) fun x y _ _ _ _ e h1 => (InsF.pure (ρ := ExR) (er_one e) h1).e
    · have hok := lvl_ok (unary_ok k)
      have hi := lvl_ins (unary_ins k) (unary_ok k)
      refine (primary_ins hi hok (lvl_wraps (unary_wraps k)) _ _ hg h).bindE (fun _ _ _ _ hz hl => ats_notnum hz hl) fun x y l1 m1 er es e h1 => ?_
      exact ats_ins hi hok _ _ _ e _ _ ((primary_ok hok _ hg).ok _ _ er).good h1 (Nat.lt_succ_self _) _ (Nat.lt_succ_self _)
theorem expr_ins (k : Nat) : InsP ExR (expr k) := lvl_ins (unary_ins k) (unary_ok k)
theorem opt_ins {e : P Ex} (he : InsP ExR e) (hok : Ok e) : InsQ ExsR (opt e) := by
  intro l m hg h
  have hgm := h.good hg
  unfold opt
  rw [h.sees 4 _ (by decide) (by decide)]
  split
  · rename_i hs
    exact (he _ _ (sees4 hs hg).good (h.yes hs (by decide)).2).bindF (fun _ _ _ hz => need_notnum hz) fun x y _ _ _ _ e1 h1 => (need_ins h1).bindF fun _ _ _ _ _ _ _ h2 => .pure (by simp [ExsR, e1]) h2
  · exact .pure rfl h
theorem other_ins {b : P (List St)} (hb : InsQ StsR b) : InsQ StsR (other b) := by
  intro l m hg h
  unfold other
  rw [h.sees 1 _ (by decide) (by decide)]
  split
  · rename_i hs
    exact hb _ _ (sees1 hs hg).good (h.yes hs (by decide)).2
  · exact .pure rfl h
/-- A part that begins with no number. -/
def NoNum {α : Type} (q : P α) : Prop := ∀ l z, q l = .inl z → notnum l
theorem block_nonum : ∀ k, NoNum (block k)
  | 0, l, z, h => by simp [block, Px.fail] at h
  | k + 1, l, z, h => need_notnum h
theorem bind_nonum {α β : Type} {q : P α} (hq : NoNum q) {l : List Tok} {f : α → List Tok → R β} {z : β × List Tok} (h : bind (q l) f = .inl z) : notnum l := by
  obtain ⟨x, l1, h1, _⟩ := bind_inl h
  exact hq l _ h1
theorem stmt_ins {e : P Ex} {b : P (List St)} (he : InsP ExR e) (hok : Ok e) (hb : InsQ StsR b) (hbo : Ok b) (hbn : NoNum b) : InsQ StR (stmt e b) := by
  intro l m hg h
  have hgm := h.good hg
  simp only [stmt]
  rw [h.sees 1 _ (by decide) (by decide), h.sees 1 _ (by decide) (by decide), h.sees 1 _ (by decide) (by decide), h.sees 1 _ (by decide) (by decide), h.sees 1 _ (by decide) (by decide), h.sees 1 _ (by decide) (by decide)]
  split
  · rename_i hs
    have g0 := (sees1 hs hg).good
    refine (name_ins (h.yes hs (by decide)).2).bindF fun _ _ _ _ r0 _ e0 h0 => (need_ins h0).bindF fun _ _ _ _ r1 _ _ h1 => ?_
    have g1 := ((name_res g0).ok _ _ r0).good
    have g2 := ((need_res g1).ok _ _ r1).good
    exact (he _ _ g2 h1).bindF (fun _ _ _ hz => need_notnum hz) fun _ _ _ _ _ _ e2 h2 => (need_ins h2).bindF fun _ _ _ _ _ _ _ h3 => .pure (er_st e0.text (by simp [e2]) rfl rfl) h3
  split
  · rename_i hs
    have g0 := (sees1 hs hg).good
    refine (name_ins (h.yes hs (by decide)).2).bindF fun _ _ _ _ r0 _ e0 h0 => ?_
    have g1 := ((name_res g0).ok _ _ r0).good
    refine (opt_ins he hok _ _ g1 h0).bindF fun _ _ _ _ r1 _ e1 h1 => ?_
    have g2 := ((opt_res hok g1).ok _ _ r1).good
    refine (need_ins h1).bindF fun _ _ _ _ r2 _ _ h2 => ?_
    have g3 := ((need_res g2).ok _ _ r2).good
    exact (he _ _ g3 h2).bindF (fun _ _ _ hz => need_notnum hz) fun _ _ _ _ _ _ e3 h3 => (need_ins h3).bindF fun _ _ _ _ _ _ _ h4 => .pure (er_st e0.text (by simp [e1, e3]) rfl rfl) h4
  split
  · rename_i hs
    have g0 := (sees1 hs hg).good
    refine (name_ins (h.yes hs (by decide)).2).bindF fun _ _ _ _ r0 _ e0 h0 => (need_ins h0).bindF fun _ _ _ _ r1 _ _ h1 => ?_
    have g1 := ((name_res g0).ok _ _ r0).good
    have g2 := ((need_res g1).ok _ _ r1).good
    exact (he _ _ g2 h1).bindF (fun _ _ _ hz => need_notnum hz) fun _ _ _ _ _ _ e2 h2 => (need_ins h2).bindF fun _ _ _ _ _ _ _ h3 => (need_ins h3).bindF fun _ _ _ _ _ _ _ h4 => .pure (er_st e0.text (by simp [e2]) rfl rfl) h4
  split
  · rename_i hs
    have g0 := (sees1 hs hg).good
    refine (he _ _ g0 (h.yes hs (by decide)).2).bindF (fun _ _ _ hz => bind_nonum hbn hz) fun _ _ _ _ r0 _ e0 h0 => ?_
    have g1 := ((hok _ g0).ok _ _ r0).good
    refine (hb _ _ g1 h0).bindF fun _ _ _ _ r1 _ e1 h1 => ?_
    have g2 := ((hbo _ g1).ok _ _ r1).good
    exact (other_ins hb _ _ g2 h1).bindF fun _ _ _ _ _ _ e2 h2 => .pure (er_st rfl (by simp [e0]) e1 e2) h2
  split
  · rename_i hs
    have g0 := (sees1 hs hg).good
    refine (name_ins (h.yes hs (by decide)).2).bindF fun _ _ _ _ r0 _ e0 h0 => (needK_ins h0 (by decide)).bindF fun _ _ _ _ r1 _ _ h1 => ?_
    have g1 := ((name_res g0).ok _ _ r0).good
    have g2 := ((needK_res g1 (by decide)).ok _ _ r1).good
    refine (he _ _ g2 h1).bindF (fun _ _ _ hz => bind_nonum hbn hz) fun _ _ _ _ r2 _ e2 h2 => ?_
    have g3 := ((hok _ g2).ok _ _ r2).good
    exact (hb _ _ g3 h2).bindF fun _ _ _ _ _ _ e3 h3 => .pure (er_st e0.text (by simp [e2]) e3 rfl) h3
  split
  · rename_i hs
    have g0 := (sees1 hs hg).good
    exact (he _ _ g0 (h.yes hs (by decide)).2).bindF (fun _ _ _ hz => need_notnum hz) fun _ _ _ _ _ _ e0 h0 => (need_ins h0).bindF fun _ _ _ _ _ _ _ h1 => .pure (er_st rfl (by simp [e0]) rfl rfl) h1
  · exact .fail
theorem stmts_ins {q : P St} (hq : InsQ StR q) (hok : Ok q) : ∀ (f : Nat) (a b : List St), a.map St.er = b.map St.er → ∀ l m, Good l → Ins l m → l.length < f → ∀ f', m.length < f' → InsF StsR (stmts q f a l) (stmts q f' b m)
  | 0, _, _, _, _, _, _, _, h, _, _ => by omega
  | f + 1, a, b, hab, l, m, hg, h, hf, 0, hf' => by omega
  | f + 1, a, b, hab, l, m, hg, h, hf, f' + 1, hf' => by
    have hgm := h.good hg
    simp only [stmts]
    rw [h.sees 4 _ (by decide) (by decide)]
    split
    · rename_i hs; exact .pure hab (h.yes hs (by decide)).2
    · refine (hq _ _ hg h).bindF fun x y l1 m1 er es e h1 => ?_
      have a1 := (hok _ hg).ok _ _ er
      have b1 := (hok _ hgm).ok _ _ es
      have := a1.less; have := b1.less
      exact stmts_ins hq hok f _ _ (by simp [hab, e]) _ _ a1.good h1 (by omega) f' (by omega)
theorem block_ins : ∀ k, InsQ StsR (block k)
  | 0 => fun _ _ _ _ => .fail
  | k + 1 => fun l m hg h => (need_ins h).bindF fun _ _ _ _ r0 _ _ h1 => by
    have g1 := ((need_res hg).ok _ _ r0).good
    exact stmts_ins (stmt_ins (expr_ins k) (expr_ok k) (block_ins k) (block_ok k) (block_nonum k)) (stmt_ok (expr_ok k) (block_ok k)) _ _ _ rfl _ _ g1 h1 (Nat.lt_succ_self _) _ (Nat.lt_succ_self _)
theorem function_ins (on : Bool) : InsQ (fun x y => x.er = y.er) (function on) := fun l m hg h =>
  (name_ins h).bindF fun _ _ _ _ r0 _ e0 h0 => (need_ins h0).bindF fun _ _ _ _ r1 _ _ h1 => by
    have g0 := ((name_res hg).ok _ _ r0).good
    have g1 := ((need_res g0).ok _ _ r1).good
    refine (items_ins (g := Sl.er) (fun l m _ h => (slot_ins h).e) slot_ok _ _ _ _ rfl _ _ g1 h1 (Nat.lt_succ_self _) _ (Nat.lt_succ_self _)).bindF fun _ _ _ _ r2 _ e2 h2 => (need_ins h2).bindF fun _ _ _ _ r3 _ _ h3 => (typ_ins 4 h3).bindF fun _ _ _ _ r4 _ e4 h4 => ?_
    have g2 := ((items_res slot_ok _ _ _ _ g1 (Nat.lt_succ_self _)).ok _ _ r2).good
    have g3 := ((need_res g2).ok _ _ r3).good
    have g4 := ((typ_ok 4 _ g3).ok _ _ r4).good
    exact (block_ins 24 _ _ g4 h4).bindF fun _ _ _ _ _ _ e5 h5 => .pure (by simp [Fn.er, e0.text, e2, e4, ersS_map, e5]) h5
theorem parts_ins : ∀ (f : Nat) (p q : Pr), p.er = q.er → ∀ l m, Good l → Ins l m → l.length < f → ∀ f', m.length < f' → InsF (fun x y => x.er = y.er) (parts f p l) (parts f' q m)
  | 0, _, _, _, _, _, _, _, h, _, _ => by omega
  | f + 1, p, q, hpq, l, m, hg, h, hf, 0, hf' => by omega
  | f + 1, p, q, hpq, l, m, hg, h, hf, f' + 1, hf' => by
    have hgm := h.good hg
    cases h with
    | nil => exact absurd hg (by simp [Good])
    | wrap h2 =>
      simp only [parts, sees, h2]
      exact .fail
    | cons ht h =>
      rename_i t u l m
      have hs : ∀ k x, sees k x (u :: m) = sees k x (t :: l) := fun k x => by simp only [sees, ht.kind, ht.text]
      have hp : p.version = q.version ∧ p.states.map Sl.er = q.states.map Sl.er ∧ p.fns.map Fn.er = q.fns.map Fn.er := by simpa [Pr.er] using hpq
      simp only [List.length_cons] at hf hf'
      simp only [parts, hs, ← ht.kind]
      split
      · exact .pure hpq (.cons ht h)
      rename_i hk
      have gl := hg.tail hk
      have gm := hgm.tail (by rw [← ht.kind]; exact hk)
      split
      · refine (slot_ins h).bindF fun _ _ _ _ r0 s0 e0 h0 => (need_ins h0).bindF fun _ _ _ _ r1 s1 _ h1 => ?_
        have a0 := (slot_ok _ gl).ok _ _ r0
        have a1 := (need_res a0.good).ok _ _ r1
        have b0 := (slot_ok _ gm).ok _ _ s0
        have b1 := (need_res b0.good).ok _ _ s1
        have := a0.less; have := a1.less; have := b0.less; have := b1.less
        exact parts_ins f _ _ (by simp [Pr.er, hp.1, hp.2.1, hp.2.2, e0]) _ _ a1.good h1 (by omega) f' (by omega)
      split
      · refine (function_ins _ _ _ gl h).bindF fun _ _ _ _ r0 s0 e0 h0 => ?_
        have a0 := (function_ok _ _ gl).ok _ _ r0
        have b0 := (function_ok _ _ gm).ok _ _ s0
        have := a0.less; have := b0.less
        exact parts_ins f _ _ (by simp [Pr.er, hp.1, hp.2.1, hp.2.2, e0]) _ _ a0.good h0 (by omega) f' (by omega)
      split
      · refine (function_ins _ _ _ gl h).bindF fun _ _ _ _ r0 s0 e0 h0 => ?_
        have a0 := (function_ok _ _ gl).ok _ _ r0
        have b0 := (function_ok _ _ gm).ok _ _ s0
        have := a0.less; have := b0.less
        exact parts_ins f _ _ (by simp [Pr.er, hp.1, hp.2.1, hp.2.2, e0]) _ _ a0.good h0 (by omega) f' (by omega)
      · exact .fail
/-- Whole programs: brackets around numbers behind the version's. -/
theorem program_ins {t0 t1 u0 u1 : Tok} {l m : List Tok} (h0 : TS t0 u0) (h1 : TS t1 u1) (h : Ins l m) (hg : Good (t0 :: t1 :: l)) : InsF (fun x y => x.er = y.er) (program (t0 :: t1 :: l)) (program (u0 :: u1 :: m)) := by
  refine (needK_ins (.cons h0 (.cons h1 h)) (by decide)).bindF fun _ _ l1 m1 r0 s0 _ _ => ?_
  have e1 : l1 = t1 :: l := by
    unfold needK at r0; split at r0
    · simp at r0; exact r0.symm
    · simp [Px.fail] at r0
  have e2 : m1 = u1 :: m := by
    unfold needK at s0; split at s0
    · simp at s0; exact s0.symm
    · simp [Px.fail] at s0
  subst e1; subst e2
  have g0 := ((needK_res hg (by decide)).ok _ _ r0).good
  have hnum : InsF EqR (number (t1 :: l)) (number (u1 :: m)) := by
    simp only [number, ← h1.kind, ← h1.num]
    split
    · exact .pure rfl h
    · exact .fail
  refine hnum.bindF fun _ _ _ _ r1 _ e1 h2 => (need_ins h2).bindF fun _ _ _ _ r2 _ _ h3 => ?_
  have g1 := ((number_res g0).ok _ _ r1).good
  have g2 := ((need_res g1).ok _ _ r2).good
  exact parts_ins _ _ _ (by simp [Pr.er, e1]) _ _ g2 h3 (Nat.lt_succ_self _) _ (Nat.lt_succ_self _)
end Go.Proofs.YtifebbdjdllfpaaGreatDoor.Px
/- A text anew from a text's tokens, with blanks and notes between, and round brackets around numbers where they are asked for. Plain mathematics. -/
namespace Go.Proofs.YtifebbdjdllfpaaGreatDoor
open Px (TS TSim Ins)
set_option linter.unusedSimpArgs false
set_option linter.unusedVariables false

theorem quote_plain : ∀ (N : Nat) (l : List UInt8) (o : Nat) (acc : List UInt8) (k : Nat) (t : List UInt8) (m n : Nat), l.length ≤ N → Lx.quoteR l o acc = Lx.R.ok k t m n → acc.all Lx.isPlain = true → plainB t = true
  | N, [], o, acc, k, t, m, n, _, h, _ => by simp [Lx.quoteR, Lx.R.bad, Lx.R.ok] at h
  | 0, c :: r, o, acc, k, t, m, n, hN, h, _ => by simp at hN
  | N + 1, c :: r, o, acc, k, t, m, n, hN, h, ha => by
    rw [quoteR_cons] at h
    simp only [List.length_cons] at hN
    split at h
    · split at h
      · rename_i h256
        simp [Lx.R.ok] at h
        rw [← h.2.1]
        simp only [plainB, ha, Bool.and_true, decide_eq_true_eq]; exact h256
      · simp [Lx.R.ok, Lx.R.bad] at h
    · split at h
      · split at h
        · simp [Lx.R.ok, Lx.R.bad] at h
        · split at h
          · rename_i d r' hd
            refine quote_plain N r' (o + 2) _ k t m n (by simp at hN; omega) h ?_
            have : Lx.isPlain d = true := by
              simp only [Lx.isEsc, Bool.or_eq_true, beq_iff_eq] at hd
              rcases hd with rfl | rfl <;> decide
            simp [ha, this]
          · simp [Lx.R.ok, Lx.R.bad] at h
      · split at h
        · rename_i hp
          exact quote_plain N r (o + 1) _ k t m n (by omega) h (by simp [ha, hp])
        · simp [Lx.R.ok, Lx.R.bad] at h
theorem tok_text {dot : Bool} {x : UInt8} {r : List UInt8} {k : Nat} {t : List UInt8} {m n : Nat} (h : Lx.tokR dot (x :: r) = Lx.R.ok k t m n) : (k = 3 ∧ m = 0 ∧ plainB t = true) ∨ (k ≠ 3 ∧ t = (x :: r).take n) := by
  simp only [Lx.tokR] at h
  split at h
  · unfold Lx.nameR at h
    split at h
    · simp only [Lx.R.ok, Sum.inl.injEq, Prod.mk.injEq] at h
      obtain ⟨rfl, rfl, _, rfl⟩ := h
      exact Or.inr ⟨by decide, (Lx.tw_take _).symm⟩
    · simp [Lx.R.ok, Lx.R.bad] at h
  · split at h
    · unfold Lx.numberR at h
      split at h
      · simp [Lx.R.ok, Lx.R.bad] at h
      · split at h
        · simp only [Lx.R.ok, Sum.inl.injEq, Prod.mk.injEq] at h
          obtain ⟨rfl, rfl, _, rfl⟩ := h
          exact Or.inr ⟨by decide, (Lx.tw_take _).symm⟩
        · simp [Lx.R.ok, Lx.R.bad] at h
    · split at h
      · have hk := quote_kinds r.length r 1 [] k t m n (Nat.le_refl _) h
        exact Or.inl ⟨hk.1, hk.2.1, quote_plain r.length r 1 [] k t m n (Nat.le_refl _) h rfl⟩
      · unfold Lx.markR at h
        split at h
        · simp [Lx.R.ok, Lx.R.bad] at h
        · simp only [Lx.R.ok, Sum.inl.injEq, Prod.mk.injEq] at h
          obtain ⟨rfl, rfl, _, rfl⟩ := h
          exact Or.inr ⟨by decide, rfl⟩
/-- How a token is written. -/
def word (k : Nat) (t : List UInt8) : List UInt8 := if k = 3 then quoteT t else t
/-- Behind it stands nothing that can go on with it. -/
def Shuts (z : List UInt8) : Prop := ∀ c, z.head? = some c → Sep c
/-- A token that is written is read as it, whatever shuts it. -/
structure Wf (dot : Bool) (k : Nat) (t : List UInt8) (m : Nat) : Prop where
  head : ∃ y r, word k t = y :: r ∧ Lx.isBlank y = false ∧ y ≠ 35
  reads : ∀ z, Shuts z → Lx.tokR dot (word k t ++ z) = Lx.R.ok k t m (word k t).length
theorem tok_wf {dot : Bool} {x : UInt8} {r : List UInt8} {k : Nat} {t : List UInt8} {m n : Nat} (h : Lx.tokR dot (x :: r) = Lx.R.ok k t m n) (hx : Lx.isBlank x = false ∧ x ≠ 35) : Wf dot k t m := by
  have hkn := tok_kinds h
  rcases tok_text h with ⟨rfl, rfl, hp⟩ | ⟨hk, ht⟩
  · have hw : word 3 t = 34 :: (escT t ++ [34]) := rfl
    refine ⟨⟨34, _, hw, by decide, by decide⟩, fun z hz => ?_⟩
    simp only [plainB, Bool.and_eq_true, decide_eq_true_eq] at hp
    have ht : Lx.tokR dot (34 :: (escT t ++ [34])) = Lx.R.ok 3 t 0 (word 3 t).length := by
      have e : Lx.tokR dot (34 :: (escT t ++ [34])) = Lx.quoteR (escT t ++ [34]) 1 [] := by simp [Lx.tokR, Lx.isLetter, Lx.isDigit]
      rw [e, quote_back t 1 [] hp.2]
      simp only [List.nil_append]
      rw [if_pos hp.1, hw]
      simp only [List.length_cons, List.length_append, List.length_nil]
      rw [show 1 + (escT t).length + 1 = (escT t).length + (0 + 1) + 1 by omega]
    refine tok_sep ht ?_ (Or.inr fun c hc => ?_)
    · rw [← hw, List.take_append_of_le_length (Nat.le_refl _)]
    · rw [List.getElem?_append_right (Nat.le_refl _), Nat.sub_self] at hc
      exact hz c (by rw [List.head?_eq_getElem?]; exact hc)
  · have hw : word k t = (x :: r).take n := by unfold word; rw [if_neg hk, ht]
    have hlen : ((x :: r).take n).length = n := by simp only [List.length_take, List.length_cons]; omega
    obtain ⟨n', rfl⟩ : ∃ n', n = n' + 1 := ⟨n - 1, by omega⟩
    refine ⟨⟨x, r.take n', by rw [hw]; rfl, hx.1, hx.2⟩, fun z hz => ?_⟩
    rw [hw, hlen]
    refine tok_sep h ?_ (Or.inr fun c hc => ?_)
    · rw [List.take_append_of_le_length (by omega), List.take_take, Nat.min_self]
    · rw [List.getElem?_append_right (by omega), hlen, Nat.sub_self] at hc
      exact hz c (by rw [List.head?_eq_getElem?]; exact hc)
theorem wf_all (dot : Bool) (l : List UInt8) : ∀ (N i c : Nat) (ts : List Lx.Tok), l.length - i < N → i ≤ l.length → Lx.lexGo dot (l.drop i) i c = .inl ts → ∀ t ∈ ts, (t.kind = 5 ∧ t.text = [] ∧ t.num = 0) ∨ Wf dot t.kind t.text t.num := by
  intro N
  induction N with
  | zero => intro i c ts hN; omega
  | succ N ih =>
    intro i c ts hN hi h
    obtain ⟨u, rest, rfl, hpl, hc, hcase⟩ := first_tok h
    have hkl := Lx.skip_le false (l.drop i)
    simp only [List.length_drop] at hkl
    rcases hcase with ⟨hd, rfl, rfl⟩ | ⟨x, r, k, t, m, n, hd, ht, rfl, hrest⟩
    · intro t ht
      simp at ht
      subst ht
      exact Or.inl ⟨rfl, rfl, rfl⟩
    · have hkn := tok_kinds ht
      have hlen := congrArg List.length hd
      simp at hlen
      rw [List.drop_drop, ← Nat.add_assoc] at hrest
      have hw := ih (i + Lx.skipF false (l.drop i) + n) (c + 1) rest (by omega) (by omega) hrest
      intro t2 ht2
      simp only [List.mem_cons] at ht2
      rcases ht2 with rfl | ht2
      · exact Or.inr (tok_wf ht (Lx.skip_head false (l.drop i) x (by rw [hd]; rfl)))
      · exact hw t2 ht2

/-- The text anew: p tells the blanks ahead of each token, a whether brackets are put around it. -/
def sp (p : Nat → List UInt8) (a : Nat → Lx.Tok → Bool) : Nat → List Lx.Tok → List UInt8
  | _, [] => []
  | j, t :: rest => p j ++ ((if a j t then 40 :: word t.kind t.text ++ [41] else word t.kind t.text) ++ sp p a (j + 1) rest)
inductive InsJ (a : Nat → Lx.Tok → Bool) : Nat → List Lx.Tok → List Lx.Tok → Prop
  | nil {j : Nat} : InsJ a j [] []
  | cons {j : Nat} {t u : Lx.Tok} {l m : List Lx.Tok} : a j t = false → TS t u → InsJ a (j + 1) l m → InsJ a j (t :: l) (u :: m)
  | wrap {j : Nat} {t u b c : Lx.Tok} {l m : List Lx.Tok} : a j t = true → TS t u → b.kind = 4 → b.text = [40] → c.kind = 4 → c.text = [41] → InsJ a (j + 1) l m → InsJ a j (t :: l) (b :: u :: c :: m)
theorem InsJ.ins {a : Nat → Lx.Tok → Bool} {j : Nat} {l m : List Lx.Tok} (h : InsJ a j l m) (ha : ∀ j t, a j t = true → t.kind = 2) : Ins l m := by
  induction h with
  | nil => exact .nil
  | cons _ h _ ih => exact .cons h ih
  | wrap h1 h h2 h3 h4 h5 _ ih => exact .wrap (ha _ _ h1) h h2 h3 h4 h5 ih
theorem InsJ.sim {a : Nat → Lx.Tok → Bool} {j : Nat} {l m : List Lx.Tok} (h : InsJ a j l m) (ha : ∀ j t, a j t = false) : TSim l m := by
  induction h with
  | nil => exact .nil
  | cons _ h _ ih => exact .cons h ih
  | wrap h1 => rw [ha] at h1; simp at h1
theorem open_tok (dot : Bool) (z : List UInt8) : Lx.tokR dot (40 :: z) = Lx.R.ok 4 [40] 0 1 := by
  have h2 : Lx.two (40 :: z) = false := by rcases z with _ | ⟨c, z⟩ <;> simp [Lx.two]
  have h1 : Lx.one dot 40 = true := by cases dot <;> decide
  simp [Lx.tokR, Lx.isLetter, Lx.isDigit, Lx.markR, Lx.markN, h2, h1]
theorem shut_tok (dot : Bool) (z : List UInt8) : Lx.tokR dot (41 :: z) = Lx.R.ok 4 [41] 0 1 := by
  have h2 : Lx.two (41 :: z) = false := by rcases z with _ | ⟨c, z⟩ <;> simp [Lx.two]
  have h1 : Lx.one dot 41 = true := by cases dot <;> decide
  simp [Lx.tokR, Lx.isLetter, Lx.isDigit, Lx.markR, Lx.markN, h2, h1]
theorem sep_blank {c : UInt8} (h : Lx.isBlank c = true ∨ c = 35) : Sep c := part_no h
/-- One token more, where nothing but blanks g stand ahead. -/
theorem lex_one {dot : Bool} {g z : List UInt8} {k : Nat} {t : List UInt8} {m i c n : Nat} {y : UInt8} {r : List UInt8} (hg : ∀ Y, Lx.skipF false (g ++ Y) = g.length + Lx.skipF false Y) (hy : Lx.isBlank y = false ∧ y ≠ 35) (ht : Lx.tokR dot (y :: r ++ z) = Lx.R.ok k t m (y :: r).length) :
    Lx.lexGo dot (g ++ (y :: r ++ z)) i c = if c < 4096 then Lx.Out.pre [⟨k, t, m, i + g.length⟩] (Lx.lexGo dot z (i + g.length + (y :: r).length) (c + 1)) else .inr (i + g.length, 36) := by
  have hs : Lx.skipF false (g ++ (y :: r ++ z)) = g.length := by
    rw [hg, Lx.skip_none (fun c hc => by simp at hc; subst hc; exact hy)]; omega
  have hd : (g ++ (y :: r ++ z)).drop g.length = y :: (r ++ z) := by simp
  rw [Lx.lexGo_ok (by rw [hs]; exact hd) ht (by simp), hs]
  have e : (g ++ (y :: r ++ z)).drop (g.length + (y :: r).length) = z := by
    rw [← List.drop_drop, hd, show y :: (r ++ z) = (y :: r) ++ z from rfl, List.drop_append_of_le_length (Nat.le_refl _), List.drop_length, List.nil_append]
  rw [e]
theorem lex_sp (dot : Bool) (p : Nat → List UInt8) (a : Nat → Lx.Tok → Bool) (hp : ∀ j, Pad (p j) ∧ p j ≠ []) (ha : ∀ j t, a j t = true → t.kind = 2) : ∀ (ts : List Lx.Tok) (j i c : Nat), Px.Good ts → (∀ t ∈ ts, (t.kind = 5 ∧ t.text = [] ∧ t.num = 0) ∨ Wf dot t.kind t.text t.num) →
    (∃ x, Lx.lexGo dot (sp p a j ts) i c = .inr (x, 36) ∧ ((∀ j t, a j t = false) → 4096 < c + ts.length)) ∨ ∃ us, Lx.lexGo dot (sp p a j ts) i c = .inl us ∧ InsJ a j ts us
  | [], j, i, c, hg, _ => by exact absurd hg (by simp [Px.Good])
  | [t], j, i, c, hg, hw => by
    have h5 : t.kind = 5 := hg
    have ha0 : a j t = false := by
      rcases h : a j t with _ | _
      · rfl
      · have := ha j t h; omega
    have hx : t.text = [] ∧ t.num = 0 := by
      rcases hw t (by simp) with h | h
      · exact h.2
      · have h1 := h.reads [] (fun c hc => by simp at hc)
        obtain ⟨y, r, hy, _⟩ := h.head
        rw [List.append_nil, hy] at h1
        have := (tok_kinds h1).1
        omega
    have e : sp p a j [t] = p j := by
      simp only [sp, ha0, Bool.false_eq_true, if_false, List.append_nil]
      unfold word
      rw [if_neg (by omega), hx.1, List.append_nil]
    rw [e]
    have hs := (hp j).1.all false
    rw [Lx.lexGo_end (by rw [hs]; exact List.drop_length)]
    by_cases hc : c < 4096
    · rw [if_pos hc]
      refine Or.inr ⟨_, rfl, .cons ha0 ⟨h5, hx.1, hx.2⟩ .nil⟩
    · rw [if_neg hc]
      exact Or.inl ⟨_, rfl, fun _ => by simp; omega⟩
  | t :: u :: rest, j, i, c, hg, hw => by
    have hk5 : t.kind ≠ 5 := hg.1
    have hwt : Wf dot t.kind t.text t.num := by
      rcases hw t (by simp) with h | h
      · exact absurd h.1 hk5
      · exact h
    obtain ⟨y, r, hy, hyb⟩ := hwt.head
    have ih := fun i' c' => lex_sp dot p a hp ha (u :: rest) (j + 1) i' c' hg.2 (fun t2 ht2 => hw t2 (by simp at ht2 ⊢; exact Or.inr ht2))
    have hS : Shuts (sp p a (j + 1) (u :: rest)) := by
      intro b hb
      simp only [sp] at hb
      rcases hpj : p (j + 1) with _ | ⟨b', q⟩
      · exact absurd hpj (hp (j + 1)).2
      · rw [hpj] at hb
        simp at hb
        subst hb
        exact sep_blank ((hp (j + 1)).1.head b' (by rw [hpj]; rfl))
    generalize hSS : sp p a (j + 1) (u :: rest) = S at *
    rcases hab : a j t with _ | _
    · have e : sp p a j (t :: u :: rest) = p j ++ (y :: r ++ S) := by
        rw [sp, hab, hSS, ← hy]; rfl
      have ht := hwt.reads S hS
      rw [hy] at ht
      rw [e, lex_one (n := 0) (hp j).1.shut hyb ht]
      by_cases hc : c < 4096
      · rw [if_pos hc]
        rcases ih (i + (p j).length + (y :: r).length) (c + 1) with ⟨x, hx, hxx⟩ | ⟨us, hu, hi⟩
        · exact Or.inl ⟨x, by rw [hx]; rfl, fun hz => by have := hxx hz; simp at this ⊢; omega⟩
        · exact Or.inr ⟨⟨t.kind, t.text, t.num, i + (p j).length⟩ :: us, by rw [hu]; rfl, .cons hab ⟨rfl, rfl, rfl⟩ hi⟩
      · rw [if_neg hc]
        exact Or.inl ⟨_, rfl, fun _ => by simp; omega⟩
    · have hk2 := ha j t hab
      have e : sp p a j (t :: u :: rest) = p j ++ (40 :: [] ++ ([] ++ (y :: r ++ ([] ++ (41 :: [] ++ S))))) := by
        rw [sp, hab, hSS, ← hy]; simp
      have hnil : ∀ Y, Lx.skipF false ([] ++ Y) = ([] : List UInt8).length + Lx.skipF false Y := fun Y => by simp
      have ht := hwt.reads (41 :: S) (fun c hc => by simp at hc; subst hc; exact ⟨by decide, by decide, by decide, by decide, by decide⟩)
      rw [hy] at ht
      have hno : ¬ (∀ j t, a j t = false) := fun hz => by rw [hz] at hab; simp at hab
      rw [e, lex_one (n := 0) (hp j).1.shut ⟨by decide, by decide⟩ (open_tok dot _)]
      by_cases hc : c < 4096
      · rw [if_pos hc, lex_one (n := 0) hnil hyb (by simpa using ht)]
        by_cases hc1 : c + 1 < 4096
        · rw [if_pos hc1, lex_one (n := 0) hnil ⟨by decide, by decide⟩ (shut_tok dot _)]
          by_cases hc2 : c + 1 + 1 < 4096
          · rw [if_pos hc2]
            generalize i + (p j).length + ([(40 : UInt8)]).length = i1
            rcases ih (i1 + (y :: r).length + ([] : List UInt8).length + ([(41 : UInt8)]).length) (c + 1 + 1 + 1) with ⟨x, hx, hxx⟩ | ⟨us, hu, hi⟩
            · exact Or.inl ⟨x, by rw [hx]; rfl, fun hz => absurd hz hno⟩
            · exact Or.inr ⟨⟨4, [40], 0, i + (p j).length⟩ :: ⟨t.kind, t.text, t.num, i1⟩ :: ⟨4, [41], 0, i1 + (y :: r).length + ([] : List UInt8).length⟩ :: us, by rw [hu]; rfl, .wrap hab ⟨rfl, rfl, rfl⟩ rfl rfl rfl rfl hi⟩
          · rw [if_neg hc2]
            exact Or.inl ⟨_, rfl, fun hz => absurd hz hno⟩
        · rw [if_neg hc1]
          exact Or.inl ⟨_, rfl, fun hz => absurd hz hno⟩
      · rw [if_neg hc]
        exact Or.inl ⟨_, rfl, fun hz => absurd hz hno⟩
end Go.Proofs.YtifebbdjdllfpaaGreatDoor
