/- Quote, the program's and the document's. -/
import Derived.Test.YtnmdnjdibdmodaaGreatDoorWords
namespace Go.Proofs.YtnmdnjdibdmodaaGreatDoor
open Go.RowKit
set_option linter.unusedSimpArgs false
set_option linter.unusedVariables false

def escT (l : List UInt8) : List UInt8 := l.flatMap fun c => if Lx.isEsc c then [92, c] else [c]
def quoteT (l : List UInt8) : List UInt8 := 34 :: escT l ++ [34]
theorem escT_snoc (l : List UInt8) (c : UInt8) : escT (l ++ [c]) = escT l ++ if Lx.isEsc c then [92, c] else [c] := by simp [escT]
theorem escT_len : ∀ l : List UInt8, (escT l).length ≤ 2 * l.length
  | [] => by simp [escT]
  | c :: r => by
    have h := escT_len r
    have e : escT (c :: r) = (if Lx.isEsc c then [92, c] else [c]) ++ escT r := by simp [escT]
    rw [e]; split <;> simp <;> omega
theorem take_next (s : ByteArray) (k : Nat) (h : k < s.size) : s.data.toList.take (k + 1) = s.data.toList.take k ++ [s[k]] := by
  rw [List.take_succ_eq_append_getElem (by simpa using h)]; rfl
theorem cells_snoc (l : List UInt8) (c : UInt8) : Lib.byteCells (l ++ [c]) = Lib.byteCells l ++ [.int .u8 c.toNat] := by simp [Lib.byteCells]
theorem write_any (B b : Nat) (l : List UInt8) (c : UInt8) (w : World) (h : IsB B b (Lib.byteCells l) w) (hl : l.length + 1 ≤ 140737488355328) (hB : B ≤ b) :
    Calls Tryz.prog 46 #[.pointer (some ⟨b, 0, none⟩), .int .u8 c.toNat] w fun e w' => e = .returned .nilIface ∧ (IsB B b (Lib.byteCells (l ++ [c])) w' ∧ Below B w w') := by
  rw [cells_snoc]
  exact writeByte_any B b (Lib.byteCells l) c.toNat w h (by simp [Lib.byteCells]; omega) (by have := h.lt; omega)
theorem write34 (B b : Nat) (l : List UInt8) (w : World) (h : IsB B b (Lib.byteCells l) w) (hl : l.length + 1 ≤ 140737488355328) (hB : B ≤ b) :
    Calls Tryz.prog 46 #[.pointer (some ⟨b, 0, none⟩), .int .u8 34] w fun e w' => e = .returned .nilIface ∧ (IsB B b (Lib.byteCells (l ++ [34])) w' ∧ Below B w w') := write_any B b l 34 w h hl hB
theorem write92 (B b : Nat) (l : List UInt8) (w : World) (h : IsB B b (Lib.byteCells l) w) (hl : l.length + 1 ≤ 140737488355328) (hB : B ≤ b) :
    Calls Tryz.prog 46 #[.pointer (some ⟨b, 0, none⟩), .int .u8 92] w fun e w' => e = .returned .nilIface ∧ (IsB B b (Lib.byteCells (l ++ [92])) w' ∧ Below B w w') := write_any B b l 92 w h hl hB

set_option maxHeartbeats 4000000 in
theorem quote_any (s : ByteArray) (w : World) (hs : s.size ≤ 1099511627776) : Calls Tryz.prog 31 #[.string s] w fun e w' => e = .returned (.string ⟨(quoteT s.data.toList).toArray⟩) ∧ Below w.heap.size w w' := by
  have hl := len_list s
  have hb0 : Below w.heap.size w (w.alloc (.cells #[.pointer none, .slice none 0 0] 92)) := (Below.refl _ _).alloc (Nat.le_refl _) _
  have hi0 : IsB w.heap.size w.heap.size (Lib.byteCells []) (w.alloc (.cells #[.pointer none, .slice none 0 0] 92)) := fresh_builder (Nat.le_refl _) (by show (w.heap.push _)[w.heap.size]? = _; rw [Array.getElem?_push, if_pos rfl])
  go_enter Tryz.func31, Tryz.ntmps31
  go_wp2_with (go_at_call 46; refine (write34 w.heap.size w.heap.size [] _ hi0 (by simp) (Nat.le_refl _)).mono ?_; rintro e w1 ⟨rfl, hi1, hb1⟩)
  go_loopg [8] s.size (fun g i wr => ∃ k : Nat, k ≤ s.size ∧ g = s.size - k ∧ i = .int .i64 k ∧ IsB w.heap.size w.heap.size (Lib.byteCells (34 :: escT (s.data.toList.take k))) wr ∧ Below w.heap.size w wr)
  case atStart => exact ⟨0, Nat.zero_le _, rfl, rfl, hi1, hb0.trans hb1⟩
  case round =>
    obtain ⟨k, hk, rfl, rfl, hi, hb⟩ := hrel
    clear hi0 hi1 hb0 hb1
    have hlen := escT_len (s.data.toList.take k)
    have htl : (s.data.toList.take k).length ≤ k := List.length_take_le _ _
    by_cases hlt : k < s.size
    · have htn := take_next s k hlt
      rcases hp : Lx.isEsc s[k] with _ | _
      · have hnx : Aside (34 :: escT (s.data.toList.take (k + 1)) = (34 :: escT (s.data.toList.take k)) ++ [s[k]]) := by
          show _ = _
          rw [htn, escT_snoc, hp]; rfl
        have hw := write_any w.heap.size w.heap.size _ s[k] wr hi (by simp; omega) (Nat.le_refl _)
        clear htn
        go_wp2_with (first
          | (go_at_call 47; refine (needs_any _ _).mono ?_; rw [hp]; rintro e w' ⟨rfl, rfl⟩)
          | (go_at_call 46; refine hw.mono ?_; rintro e w2 ⟨rfl, hi2, hb2⟩))
        go_roundg (s.size - (k + 1))
        case measure => omega
        case rel => exact ⟨k + 1, by omega, rfl, by go_num, by rw [hnx.out]; exact hi2, hb.trans hb2⟩
      · have hnx : Aside (34 :: escT (s.data.toList.take (k + 1)) = ((34 :: escT (s.data.toList.take k)) ++ [92]) ++ [s[k]]) := by
          show _ = _
          rw [htn, escT_snoc, hp]; simp
        have hw1 := write92 w.heap.size w.heap.size _ wr hi (by simp; omega) (Nat.le_refl _)
        have hw2 : ∀ w2, IsB w.heap.size w.heap.size (Lib.byteCells ((34 :: escT (s.data.toList.take k)) ++ [92])) w2 → _ := fun w2 h2 => write_any w.heap.size w.heap.size _ s[k] w2 h2 (by simp; omega) (Nat.le_refl _)
        clear htn
        go_wp2_with fail
        refine (needs_any _ _).mono ?_
        rw [hp]
        rintro e w' ⟨rfl, rfl⟩
        go_wp2_with fail
        refine hw1.mono ?_
        rintro e w2 ⟨rfl, hi2, hb2⟩
        go_wp2_with fail
        refine (hw2 w2 hi2).mono ?_
        rintro e w3 ⟨rfl, hi3, hb3⟩
        go_wp2_with fail
        go_roundg (s.size - (k + 1))
        case measure => omega
        case rel => exact ⟨k + 1, by omega, rfl, by go_num, by rw [hnx.out]; exact hi3, (hb.trans hb2).trans hb3⟩
    · have hfull : s.data.toList.take k = s.data.toList := List.take_of_length_le (by omega)
      rw [hfull] at hi hlen
      have hw := write34 w.heap.size w.heap.size _ wr hi (by simp; omega) (Nat.le_refl _)
      clear hfull htl hl
      go_wp2_with fail
      refine hw.mono ?_
      rintro e w2 ⟨rfl, hi2, hb2⟩
      have hst := string_any w.heap.size w.heap.size _ w2 hi2 (by have := hi2.lt; omega)
      go_wp2_with fail
      refine hst.mono ?_
      rintro e w3 ⟨rfl, hb3⟩
      go_wp2
      go_ret
      exact ⟨rfl, (hb.trans hb2).trans hb3⟩

def Row (w0 : World) (v : Value) (l : List UInt8) (w : World) : Prop := w.ownsRow w0.heap.size 5 1 v l.length (Lib.byteCells l)

theorem esc_no {c : UInt8} (h : Lx.isEsc c = false) : ((c.toNat : Int) == 34) = false ∧ ((c.toNat : Int) == 92) = false := by
  simp only [Lx.isEsc, Bool.or_eq_false_iff, beq_eq_false_iff_ne, ne_eq, ← UInt8.toNat_inj] at h ⊢
  obtain ⟨h1, h2⟩ := h
  exact ⟨fun a => h1 (by show c.toNat = 34; omega), fun a => h2 (by show c.toNat = 92; omega)⟩
theorem esc_yes {c : UInt8} (h : Lx.isEsc c = true) : ((c.toNat : Int) == 34) = true ∨ ((c.toNat : Int) == 92) = true := by
  simp only [Lx.isEsc, Bool.or_eq_true, beq_iff_eq] at h ⊢
  rcases h with rfl | rfl
  · exact Or.inl rfl
  · exact Or.inr rfl

end Go.Proofs.YtnmdnjdibdmodaaGreatDoor
