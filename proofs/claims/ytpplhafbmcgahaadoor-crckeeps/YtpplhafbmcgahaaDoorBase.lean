/- What the program's own functions crc.shiftNibble, crc.Add, crc.Sum and the statements' helper wakes answer, of every number and all bytes, in whatever memory in which the table of nibbles lies. -/
import Derived.Test.YtpplhafbmcgahaaDoorCrc
import Derived.Test.YtpplhafbmcgahaaDoorProg
import Derived.WalkKit
import Derived.WalkSpells
import Derived.WalkLawsBesides
import Derived.Lib.SlBytesConst
namespace Go.Proofs.YtpplhafbmcgahaaDoor
open Go.RowKit

def TabOk (w : World) : Prop := ∀ i, i < 16 → w.cell? ⟨0, i, none⟩ = some (.int .u32 (Crc.tabI.getD i 0))
set_option maxHeartbeats 400000 in
theorem nib_raw (r t : Int) (w : World) (h0 : 0 ≤ r) (h1 : r < 4294967296) (hc : w.cell? ⟨0, (r % 16).toNat, none⟩ = some (.int .u32 t)) :
    Calls Tryd.prog 15 #[.int .u32 r] w fun e w' => e = .returned (.int .u32 (bits .xor .u32 t (r / 16))) ∧ w' = w := by
  go_enter Tryd.func15, Tryd.ntmps15
  go_wp2
  go_ret
  exact ⟨rfl, rfl⟩
theorem nib_any (r : Int) (w : World) (h0 : 0 ≤ r) (h1 : r < 4294967296) (hc : TabOk w) :
    Calls Tryd.prog 15 #[.int .u32 r] w fun e w' => e = .returned (.int .u32 (Crc.nibI r)) ∧ w' = w := by
  refine (nib_raw r _ w h0 h1 (hc _ (by omega))).mono ?_
  rintro e w' ⟨rfl, rfl⟩
  rw [Crc.nib_int h0 h1]
  exact ⟨rfl, rfl⟩

structure Bytes (w : World) (a : Option Addr) (len : Nat) (l : List Int) : Prop where
  size : l.length = len
  most : len ≤ maxLen
  cell : ∀ i, i < len → ∃ b o, a = some ⟨b, o, none⟩ ∧ w.cell? ⟨b, o + i, none⟩ = some (.int .u8 (l.getD i 0))
  byte : ∀ i, 0 ≤ l.getD i 0 ∧ l.getD i 0 < 256

set_option maxHeartbeats 400000 in
theorem add_raw (s : Int) (b o len cap : Nat) (l : List Int) (w : World) (h0 : 0 ≤ s) (h1 : s < 4294967296) (hc : TabOk w) (hm : len ≤ maxLen) (hl : len ≤ l.length)
    (hcell : ∀ i, i < len → w.cell? ⟨b, o + i, none⟩ = some (.int .u8 (l.getD i 0))) (hb : ∀ i, 0 ≤ l.getD i 0 ∧ l.getD i 0 < 256) :
    Calls Tryd.prog 10 #[.int .u32 s, .slice (some ⟨b, o, none⟩) len cap] w fun e w' => e = .returned (.int .u32 (Crc.add s (l.take len))) ∧ w' = w := by
  unfold maxLen at hm
  go_enter Tryd.func10, Tryd.ntmps10
  go_wp2_with fail
  go_loop [5, 12] (fun r i => ∃ k : Nat, k ≤ len ∧ i = .int .i64 k ∧ r = .int .u32 (Crc.at_ s l k)) (fun _ i => len - (intOf i).toNat)
  case atStart => exact ⟨0, Nat.zero_le _, rfl, by rw [Crc.at_zero l h0 h1]⟩
  case round =>
    obtain ⟨k, hk, rfl, rfl⟩ := hrel
    have hr := Crc.at_range s l k
    by_cases hlt : k < len
    · have hck := hcell k hlt
      have hbk := hb k
      go_wp2_with fail
      refine (nib_any _ _ (Crc.xor_range _ _).1 (Crc.xor_range _ _).2 hc).mono ?_
      rintro e w' ⟨rfl, rfl⟩
      go_wp2_with fail
      refine (nib_any _ _ (Crc.nibI_range _).1 (Crc.nibI_range _).2 hc).mono ?_
      rintro e w' ⟨rfl, rfl⟩
      go_wp2_with fail
      go_round
      case rel =>
        refine ⟨k + 1, by omega, by go_num, ?_⟩
        have ea := Crc.at_succ s l k (by omega) (hb k).1 (hb k).2
        rw [List.getD_eq_getElem?_getD] at ea hbk
        rw [← ea, Int.emod_eq_of_lt hbk.1 (by omega)]
      case measure => simp [intOf]; omega
    · go_wp2
      go_ret
      have ek : k = len := by omega
      subst ek
      exact ⟨by rw [← Crc.at_end]; rfl, rfl⟩

set_option maxHeartbeats 400000 in
theorem add_none (s : Int) (a : Option Addr) (cap : Nat) (w : World) (h0 : 0 ≤ s) (h1 : s < 4294967296) :
    Calls Tryd.prog 10 #[.int .u32 s, .slice a 0 cap] w fun e w' => e = .returned (.int .u32 (Crc.add s [])) ∧ w' = w := by
  go_enter Tryd.func10, Tryd.ntmps10
  go_wp2_with fail
  go_loop [5, 12] (fun r i => i = .int .i64 0 ∧ r = .int .u32 (Crc.at_ s [] 0)) (fun _ _ => 0)
  case atStart => exact ⟨rfl, by rw [Crc.at_zero [] h0 h1]⟩
  case round =>
    obtain ⟨rfl, rfl⟩ := hrel
    go_wp2
    go_ret
    exact ⟨by rw [show ([] : List Int) = List.take 0 [] from rfl, ← Crc.at_end]; rfl, rfl⟩

theorem add_any (s : Int) (a : Option Addr) (len cap : Nat) (l : List Int) (w : World) (h0 : 0 ≤ s) (h1 : s < 4294967296) (hc : TabOk w) (hb : Bytes w a len l) :
    Calls Tryd.prog 10 #[.int .u32 s, .slice a len cap] w fun e w' => e = .returned (.int .u32 (Crc.add s l)) ∧ w' = w := by
  by_cases hz : len = 0
  · subst hz
    have : l = [] := List.length_eq_zero_iff.1 hb.size
    subst this
    exact add_none s a cap w h0 h1
  · obtain ⟨b, o, rfl, _⟩ := hb.cell 0 (by omega)
    have hcell : ∀ i, i < len → w.cell? ⟨b, o + i, none⟩ = some (.int .u8 (l.getD i 0)) := by
      intro i hi
      obtain ⟨b', o', e, hx⟩ := hb.cell i hi
      simp only [Option.some.injEq, Addr.mk.injEq, and_true] at e
      obtain ⟨rfl, rfl⟩ := e
      exact hx
    have e := hb.size
    refine (add_raw s b o len cap l w h0 h1 hc hb.most (by omega) hcell hb.byte).mono ?_
    rintro e w' ⟨rfl, rfl⟩
    rw [List.take_of_length_le (by omega)]
    exact ⟨rfl, rfl⟩

set_option maxHeartbeats 400000 in
theorem sum_any (a : Option Addr) (len cap : Nat) (l : List Int) (w : World) (hc : TabOk w) (hb : Bytes w a len l) :
    Calls Tryd.prog 12 #[.slice a len cap] w fun e w' => e = .returned (.int .u32 (Crc.add 0 l)) ∧ w' = w := by
  go_enter Tryd.func12, Tryd.ntmps12
  go_wp2_with fail
  refine (add_any _ _ _ _ l _ (by omega) (by omega) hc hb).mono ?_
  rintro e w' ⟨rfl, rfl⟩
  go_wp2_with fail
  go_ret
  exact ⟨rfl, rfl⟩

theorem TabOk.below {w w' : World} (h : TabOk w) (hb : Below w.heap.size w w') : TabOk w' := by
  intro i hi
  have h0 := h 0 (by omega)
  have hlt : 0 < w.heap.size := by
    rcases Nat.eq_zero_or_pos w.heap.size with hz | hz
    · simp [World.cell?, hz] at h0
    · exact hz
  rw [hb.cell (p := ⟨0, i, none⟩) hlt]
  exact h i hi
theorem Bytes.below {w w' : World} {a : Option Addr} {len : Nat} {l : List Int} (h : Bytes w a len l) (hb : Below w.heap.size w w') : Bytes w' a len l := by
  refine ⟨h.size, h.most, ?_, h.byte⟩
  intro i hi
  obtain ⟨b, o, e, hx⟩ := h.cell i hi
  refine ⟨b, o, e, ?_⟩
  have hlt : b < w.heap.size := by
    rcases Nat.lt_or_ge b w.heap.size with hz | hz
    · exact hz
    · simp [World.cell?, hz] at hx
  rw [hb.cell (p := ⟨b, o + i, none⟩) hlt]
  exact hx
def text9 : List Int := [49, 50, 51, 52, 53, 54, 55, 56, 57]
theorem bytes_text9 (w : World) : Bytes (w.alloc (Obj.cells #[Value.int IntKind.u8 49, Value.int IntKind.u8 50, Value.int IntKind.u8 51, Value.int IntKind.u8 52, Value.int IntKind.u8 53, Value.int IntKind.u8 54, Value.int IntKind.u8 55, Value.int IntKind.u8 56, Value.int IntKind.u8 57] 5 (9, 10))) (some ⟨w.heap.size, 0, none⟩) 9 text9 := by
  refine ⟨rfl, by unfold maxLen; omega, ?_, ?_⟩
  · intro i hi
    refine ⟨_, _, rfl, ?_⟩
    rw [World.cell?_alloc_mark]
    rcases i with _ | _ | _ | _ | _ | _ | _ | _ | _ | i
    all_goals first | rfl | omega
  · intro i
    rcases i with _ | _ | _ | _ | _ | _ | _ | _ | _ | i
    all_goals simp [text9]
set_option maxHeartbeats 400000 in
theorem wakes_any (w : World) (hc : TabOk w) :
    Calls Tryd.prog 9 #[] w fun e w' => e = .returned (.bool true) ∧ Below w.heap.size w w' := by
  have hcv := fun (w : World) (C : Array Value) (n c : Nat) => Lib.run_convert_bytes_const (P := Tryd.prog) w 23 5 C n c Tryd.underlying23 Tryd.underlying5
  go_enter Tryd.func9, Tryd.ntmps9
  go_wp2_with fail
  refine (sum_any _ _ _ text9 _ (hc.below ((Below.refl _ _).alloc (Nat.le_refl _) _)) (bytes_text9 w)).mono ?_
  rintro e w' ⟨rfl, rfl⟩
  rw [text9, Crc.wakes]
  go_wp2_with fail
  go_ret
  exact ⟨rfl, (Below.refl _ _).alloc (Nat.le_refl _) _⟩
end Go.Proofs.YtpplhafbmcgahaaDoor
