/- What the document's own answer, quernref02.Add and Sum, comes to: the same number as the table's way. -/
import Derived.Test.YtpplhafbmcgahaaDoorLaid
namespace Go.Proofs.YtpplhafbmcgahaaDoor
open Go.RowKit
set_option maxHeartbeats 400000 in
theorem ref_raw (s : Int) (b o len cap : Nat) (l : List Int) (w : World) (h0 : 0 ≤ s) (h1 : s < 4294967296) (hm : len ≤ maxLen) (hl : len ≤ l.length)
    (hcell : ∀ i, i < len → w.cell? ⟨b, o + i, none⟩ = some (.int .u8 (l.getD i 0))) (hb : ∀ i, 0 ≤ l.getD i 0 ∧ l.getD i 0 < 256) :
    Calls Tryd.prog 11 #[.int .u32 s, .slice (some ⟨b, o, none⟩) len cap] w fun e w' => e = .returned (.int .u32 (Crc.add s (l.take len))) ∧ w' = w := by
  unfold maxLen at hm
  go_enter Tryd.func11, Tryd.ntmps11
  go_wp2_with fail
  go_loop [5, 6] (fun r i => ∃ k : Nat, k ≤ len ∧ i = .int .i64 k ∧ r = .int .u32 (Crc.at_ s l k)) (fun _ i => len - (intOf i).toNat)
  case atStart => exact ⟨0, Nat.zero_le _, rfl, by rw [Crc.at_zero l h0 h1]⟩
  case round =>
    obtain ⟨k, hk, rfl, rfl⟩ := hrel
    have hr := Crc.at_range s l k
    by_cases hlt : k < len
    · have hck := hcell k hlt
      have hbk := hb k
      go_wp2_with fail
      have hx := Crc.xor_range (Crc.at_ s l k) (l[k]?.getD 0 % 4294967296)
      go_loop [5, 7] (fun r i => ∃ j : Nat, j ≤ 8 ∧ i = .int .i64 j ∧ r = .int .u32 (Crc.bitN (bits .xor .u32 (Crc.at_ s l k) (l[k]?.getD 0 % 4294967296)) j)) (fun _ i => 8 - (intOf i).toNat)
      case atStart => exact ⟨0, by omega, rfl, rfl⟩
      case round =>
        obtain ⟨j, hj, rfl, rfl⟩ := hrel
        have hv := Crc.bitN_range hx.1 hx.2 j
        by_cases hj8 : j < 8
        · go_wp2_with fail
          · refine ⟨⟨j + 1, by omega, by go_num, ?_⟩, by simp [intOf]; omega⟩
            rw [Crc.bitI_yes hv.1 hv.2 (by assumption), Crc.bitN_succ]
          · refine ⟨⟨j + 1, by omega, by go_num, ?_⟩, by simp [intOf]; omega⟩
            rw [Crc.bitI_no hv.1 hv.2 (by assumption), Crc.bitN_succ]
        · go_wp2_with fail
          have ej : j = 8 := by omega
          subst ej
          refine ⟨⟨k + 1, by omega, by go_num, ?_⟩, by simp [intOf]; omega⟩
          have ea := Crc.at_succ s l k (by omega) (hb k).1 (hb k).2
          rw [List.getD_eq_getElem?_getD] at ea hbk
          rw [← ea, Crc.bitN_eight, Int.emod_eq_of_lt hbk.1 (by omega)]
    · go_wp2
      go_ret
      have ek : k = len := by omega
      subst ek
      exact ⟨by rw [← Crc.at_end]; rfl, rfl⟩

set_option maxHeartbeats 400000 in
theorem ref_none (s : Int) (a : Option Addr) (cap : Nat) (w : World) (h0 : 0 ≤ s) (h1 : s < 4294967296) :
    Calls Tryd.prog 11 #[.int .u32 s, .slice a 0 cap] w fun e w' => e = .returned (.int .u32 (Crc.add s [])) ∧ w' = w := by
  go_enter Tryd.func11, Tryd.ntmps11
  go_wp2_with fail
  go_loop [5, 6] (fun r i => i = .int .i64 0 ∧ r = .int .u32 (Crc.at_ s [] 0)) (fun _ _ => 0)
  case atStart => exact ⟨rfl, by rw [Crc.at_zero [] h0 h1]⟩
  case round =>
    obtain ⟨rfl, rfl⟩ := hrel
    go_wp2
    go_ret
    exact ⟨by rw [show ([] : List Int) = List.take 0 [] from rfl, ← Crc.at_end]; rfl, rfl⟩

theorem ref_any (s : Int) (a : Option Addr) (len cap : Nat) (l : List Int) (w : World) (h0 : 0 ≤ s) (h1 : s < 4294967296) (hb : Bytes w a len l) :
    Calls Tryd.prog 11 #[.int .u32 s, .slice a len cap] w fun e w' => e = .returned (.int .u32 (Crc.add s l)) ∧ w' = w := by
  by_cases hz : len = 0
  · subst hz
    have : l = [] := List.length_eq_zero_iff.1 hb.size
    subst this
    exact ref_none s a cap w h0 h1
  · obtain ⟨b, o, rfl, _⟩ := hb.cell 0 (by omega)
    have hcell : ∀ i, i < len → w.cell? ⟨b, o + i, none⟩ = some (.int .u8 (l.getD i 0)) := by
      intro i hi
      obtain ⟨b', o', e, hx⟩ := hb.cell i hi
      simp only [Option.some.injEq, Addr.mk.injEq, and_true] at e
      obtain ⟨rfl, rfl⟩ := e
      exact hx
    have e := hb.size
    refine (ref_raw s b o len cap l w h0 h1 hb.most (by omega) hcell hb.byte).mono ?_
    rintro e w' ⟨rfl, rfl⟩
    rw [List.take_of_length_le (by omega)]
    exact ⟨rfl, rfl⟩

set_option maxHeartbeats 400000 in
theorem refsum_any (a : Option Addr) (len cap : Nat) (l : List Int) (w : World) (hb : Bytes w a len l) :
    Calls Tryd.prog 13 #[.slice a len cap] w fun e w' => e = .returned (.int .u32 (Crc.add 0 l)) ∧ w' = w := by
  go_enter Tryd.func13, Tryd.ntmps13
  go_wp2_with fail
  refine (ref_any _ _ _ _ l _ (by omega) (by omega) hb).mono ?_
  rintro e w' ⟨rfl, rfl⟩
  go_wp2_with fail
  go_ret
  exact ⟨rfl, rfl⟩

set_option maxHeartbeats 400000 in
theorem adds_walk (s : Int) (a : Option Addr) (len cap : Nat) (l : List Int) (w : World) (h0 : 0 ≤ s) (h1 : s < 4294967296) (hc : TabOk w) (hb : Bytes w a len l) :
    Calls Tryd.prog 3 #[.int .u32 s, .slice a len cap] w fun e w' => e = .returned (.bool true) ∧ Below w.heap.size w w' := by
  go_enter Tryd.func3, Tryd.ntmps3
  go_wp2_with fail
  refine (wakes_any _ hc).mono ?_
  rintro e w1 ⟨rfl, hw⟩
  go_wp2_with fail
  refine (add_any _ _ _ _ l _ h0 h1 (hc.below hw) (hb.below hw)).mono ?_
  rintro e w' ⟨rfl, rfl⟩
  go_wp2_with fail
  refine (ref_any _ _ _ _ l _ h0 h1 (hb.below hw)).mono ?_
  rintro e w' ⟨rfl, rfl⟩
  go_wp2_with fail
  refine (sum_any _ _ _ l _ (hc.below hw) (hb.below hw)).mono ?_
  rintro e w' ⟨rfl, rfl⟩
  go_wp2_with fail
  refine (refsum_any _ _ _ l _ (hb.below hw)).mono ?_
  rintro e w' ⟨rfl, rfl⟩
  go_wp2_with fail
  go_ret
  exact ⟨by simp, hw⟩
end Go.Proofs.YtpplhafbmcgahaaDoor
