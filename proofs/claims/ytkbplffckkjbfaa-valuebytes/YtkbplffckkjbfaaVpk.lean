/- Numbers as bytes: the program's. -/
import Derived.Test.YtkbplffckkjbfaaVnm
import Derived.Test.YtkbplffckkjbfaaVo
import Derived.Deep.LoopGhost
namespace Go.Proofs.Ytkbplffckkjbfaa
open Go.RowKit
set_option linter.unusedVariables false
set_option linter.unusedSimpArgs false

/-- Bytes' cells. -/
def c8 (l : List UInt8) : List Value := l.map fun b => .int .u8 b.toNat
theorem c8_len (l : List UInt8) : (c8 l).length = l.length := by simp [c8]
theorem c8_append (a b : List UInt8) : c8 (a ++ b) = c8 a ++ c8 b := by simp [c8]
theorem c8_one (l : List UInt8) : ∀ u ∈ c8 l, u.oneCell' = true := by
  intro u hu
  obtain ⟨b, _, rfl⟩ := List.mem_map.1 hu
  rfl
/-- One byte behind what one owns. -/
theorem app8 {w : World} {base n : Nat} {v : Value} {bs : List UInt8} {b : UInt8} (hown : w.ownsRow base 5 1 v n (c8 bs)) (hn : n ≤ 1000000) (hbase : base ≤ w.heap.size) :
    ∃ ao cap w', (Builtin.append_ #[52, 52] 52 #[v, .slice (some ⟨w.heap.size, 0, none⟩) 1 1]).run Try.prog (w.alloc (.cells #[.int .u8 b.toNat] 5)) = .ok (.slice ao (n + 1) cap) w' ∧ w'.ownsRow base 5 1 (.slice ao (n + 1) cap) (n + 1) (c8 (bs ++ [b])) ∧ Below base w w' := by
  have hba : Below w.heap.size w (w.alloc (.cells #[.int .u8 b.toNat] 5)) := (Below.refl _ _).alloc (Nat.le_refl _) _
  obtain ⟨ao, cap, w', hr, ho, hb, _⟩ := app_run (news := c8 [b]) Try.underlying52 byteInfo rfl (by decide) 52 (m := 1) (c := 1) (ad := some ⟨w.heap.size, 0, none⟩) (owns_below hown hba) (by simp) (by simp [c8]) (by
    intro b' hb' j u hu
    cases hb'
    have hj := (List.getElem?_eq_some_iff.1 hu).1
    simp [c8] at hj
    subst hj
    simp [c8] at hu
    subst hu
    have hc := cell_of_one (heap_new w (.cells #[.int .u8 b.toNat] 5))
    rw [show (⟨w.heap.size, 0, none⟩ : Addr).add 0 = ⟨w.heap.size, 0, none⟩ from by simp [Addr.add]]
    exact hc) (c8_one _) (by omega) (by decide) (by have := hba.size; omega)
  rw [← c8_append] at ho
  exact ⟨ao, cap, w', hr, ho, (hba.mono hbase).trans hb⟩
set_option maxRecDepth 100000 in
set_option maxHeartbeats 1000000 in
theorem putOne_any {base n x : Nat} {bs : List UInt8} {ao : Option Addr} {cap : Nat} {w : World} (hown : w.ownsRow base 5 1 (.slice ao n cap) n (c8 bs)) (hn : n ≤ 900000) (hx : x ≤ 9223372036854775807) (hbase : base ≤ w.heap.size) :
    Calls Try.prog 108 #[.slice ao n cap, .int .i64 x] w fun r w' => (∃ ao' cap', r = .returned (.slice ao' (n + (num x).length) cap') ∧ w'.ownsRow base 5 1 (.slice ao' (n + (num x).length) cap') (n + (num x).length) (c8 (bs ++ num x))) ∧ Below base w w' := by
  have hlen := num_len10 hx
  go_enter Try.func108, Try.ntmps108
  go_wp2_with fail
  go_loopg [0, 1] x (fun g s i wr => ∃ (pre : List UInt8) (z : Nat) (ao : Option Addr) (cap : Nat), z = g ∧ z ≤ 9223372036854775807 ∧ Hid (num x = pre ++ num z) ∧ pre.length ≤ 8 ∧ s = .slice ao (n + pre.length) cap ∧ i = .int .i64 z ∧ Hid (wr.ownsRow base 5 1 (.slice ao (n + pre.length) cap) (n + pre.length) (c8 (bs ++ pre))) ∧ Below base w wr)
  case atStart => exact ⟨[], x, ao, cap, rfl, hx, rfl, by simp, rfl, rfl, by show w.ownsRow _ _ _ _ _ _; simpa using hown, Below.refl _ _⟩
  case round =>
    clear hown
    obtain ⟨pre, z, ao, cap, rfl, hz, HN, hpl, rfl, rfl, HO, hB⟩ := hrel
    by_cases hlt : z < 128
    · have hzI : ¬ (128 : Int) ≤ (z : Int) := by omega
      obtain ⟨ao', cap', w', hr, ho, hb⟩ := app8 (b := UInt8.ofNat z) HO.out (by omega) (by have := hB.size; omega)
      clear HO
      have hbyte : ((UInt8.ofNat z).toNat : Int) = (z : Int) := by
        rw [UInt8.toNat_ofNat_of_lt' (by show z < 256; omega)]
      rw [hbyte] at hr
      have hl1 : (num x).length = pre.length + 1 := by rw [HN.out, num_lt hlt]; simp
      have hfin : w'.ownsRow base 5 1 (.slice ao' (n + (num x).length) cap') (n + (num x).length) (c8 (bs ++ num x)) := by
        rw [hl1, ← Nat.add_assoc, HN.out, num_lt hlt, ← List.append_assoc]
        exact ho
      go_wp2_with (at_builtin; refine Lib.wpList_append_run _ rfl _ _ 52 52 rfl _ _ rfl rfl _ _ hr ?_)
      go_ret
      exact ⟨⟨ao', cap', by rw [← Nat.add_assoc]; rfl, by rw [← hl1]; exact hfin⟩, hB.trans hb⟩
    · have hzI : (128 : Int) ≤ (z : Int) := by omega
      obtain ⟨ao', cap', w', hr, ho, hb⟩ := app8 (b := UInt8.ofNat (z % 128 + 128)) HO.out (by omega) (by have := hB.size; omega)
      clear HO
      have hbyte : ((UInt8.ofNat (z % 128 + 128)).toNat : Int) = (z : Int) % 128 + 128 := by
        rw [UInt8.toNat_ofNat_of_lt' (by show z % 128 + 128 < 256; omega)]; omega
      rw [hbyte] at hr
      have hm1 : (0 : Int) ≤ (z : Int) % 128 := by omega
      have hm2 : (z : Int) % 128 < 128 := by omega
      go_wp2_with (at_builtin; refine Lib.wpList_append_run _ rfl _ _ 52 52 rfl _ _ rfl rfl _ _ hr ?_)
      have hl1 : (num x).length = pre.length + (num z).length := by rw [HN.out]; simp
      have hl2 : 2 ≤ (num z).length := by
        have := num_len10 (n := z / 128) (by omega)
        rw [num_ge hlt]; simp; omega
      have HN2 : Hid (num x = (pre ++ [UInt8.ofNat (z % 128 + 128)]) ++ num (z / 128)) := by
        show _ = _
        rw [HN.out, num_ge hlt]; simp
      have HO2 : Hid (w'.ownsRow base 5 1 (.slice ao' (n + (pre ++ [UInt8.ofNat (z % 128 + 128)]).length) cap') (n + (pre ++ [UInt8.ofNat (z % 128 + 128)]).length) (c8 (bs ++ (pre ++ [UInt8.ofNat (z % 128 + 128)])))) := by
        show w'.ownsRow _ _ _ _ _ _
        rw [List.length_append, List.length_singleton, ← List.append_assoc]
        exact ho
      have hdiv : ((z / 128 : Nat) : Int) = (z : Int) / 128 := by omega
      go_roundg (z / 128)
      case measure => omega
      case rel => exact ⟨pre ++ [UInt8.ofNat (z % 128 + 128)], z / 128, ao', cap', rfl, by omega, HN2, by simp; omega, by simp; omega, by rw [hdiv], HO2, hB.trans hb⟩
set_option maxRecDepth 100000 in
set_option maxHeartbeats 1000000 in
theorem size_any (x : Int) (hx : InR x) (w : World) : Calls Try.prog 107 #[.int .i64 x] w fun r w' => (∃ m : Nat, r = .returned (.int .i64 m) ∧ m ≤ 9) ∧ w' = w := by
  obtain ⟨hx1, hx2⟩ := hx
  have hlen := num_len10 (n := x.toNat) (by omega)
  go_enter Try.func107, Try.ntmps107
  go_wp2_with fail
  go_loopg [0, 3] (num x.toNat).length (fun g i s wr => ∃ (z : Int) (m : Nat), (num z.toNat).length = g ∧ m + g = 1 + (num x.toNat).length ∧ z ≤ 9223372036854775807 ∧ -9223372036854775808 ≤ z ∧ i = .int .i64 z ∧ s = .int .i64 m ∧ w = wr)
  case atStart => exact ⟨x, 1, rfl, rfl, hx2, hx1, rfl, rfl, rfl⟩
  case round =>
    obtain ⟨z, m, hg, hm, hz, hz2, rfl, rfl, rfl⟩ := hrel
    by_cases hlt : 128 ≤ z
    · have hn := num_ge (n := z.toNat) (by omega)
      have h1 : (num (z.toNat / 128)).length + 1 = gk := by rw [← hg, hn]; simp
      have e : (z / 128).toNat = z.toNat / 128 := by omega
      clear hn
      have hz0 : 0 ≤ z := by omega
      go_wp2_with fail
      go_roundg ((num (z.toNat / 128)).length)
      case measure => omega
      case rel => exact ⟨z / 128, m + 1, by rw [e], by omega, by omega, by omega, rfl, by go_num, rfl⟩
    · have h1 : (num z.toNat).length = 1 := by rw [num_lt (by omega)]; rfl
      go_wp2
      go_ret
      exact ⟨⟨m, rfl, by omega⟩, rfl⟩
end Go.Proofs.Ytkbplffckkjbfaa
