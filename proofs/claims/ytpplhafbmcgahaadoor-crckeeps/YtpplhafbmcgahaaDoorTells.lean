/- What the statement's function CrcTells does. -/
import Derived.Test.YtpplhafbmcgahaaDoorLaid
import Derived.Test.YtpplhafbmcgahaaDoorTurn
import Derived.Deep.AppendLies
import Derived.Laws.AppendOwnNone
namespace Go.Proofs.YtpplhafbmcgahaaDoor
open Go.RowKit
theorem info5 : (Tryd.prog.info? 5).map (fun i => (i.zero, i.size, i.bytes)) = some (some (.int .u8 0), 1, 1) := by kernel_rfl

/-- The cells of a list of bytes. -/
def cells8 (l : List Int) : List Value := l.map fun z => .int .u8 z
theorem cells8_length (l : List Int) : (cells8 l).length = l.length := by simp [cells8]
theorem cells8_one (l : List Int) : ∀ u ∈ cells8 l, u.oneCell' = true := by
  intro u hu
  simp only [cells8, List.mem_map] at hu
  obtain ⟨z, _, rfl⟩ := hu
  rfl
theorem cells8_at (l : List Int) (j : Nat) (hj : j < l.length) : (cells8 l)[j]? = some (.int .u8 (l.getD j 0)) := by simp [cells8, List.getD, hj]
theorem Bytes.news {w : World} {b o len : Nat} {l : List Int} (h : Bytes w (some ⟨b, o, none⟩) len l) : ∀ j u, (cells8 l)[j]? = some u → w.cell? ((⟨b, o, none⟩ : Addr).add j) = some u := by
  intro j u hu
  have hs := h.size
  have hj : j < l.length := by
    have := (List.getElem?_eq_some_iff.1 hu).1
    rwa [cells8_length] at this
  rw [cells8_at l j hj] at hu
  cases hu
  obtain ⟨b', o', e, hx⟩ := h.cell j (by omega)
  simp only [Option.some.injEq, Addr.mk.injEq, and_true] at e
  obtain ⟨rfl, rfl⟩ := e
  have e : (⟨b, o, none⟩ : Addr).add j = ⟨b, o + j, none⟩ := by
    by_cases h : j = 0 <;> simp [Addr.add, h]
  rw [e]
  exact hx

/-- The masks, by their place. -/
def mask (m0 m1 m2 m3 : Int) (k : Nat) : Int := [m0, m1, m2, m3].getD k 0
theorem mask_index (m0 m1 m2 m3 : Int) (k : Nat) (hk : k < 4) (wx : World) :
    (Instr.index 33 (.agg #[.int .u8 m0, .int .u8 m1, .int .u8 m2, .int .u8 m3]) (.int .i64 (k : Int))).run Tryd.prog wx = .ok (.int .u8 (mask m0 m1 m2 m3 k)) wx := by
  rcases k with _ | _ | _ | _ | k
  · kernel_rfl
  · kernel_rfl
  · kernel_rfl
  · kernel_rfl
  · omega
theorem mask_take (m0 m1 m2 m3 : Int) (k : Nat) (hk : k < 4) : [m0, m1, m2, m3].take (k + 1) = [m0, m1, m2, m3].take k ++ [mask m0 m1 m2 m3 k] := by
  rw [List.take_succ_eq_append_getElem (by simpa using hk)]
  simp [mask, List.getD, hk]
theorem take_len (m0 m1 m2 m3 : Int) (k : Nat) (hk : k < 4) : ([m0, m1, m2, m3].take k).length = k := by simp; omega
theorem unlike_in (n p : Nat) (m0 m1 m2 m3 : Int) (k : Nat) (hk : k < 4) (hin : p + k < n) :
    Crc.unlike n p 0 ([m0, m1, m2, m3].take (k + 1)) = (Crc.unlike n p 0 ([m0, m1, m2, m3].take k) || (mask m0 m1 m2 m3 k != 0)) := by
  rw [mask_take _ _ _ _ k hk, Crc.unlike_snoc, take_len _ _ _ _ k hk]
  simp [hin]
theorem unlike_out (n p : Nat) (m0 m1 m2 m3 : Int) (k : Nat) (hk : k < 4) (hin : ¬ p + k < n) :
    Crc.unlike n p 0 ([m0, m1, m2, m3].take (k + 1)) = Crc.unlike n p 0 ([m0, m1, m2, m3].take k) := by
  rw [mask_take _ _ _ _ k hk, Crc.unlike_snoc, take_len _ _ _ _ k hk]
  simp [hin]
theorem over_in (l : List Int) (p : Nat) (m0 m1 m2 m3 : Int) (k : Nat) (hk : k < 4) (hin : p + k < l.length) :
    Crc.over l p ([m0, m1, m2, m3].take (k + 1)) = (Crc.over l p ([m0, m1, m2, m3].take k)).set (p + k) (bits .xor .u8 ((Crc.over l p ([m0, m1, m2, m3].take k)).getD (p + k) 0) (mask m0 m1 m2 m3 k)) := by
  have e := Crc.over_next l p ([m0, m1, m2, m3].take k) (mask m0 m1 m2 m3 k) (by rw [take_len _ _ _ _ k hk]; exact hin)
  rw [mask_take _ _ _ _ k hk, e, take_len _ _ _ _ k hk]
  rfl
theorem over_out (l : List Int) (p : Nat) (m0 m1 m2 m3 : Int) (k : Nat) (hk : k < 4) (hin : ¬ p + k < l.length) :
    Crc.over l p ([m0, m1, m2, m3].take (k + 1)) = Crc.over l p ([m0, m1, m2, m3].take k) := by
  rw [mask_take _ _ _ _ k hk, Crc.over_past l p _ _ (by rw [take_len _ _ _ _ k hk]; omega)]
theorem cells8_set (l : List Int) (j : Nat) (v : Int) : cells8 (l.set j v) = (cells8 l).set j (.int .u8 v) := by simp [cells8, List.map_set]
theorem Bytes.all8 {w : World} {a : Option Addr} {len : Nat} {l : List Int} (h : Bytes w a len l) : Crc.All8 l := by
  intro c hc
  obtain ⟨i, hi, rfl⟩ := List.mem_iff_getElem.1 hc
  have := h.byte i
  simpa [List.getD, hi] using this
theorem all8_getD {l : List Int} (h : Crc.All8 l) (i : Nat) : 0 ≤ l.getD i 0 ∧ l.getD i 0 < 256 := by
  by_cases hi : i < l.length
  · have := h l[i] (List.getElem_mem hi)
    simpa [List.getD, hi] using this
  · simp [List.getD, hi]
theorem bytes_of_owns {w : World} {base g len cap : Nat} {l : List Int} (h : w.ownsRow base 5 1 (.slice (some ⟨g, 0, none⟩) len cap) len (cells8 l)) (hm : len ≤ maxLen) (ha : Crc.All8 l) : Bytes w (some ⟨g, 0, none⟩) len l := by
  have h1 := h.1
  rw [cells8_length] at h1
  refine ⟨by omega, hm, ?_, all8_getD ha⟩
  intro i hi
  refine ⟨g, 0, rfl, ?_⟩
  rw [Nat.zero_add, h.cellAt i (by omega), cells8_at l i (by omega)]
abbrev box (m0 m1 m2 m3 : Int) : Obj := Obj.cells #[Value.int IntKind.u8 m0, Value.int IntKind.u8 m1, Value.int IntKind.u8 m2, Value.int IntKind.u8 m3] 33

set_option maxHeartbeats 400000 in
theorem tells_some (b o len cap p : Nat) (l : List Int) (m0 m1 m2 m3 : Int) (w : World) (hc : TabOk w) (hm : len * 1 ≤ 140737488351232) (hz : 0 < len) (hp : p < 9223372036854775808) (r0 : 0 ≤ m0 ∧ m0 < 256) (r1 : 0 ≤ m1 ∧ m1 < 256) (r2 : 0 ≤ m2 ∧ m2 < 256) (r3 : 0 ≤ m3 ∧ m3 < 256)
    (hb : Bytes w (some ⟨b, o, none⟩) len l) :
    Calls Tryd.prog 6 #[.slice (some ⟨b, o, none⟩) len cap, .int .i64 p, .agg #[.int .u8 m0, .int .u8 m1, .int .u8 m2, .int .u8 m3]] w fun e w' => e = .returned (.bool true) ∧ Below w.heap.size w w' := by
  obtain ⟨i0, hi, hz0, hz1, hz2⟩ := info_parts info5
  have hs := hb.size
  have Hs : Hid (l.length = len) := hs
  clear hs
  go_enter Tryd.func6, Tryd.ntmps6
  go_wp2_with fail
  have hbel := (Below.refl w.heap.size w).alloc (Nat.le_refl _) (box m0 m1 m2 m3)
  refine (wakes_any _ (hc.below hbel)).mono ?_
  rintro e w1 ⟨rfl, hw⟩
  have hw1 : Below w.heap.size w w1 := hbel.trans (hw.mono (by simp))
  have hsz1 : w.heap.size + 1 ≤ w1.heap.size := by have := hw.size; simpa using this
  have hb1 := (hb.below hw1).below ((Below.refl _ w1).alloc (Nat.le_refl _) (Obj.cells #[] 5))
  go_wp2_with (at_builtin; refine wpList_append_lies _ rfl _ _ 23 rfl (w.heap.size + 1) 5 i0 (.int .u8 0) 1 1 Tryd.underlying23 hi hz0 hz1 hz2 rfl (by decide) _ 0 [] rfl (World.ownsRow_lit w1 #[] 0 hsz1 (by unfold maxLen; omega) (by simp)) ⟨b, o, none⟩ len cap (cells8 l) rfl ?c0 ?c1 ?c2 hz ?c3 ?c4 ?c5 _ rfl ?_)
  case c0 => rw [cells8_length, Hs.out]; omega
  case c1 => exact hb1.news
  case c2 => exact cells8_one l
  case c3 => unfold maxLen; omega
  case c4 => omega
  case c5 => simp; omega
  intro g cap2 w2 hown hgrow hat hlt
  have hB2 : Below (w.heap.size + 1) (w.alloc (box m0 m1 m2 m3)) w2 := by
    have hw' : Below (w.heap.size + 1) (w.alloc (box m0 m1 m2 m3)) w1 := by simpa using hw
    refine (hw'.alloc hsz1 _).grown hgrow (by simp; omega) ?_
    intro k hk
    simp [Value.ownBlock] at hk
    omega
  have hw2 : Below w.heap.size w w2 := hbel.trans (hB2.mono (by omega))
  have hg : w.heap.size < g := by
    rcases hat with h | h
    · simp [Value.ownBlock] at h; omega
    · omega
  have hc0 : w2.cell? ⟨w.heap.size, 0, none⟩ = some (.int .u8 m0) := by rw [hB2.cell (p := ⟨w.heap.size, 0, none⟩) (by simp)]; simp
  have hc1 : w2.cell? ⟨w.heap.size, 1, none⟩ = some (.int .u8 m1) := by rw [hB2.cell (p := ⟨w.heap.size, 1, none⟩) (by simp)]; simp
  have hc2 : w2.cell? ⟨w.heap.size, 2, none⟩ = some (.int .u8 m2) := by rw [hB2.cell (p := ⟨w.heap.size, 2, none⟩) (by simp)]; simp
  have hc3 : w2.cell? ⟨w.heap.size, 3, none⟩ = some (.int .u8 m3) := by rw [hB2.cell (p := ⟨w.heap.size, 3, none⟩) (by simp)]; simp
  clear hgrow hat hB2 hw hbel hb1 hw1
  go_wp2_with fail
  clear hc0 hc1 hc2 hc3
  go_loopw [8, 17] (fun un ix wr => ∃ (k : Nat) (u : Bool), k ≤ 4 ∧ ix = .int .i64 k ∧ un = .bool u ∧ Hid (u = Crc.unlike len p 0 ([m0, m1, m2, m3].take k)) ∧
      wr.ownsRow (w.heap.size + 1) 5 1 (.slice (some ⟨g, 0, none⟩) len cap2) len (cells8 (Crc.over l p ([m0, m1, m2, m3].take k))) ∧ Below w.heap.size w wr) (fun _ ix _ => 4 - (intOf ix).toNat)
  case atStart =>
    refine ⟨0, false, by omega, rfl, rfl, rfl, ?_, hw2⟩
    rw [List.take_zero, Crc.over_none]
    simpa using hown
  case round =>
    obtain ⟨k, u, hk, rfl, rfl, Hu, hown2, hwr⟩ := hrel
    by_cases hk4 : k < 4
    · have hk4' : (k : Int) < 4 := by omega
      have hidx := mask_index m0 m1 m2 m3 k hk4
      by_cases hin : p + k < len
      · have hin' : (p : Int) < (len : Int) - (k : Int) := by omega
        have hfr := hown2.frozenAt (p + k)
        obtain ⟨v, hv, Hv⟩ : ∃ v, wr.cell? ⟨g, p + k, none⟩ = some (.int .u8 v) ∧ Hid (v = (Crc.over l p ([m0, m1, m2, m3].take k)).getD (p + k) 0) := by
          refine ⟨_, ?_, rfl⟩
          rw [hown2.cellAt (p + k) (by omega), cells8_at _ _ (by rw [Crc.over_length, Hs.out]; exact hin)]
        have hown3 := (hown2.stored (p + k) (.int .u8 (bits .xor .u8 v (mask m0 m1 m2 m3 k)))).1
        have Hown : Hid ((wr.setCell ⟨g, p + k, none⟩ (.int .u8 (bits .xor .u8 v (mask m0 m1 m2 m3 k)))).ownsRow (w.heap.size + 1) 5 1 (.slice (some ⟨g, 0, none⟩) len cap2) len (cells8 (Crc.over l p ([m0, m1, m2, m3].take (k + 1))))) := by
          rw [over_in l p m0 m1 m2 m3 k hk4 (by rw [Hs.out]; exact hin), cells8_set, ← Hv.out]
          exact hown3
        clear hown3
        have Hu1 := unlike_in len p m0 m1 m2 m3 k hk4 hin
        rw [← Hu.out] at Hu1
        have Hu2 : Hid (Crc.unlike len p 0 ([m0, m1, m2, m3].take (k + 1)) = (u || (mask m0 m1 m2 m3 k != 0))) := Hu1
        clear Hu1
        have hbe : Below w.heap.size w (wr.setCell ⟨g, p + k, none⟩ (.int .u8 (bits .xor .u8 v (mask m0 m1 m2 m3 k)))) := hwr.setCell (Nat.le_of_lt hg) _
        cases u
        · go_wp2_with fail
          exact ⟨⟨k + 1, _, by omega, by go_num, rfl, by rw [Hu2.out]; rfl, Hown.out, hbe⟩, by simp [intOf]; omega⟩
        · go_wp2_with fail
          exact ⟨⟨k + 1, _, by omega, by go_num, rfl, by rw [Hu2.out]; rfl, Hown.out, hbe⟩, by simp [intOf]; omega⟩
      · have hin' : ¬ (p : Int) < (len : Int) - (k : Int) := by omega
        go_wp2_with fail
        refine ⟨⟨k + 1, u, by omega, by go_num, rfl, ?_, ?_, hwr⟩, by simp [intOf]; omega⟩
        · rw [unlike_out len p m0 m1 m2 m3 k hk4 hin]; exact Hu
        · rw [over_out l p m0 m1 m2 m3 k hk4 (by rw [Hs.out]; exact hin)]; exact hown2
    · have hk4' : ¬ (k : Int) < 4 := by omega
      have ek : k = 4 := by omega
      subst ek
      have hm' : len ≤ maxLen := by unfold maxLen; omega
      have hb2 : Bytes wr (some ⟨g, 0, none⟩) len (Crc.over l p [m0, m1, m2, m3]) := bytes_of_owns hown2 hm' (Crc.over_all l p _ hb.all8)
      have HT : Hid (((Crc.add 0 l != Crc.add 0 (Crc.over l p [m0, m1, m2, m3])) == u) = true) := by
        have ht := Crc.tells m0 m1 m2 m3 r0 r1 r2 r3 l p hb.all8
        rw [Hs.out] at ht
        rw [Hu.out]
        exact ht
      go_wp2_with fail
      refine (sum_any _ _ _ l _ (hc.below hwr) (hb.below hwr)).mono ?_
      rintro e w' ⟨rfl, rfl⟩
      go_wp2_with fail
      refine (sum_any _ _ _ _ _ (hc.below hwr) hb2).mono ?_
      rintro e w' ⟨rfl, rfl⟩
      go_wp2_with fail
      go_ret
      exact ⟨congrArg (fun b => Ending.returned (.bool b)) HT.out, hwr⟩
set_option maxHeartbeats 400000 in
theorem tells_neg (b o len cap : Nat) (l : List Int) (at' m0 m1 m2 m3 : Int) (w : World) (hc : TabOk w) (hm : len * 1 ≤ 140737488351232) (hz : 0 < len) (hp : at' < 0)
    (hb : Bytes w (some ⟨b, o, none⟩) len l) :
    Calls Tryd.prog 6 #[.slice (some ⟨b, o, none⟩) len cap, .int .i64 at', .agg #[.int .u8 m0, .int .u8 m1, .int .u8 m2, .int .u8 m3]] w fun e w' => e = .returned (.bool true) ∧ Below w.heap.size w w' := by
  obtain ⟨i0, hi, hz0, hz1, hz2⟩ := info_parts info5
  have hs := hb.size
  have Hs : Hid (l.length = len) := hs
  clear hs
  go_enter Tryd.func6, Tryd.ntmps6
  go_wp2_with fail
  have hbel := (Below.refl w.heap.size w).alloc (Nat.le_refl _) (box m0 m1 m2 m3)
  refine (wakes_any _ (hc.below hbel)).mono ?_
  rintro e w1 ⟨rfl, hw⟩
  have hw1 : Below w.heap.size w w1 := hbel.trans (hw.mono (by simp))
  have hsz1 : w.heap.size + 1 ≤ w1.heap.size := by have := hw.size; simpa using this
  have hb1 := (hb.below hw1).below ((Below.refl _ w1).alloc (Nat.le_refl _) (Obj.cells #[] 5))
  go_wp2_with (at_builtin; refine wpList_append_lies _ rfl _ _ 23 rfl (w.heap.size + 1) 5 i0 (.int .u8 0) 1 1 Tryd.underlying23 hi hz0 hz1 hz2 rfl (by decide) _ 0 [] rfl (World.ownsRow_lit w1 #[] 0 hsz1 (by unfold maxLen; omega) (by simp)) ⟨b, o, none⟩ len cap (cells8 l) rfl ?c0 ?c1 ?c2 hz ?c3 ?c4 ?c5 _ rfl ?_)
  case c0 => rw [cells8_length, Hs.out]; omega
  case c1 => exact hb1.news
  case c2 => exact cells8_one l
  case c3 => unfold maxLen; omega
  case c4 => omega
  case c5 => simp; omega
  intro g cap2 w2 hown hgrow hat hlt
  have hB2 : Below (w.heap.size + 1) (w.alloc (box m0 m1 m2 m3)) w2 := by
    have hw' : Below (w.heap.size + 1) (w.alloc (box m0 m1 m2 m3)) w1 := by simpa using hw
    refine (hw'.alloc hsz1 _).grown hgrow (by simp; omega) ?_
    intro k hk
    simp [Value.ownBlock] at hk
    omega
  have hw2 : Below w.heap.size w w2 := hbel.trans (hB2.mono (by omega))
  have hg : w.heap.size < g := by
    rcases hat with h | h
    · simp [Value.ownBlock] at h; omega
    · omega
  have hc0 : w2.cell? ⟨w.heap.size, 0, none⟩ = some (.int .u8 m0) := by rw [hB2.cell (p := ⟨w.heap.size, 0, none⟩) (by simp)]; simp
  have hc1 : w2.cell? ⟨w.heap.size, 1, none⟩ = some (.int .u8 m1) := by rw [hB2.cell (p := ⟨w.heap.size, 1, none⟩) (by simp)]; simp
  have hc2 : w2.cell? ⟨w.heap.size, 2, none⟩ = some (.int .u8 m2) := by rw [hB2.cell (p := ⟨w.heap.size, 2, none⟩) (by simp)]; simp
  have hc3 : w2.cell? ⟨w.heap.size, 3, none⟩ = some (.int .u8 m3) := by rw [hB2.cell (p := ⟨w.heap.size, 3, none⟩) (by simp)]; simp
  clear hgrow hat hB2 hw hbel hb1 hw1
  go_wp2_with fail
  clear hc0 hc1 hc2 hc3
  go_loop [8, 17] (fun un ix => ∃ k : Nat, k ≤ 4 ∧ ix = .int .i64 k ∧ un = .bool false) (fun _ ix => 4 - (intOf ix).toNat)
  case atStart => exact ⟨0, by omega, rfl, rfl⟩
  case round =>
    obtain ⟨k, hk, rfl, rfl⟩ := hrel
    by_cases hk4 : k < 4
    · have hk4' : (k : Int) < 4 := by omega
      have hidx := mask_index m0 m1 m2 m3 k hk4
      have hd : decide (0 ≤ at') = false := by simp; omega
      go_wp2_with fail
      exact ⟨⟨k + 1, by omega, by go_num, rfl⟩, by simp [intOf]; omega⟩
    · have hk4' : ¬ (k : Int) < 4 := by omega
      have hm' : len ≤ maxLen := by unfold maxLen; omega
      have hb2 : Bytes w2 (some ⟨g, 0, none⟩) len l := bytes_of_owns hown hm' hb.all8
      go_wp2_with fail
      refine (sum_any _ _ _ l _ (hc.below hw2) (hb.below hw2)).mono ?_
      rintro e w' ⟨rfl, rfl⟩
      go_wp2_with fail
      refine (sum_any _ _ _ _ _ (hc.below hw2) hb2).mono ?_
      rintro e w' ⟨rfl, rfl⟩
      go_wp2_with fail
      go_ret
      exact ⟨by simp, hw2⟩

theorem bytes_zero (w : World) (a : Option Addr) : Bytes w a 0 [] := ⟨rfl, by unfold maxLen; omega, fun i hi => by omega, fun i => by simp⟩

set_option maxHeartbeats 400000 in
theorem tells_empty (a0 : Option Addr) (cap : Nat) (at' m0 m1 m2 m3 : Int) (w : World) (hc : TabOk w) (hcap : a0 = none → cap = 0) :
    Calls Tryd.prog 6 #[.slice a0 0 cap, .int .i64 at', .agg #[.int .u8 m0, .int .u8 m1, .int .u8 m2, .int .u8 m3]] w fun e w' => e = .returned (.bool true) ∧ Below w.heap.size w w' := by
  obtain ⟨i0, hi, hz0, hz1, hz2⟩ := info_parts info5
  go_enter Tryd.func6, Tryd.ntmps6
  go_wp2_with fail
  have hbel := (Below.refl w.heap.size w).alloc (Nat.le_refl _) (box m0 m1 m2 m3)
  refine (wakes_any _ (hc.below hbel)).mono ?_
  rintro e w1 ⟨rfl, hw⟩
  have hsz1 : w.heap.size + 1 ≤ w1.heap.size := by have := hw.size; simpa using this
  have hown0 := World.ownsRow_lit (e := 5) (size := 1) w1 #[] 0 hsz1 (by unfold maxLen; omega) (by simp)
  have hcs : ∀ j v, (#[Value.int IntKind.u8 m0, Value.int IntKind.u8 m1, Value.int IntKind.u8 m2, Value.int IntKind.u8 m3])[j]? = some v → w1.cell? ⟨w.heap.size, j, none⟩ = some v := by
    intro j v hv
    rw [hw.cell (p := ⟨w.heap.size, j, none⟩) (by simp), World.cell?_alloc_mark]
    exact hv
  have hlt1 : w.heap.size < w1.heap.size := by omega
  cases a0 with
  | none =>
    obtain rfl := hcap rfl
    have hw2 : Below w.heap.size w (w1.alloc (Obj.cells #[] 5)) := (hbel.trans (hw.mono (by simp))).alloc (by omega) _
    have hc0 := hcs 0 _ rfl
    have hc1 := hcs 1 _ rfl
    have hc2 := hcs 2 _ rfl
    have hc3 := hcs 3 _ rfl
    clear hcap hcs hbel hw
    go_wp2_with (at_builtin; refine wpList_append_own_none rfl _ _ 23 rfl (w.heap.size + 1) 5 i0 1 Tryd.underlying23 hi _ 0 [] rfl hown0 rfl ?_)
    clear hc0 hc1 hc2 hc3
    go_loop [8, 17] (fun un ix => ∃ k : Nat, k ≤ 4 ∧ ix = .int .i64 k ∧ un = .bool false) (fun _ ix => 4 - (intOf ix).toNat)
    case atStart => exact ⟨0, by omega, rfl, rfl⟩
    case round =>
      obtain ⟨k, hk, rfl, rfl⟩ := hrel
      by_cases hk4 : k < 4
      · have hk4' : (k : Int) < 4 := by omega
        have hidx := mask_index m0 m1 m2 m3 k hk4
        by_cases hn : 0 ≤ at'
        · have hin' : ¬ at' < -(k : Int) := by omega
          go_wp2_with fail
          exact ⟨⟨k + 1, by omega, by go_num, rfl⟩, by simp [intOf]; omega⟩
        · have hd : decide (0 ≤ at') = false := by simp; omega
          go_wp2_with fail
          exact ⟨⟨k + 1, by omega, by go_num, rfl⟩, by simp [intOf]; omega⟩
      · have hk4' : ¬ (k : Int) < 4 := by omega
        go_wp2_with fail
        refine (sum_any _ _ _ [] _ (hc.below hw2) (bytes_zero _ _)).mono ?_
        rintro e w' ⟨rfl, rfl⟩
        go_wp2_with fail
        refine (sum_any _ _ _ [] _ (hc.below hw2) (bytes_zero _ _)).mono ?_
        rintro e w' ⟨rfl, rfl⟩
        go_wp2_with fail
        go_ret
        exact ⟨by simp, hw2⟩
  | some ad =>
    clear hcap
    go_wp2_with (at_builtin; refine wpList_append_own _ rfl _ _ 23 rfl (w.heap.size + 1) 5 i0 (.int .u8 0) 1 1 Tryd.underlying23 hi hz0 hz1 hz2 rfl (by decide) _ 0 [] rfl hown0 ad 0 cap [] rfl rfl ?c1 ?c2 ?c3 ?c4 ?c5 ?_)
    case c1 => simp
    case c2 => simp
    case c3 => unfold maxLen; omega
    case c4 => omega
    case c5 => simp; omega
    intro v' w2 hown hgrow hnil
    have hB2 : Below (w.heap.size + 1) w1 w2 := by
      refine ((Below.refl (w.heap.size + 1) w1).alloc hsz1 _).grown hgrow (by simp; omega) ?_
      intro k hk
      simp [Value.ownBlock] at hk
      omega
    have hw2 : Below w.heap.size w w2 := (hbel.trans (hw.mono (by simp))).trans (hB2.mono (by omega))
    have hc0 : w2.cell? ⟨w.heap.size, 0, none⟩ = some (.int .u8 m0) := by rw [hB2.cell (p := ⟨w.heap.size, 0, none⟩) (by simp)]; exact hcs 0 _ rfl
    have hc1 : w2.cell? ⟨w.heap.size, 1, none⟩ = some (.int .u8 m1) := by rw [hB2.cell (p := ⟨w.heap.size, 1, none⟩) (by simp)]; exact hcs 1 _ rfl
    have hc2 : w2.cell? ⟨w.heap.size, 2, none⟩ = some (.int .u8 m2) := by rw [hB2.cell (p := ⟨w.heap.size, 2, none⟩) (by simp)]; exact hcs 2 _ rfl
    have hc3 : w2.cell? ⟨w.heap.size, 3, none⟩ = some (.int .u8 m3) := by rw [hB2.cell (p := ⟨w.heap.size, 3, none⟩) (by simp)]; exact hcs 3 _ rfl
    clear hcs hB2 hgrow hbel hw hown0
    rcases hown.2 with ⟨rfl, _⟩ | ⟨g, cap2, cur, rfl, _⟩
    · exact absurd rfl hnil
    · clear hown hnil
      go_wp2_with fail
      clear hc0 hc1 hc2 hc3
      go_loop [8, 17] (fun un ix => ∃ k : Nat, k ≤ 4 ∧ ix = .int .i64 k ∧ un = .bool false) (fun _ ix => 4 - (intOf ix).toNat)
      case atStart => exact ⟨0, by omega, rfl, rfl⟩
      case round =>
        obtain ⟨k, hk, rfl, rfl⟩ := hrel
        by_cases hk4 : k < 4
        · have hk4' : (k : Int) < 4 := by omega
          have hidx := mask_index m0 m1 m2 m3 k hk4
          by_cases hn : 0 ≤ at'
          · have hin' : ¬ at' < -(k : Int) := by omega
            go_wp2_with fail
            exact ⟨⟨k + 1, by omega, by go_num, rfl⟩, by simp [intOf]; omega⟩
          · have hd : decide (0 ≤ at') = false := by simp; omega
            go_wp2_with fail
            exact ⟨⟨k + 1, by omega, by go_num, rfl⟩, by simp [intOf]; omega⟩
        · have hk4' : ¬ (k : Int) < 4 := by omega
          go_wp2_with fail
          refine (sum_any _ _ _ [] _ (hc.below hw2) (bytes_zero _ _)).mono ?_
          rintro e w' ⟨rfl, rfl⟩
          go_wp2_with fail
          refine (sum_any _ _ _ [] _ (hc.below hw2) (bytes_zero _ _)).mono ?_
          rintro e w' ⟨rfl, rfl⟩
          go_wp2_with fail
          go_ret
          exact ⟨by simp, hw2⟩

theorem tells_any (a : Option Addr) (len cap : Nat) (zs : List Int) (at' m0 m1 m2 m3 : Int) (w : World) (hc : TabOk w) (hr : IsRow .u8 w a len cap zs) (hm : len * 1 ≤ 140737488351232) (ha : at' < 9223372036854775808)
    (r0 : 0 ≤ m0 ∧ m0 < 256) (r1 : 0 ≤ m1 ∧ m1 < 256) (r2 : 0 ≤ m2 ∧ m2 < 256) (r3 : 0 ≤ m3 ∧ m3 < 256) :
    Calls Tryd.prog 6 #[.slice a len cap, .int .i64 at', .agg #[.int .u8 m0, .int .u8 m1, .int .u8 m2, .int .u8 m3]] w fun e w' => e = .returned (.bool true) ∧ Below w.heap.size w w' := by
  have hb := hr.bytes
  by_cases hz : len = 0
  · subst hz
    refine tells_empty a cap at' m0 m1 m2 m3 w hc ?_
    intro hn
    rcases hr with ⟨_, _, h, _⟩ | ⟨x, h, _⟩
    · exact h
    · rw [hn] at h; cases h
  · obtain ⟨b, o, rfl, _⟩ := hb.cell 0 (by omega)
    by_cases hn : at' < 0
    · exact tells_neg b o len cap _ at' m0 m1 m2 m3 w hc hm (by omega) hn hb
    · obtain ⟨p, rfl⟩ := Int.eq_ofNat_of_zero_le (show 0 ≤ at' by omega)
      exact tells_some b o len cap p _ m0 m1 m2 m3 w hc hm (by omega) (by omega) r0 r1 r2 r3 hb

open Go.ChangeShapes Go.WideShapes in
theorem arr4_of_trod {H : Type} {enc : TypeId × Value → H} {W : World} {base : Nat} {v : Value} {d : DataW H} {p : List MemPlace} (hv : Value.okWide Tryd.prog W .any base 33 v) (h : DataW.Trod enc Tryd.prog W 0 (fun _ => true) true 33 v d p) :
    ∃ m0 m1 m2 m3, v = .agg #[.int .u8 m0, .int .u8 m1, .int .u8 m2, .int .u8 m3] ∧ (0 ≤ m0 ∧ m0 < 256) ∧ (0 ≤ m1 ∧ m1 < 256) ∧ (0 ≤ m2 ∧ m2 < 256) ∧ (0 ≤ m3 ∧ m3 < 256) := by
  have c5 : Tryd.prog.cellsOf 5 = 1 := by kernel_rfl
  have c33 : Tryd.prog.cellsOf 33 = 4 := by kernel_rfl
  simp only [Value.okWide, Tryd.underlying33] at hv
  obtain ⟨⟨cs⟩, rfl, hsz, _⟩ := hv
  rw [c33] at hsz
  obtain ⟨fuel, hf⟩ := h
  obtain ⟨xs, m, _, _, _, hn, hel⟩ := DataW.trod_array Tryd.underlying33 hf
  match cs, hsz, hel with
  | [v0, v1, v2, v3], _, hel =>
    have each : ∀ i, i < 4 → ∃ n, [v0, v1, v2, v3][i]? = some (.int .u8 n) ∧ 0 ≤ n ∧ n < 256 := by
      intro i hi
      have he := hel i hi
      rw [c5] at he
      have hx : xs[i]? = some xs[i] := by simp
      rw [hx] at he
      obtain ⟨n, e1, _, e3⟩ := DataW.trod_int Tryd.underlying5 he
      have hb := bounds_u8 e3
      refine ⟨n, ?_, hb.1, by omega⟩
      have e4 := congrArg (fun l => l[0]?) e1
      simpa [Value.cells, List.getElem?_take, List.getElem?_drop] using e4
    obtain ⟨m0, e0, r0⟩ := each 0 (by omega)
    obtain ⟨m1, e1, r1⟩ := each 1 (by omega)
    obtain ⟨m2, e2, r2⟩ := each 2 (by omega)
    obtain ⟨m3, e3, r3⟩ := each 3 (by omega)
    simp at e0 e1 e2 e3
    subst e0 e1 e2 e3
    exact ⟨m0, m1, m2, m3, rfl, r0, r1, r2, r3⟩
end Go.Proofs.YtpplhafbmcgahaaDoor
