/- What the statement's function CrcMixes does. -/
import Derived.Test.YtpplhafbmcgahaaDoorTells
import Derived.RegionTactic
import Derived.BigRegion
import Derived.BigQuiet
import Derived.Deep.QuietTactic
import Derived.Deep.RegionWith
namespace Go.Proofs.YtpplhafbmcgahaaDoor
open Go.RowKit

/-- The list that is being made, behind k rounds. -/
def made (ms : List Int) (n k : Nat) : List Int := ms.take k ++ List.replicate (n - k) 0
theorem made_length (ms : List Int) (n k : Nat) (hm : ms.length = n) (hk : k ≤ n) : (made ms n k).length = n := by
  simp [made]; omega
theorem made_zero (ms : List Int) (n : Nat) : made ms n 0 = List.replicate n 0 := by simp [made]
theorem made_end (ms : List Int) (n : Nat) (hm : ms.length = n) : made ms n n = ms := by
  simp only [made, Nat.sub_self, List.replicate_zero, List.append_nil]
  exact List.take_of_length_le (by omega)
theorem made_succ (ms : List Int) (n k : Nat) (hm : ms.length = n) (hk : k < n) : made ms n (k + 1) = (made ms n k).set k (ms.getD k 0) := by
  have e1 : n - k = (n - (k + 1)) + 1 := by omega
  have e2 : (ms.take k).length = k := by simp; omega
  have hk' : k < ms.length := by omega
  have e3 : ms.getD k 0 = ms[k] := by simp [List.getD, hk']
  unfold made
  rw [e3, e1, List.replicate_succ, List.set_append_right _ _ (by rw [e2]; exact Nat.le_refl _), e2, Nat.sub_self, List.set_cons_zero, List.take_succ_eq_append_getElem hk', List.append_assoc]
  rfl
theorem cells8_zeros (n : Nat) : (madeCells #[Value.int .u8 0] n).toList = cells8 (List.replicate n 0) := by
  rw [toList_madeCells_one]; simp [cells8]
theorem Bytes.take {w : World} {a : Option Addr} {len : Nat} {l : List Int} (h : Bytes w a len l) (n : Nat) (hn : n ≤ len) : Bytes w a n (l.take n) := by
  have hs := h.size
  have hm := h.most
  have ht : ∀ i, i < n → (l.take n).getD i 0 = l.getD i 0 := by
    intro i hi
    simp [List.getD, hi]
  refine ⟨by simp; omega, by omega, ?_, ?_⟩
  · intro i hi
    obtain ⟨b, o, e, hx⟩ := h.cell i (by omega)
    exact ⟨b, o, e, by rw [ht i hi]; exact hx⟩
  · intro i
    by_cases hi : i < n
    · rw [ht i hi]; exact h.byte i
    · simp [List.getD, List.getElem?_take, hi]
theorem TabOk.drewN {w : World} (h : TabOk w) (n : Nat) : TabOk (w.drewN n) := h
theorem Bytes.drewN {w : World} {a : Option Addr} {len : Nat} {l : List Int} (h : Bytes w a len l) (n : Nat) : Bytes (w.drewN n) a len l := ⟨h.size, h.most, h.cell, h.byte⟩

set_option maxHeartbeats 1000000 in
theorem mixes_some (ba oa bb ob bc oc la ca lb cb lc cc n : Nat) (xs ys zs : List Int) (w : World) (hc : TabOk w) (hla : la * 1 ≤ 140737488351232) (hca : la ≤ ca) (hcb : lb ≤ cb) (hcc : lc ≤ cc)
    (hmin : ∀ wx, (Builtin.min_ #[3, 3, 3] 3 #[.int .i64 (la : Int), .int .i64 (lb : Int), .int .i64 (lc : Int)]).run Tryd.prog wx = .ok (.int .i64 (n : Int)) wx) (hna : n ≤ la) (hnb : n ≤ lb) (hnc : n ≤ lc)
    (ha : Bytes w (some ⟨ba, oa, none⟩) n xs) (hb : Bytes w (some ⟨bb, ob, none⟩) n ys) (hd : Bytes w (some ⟨bc, oc, none⟩) n zs) :
    Calls Tryd.prog 8 #[.slice (some ⟨ba, oa, none⟩) la ca, .slice (some ⟨bb, ob, none⟩) lb cb, .slice (some ⟨bc, oc, none⟩) lc cc] w fun e w' => e = .returned (.bool true) ∧ Below w.heap.size w w' := by
  obtain ⟨i0, hi, hz0, hz1, hz2⟩ := info_parts info5
  go_enter Tryd.func8, Tryd.ntmps8
  go_wp2_with fail
  refine (wakes_any _ hc).mono ?_
  rintro e w1 ⟨rfl, hw⟩
  have hsz1 : w.heap.size ≤ w1.heap.size := hw.size
  generalize hg : w1.heap.size = g at *
  go_wp2_with (refine wpList_make_full _ rfl _ _ 23 rfl w.heap.size 5 i0 (.int .u8 0) 1 Tryd.underlying23 hi hz0 hz1 .i64 .i64 _ _ n rfl rfl rfl rfl (by rw [hz2]; omega) (by unfold maxLen; omega) (by rw [hg]; exact hsz1) ?_)
  intro w2 hown hgrow
  have hw2 : Below w.heap.size w w2 := hw.grown hgrow (by rw [hg]; exact hsz1) (fun k hk => by cases hk)
  have hs1 := ha.size
  have hs2 := hb.size
  have hs3 := hd.size
  have Hml : Hid ((Crc.mix3 xs ys zs).length = n) := by rw [show Hid ((Crc.mix3 xs ys zs).length = n) = ((Crc.mix3 xs ys zs).length = n) from rfl, Crc.mix3_length _ _ _ (by omega) (by omega)]; exact hs1
  have Hs1 : Hid (xs.length = n) := hs1
  have Hs2 : Hid (ys.length = n) := hs2
  have Hs3 : Hid (zs.length = n) := hs3
  clear hs1 hs2 hs3 hgrow hw hg
  rw [cells8_zeros] at hown
  go_wp2_with fail
  go_loopw [9, 23] (fun _ ix wr => ∃ k : Nat, k ≤ n ∧ ix = .int .i64 k ∧
      wr.ownsRow w.heap.size 5 1 (.slice (some ⟨g, 0, none⟩) n n) n (cells8 (made (Crc.mix3 xs ys zs) n k)) ∧ Below w.heap.size w wr) (fun _ ix _ => n - (intOf ix).toNat)
  case atStart =>
    refine ⟨0, by omega, rfl, ?_, hw2⟩
    rw [made_zero]
    exact hown
  case round =>
    obtain ⟨k, hk, rfl, hown2, hwr⟩ := hrel
    by_cases hkn : k < n
    · have hkn' : (k : Int) < (n : Int) := by omega
      have hka : (k : Int) < (la : Int) := by omega
      have hkb : (k : Int) < (lb : Int) := by omega
      have hkc : (k : Int) < (lc : Int) := by omega
      have hfr := hown2.frozenAt k
      have hgk : wr.cell? ⟨g, k, none⟩ = (cells8 (made (Crc.mix3 xs ys zs) n k))[k]? := hown2.cellAt k (by omega)
      obtain ⟨x, hx, Hx⟩ : ∃ x, wr.cell? ⟨ba, oa + k, none⟩ = some (.int .u8 x) ∧ Hid (x = xs.getD k 0) := by
        obtain ⟨b', o', e, hx⟩ := (ha.below hwr).cell k hkn
        simp only [Option.some.injEq, Addr.mk.injEq, and_true] at e
        obtain ⟨rfl, rfl⟩ := e
        exact ⟨_, hx, rfl⟩
      obtain ⟨y, hy, Hy⟩ : ∃ x, wr.cell? ⟨bb, ob + k, none⟩ = some (.int .u8 x) ∧ Hid (x = ys.getD k 0) := by
        obtain ⟨b', o', e, hx⟩ := (hb.below hwr).cell k hkn
        simp only [Option.some.injEq, Addr.mk.injEq, and_true] at e
        obtain ⟨rfl, rfl⟩ := e
        exact ⟨_, hx, rfl⟩
      obtain ⟨z, hz, Hz⟩ : ∃ x, wr.cell? ⟨bc, oc + k, none⟩ = some (.int .u8 x) ∧ Hid (x = zs.getD k 0) := by
        obtain ⟨b', o', e, hx⟩ := (hd.below hwr).cell k hkn
        simp only [Option.some.injEq, Addr.mk.injEq, and_true] at e
        obtain ⟨rfl, rfl⟩ := e
        exact ⟨_, hx, rfl⟩
      have hgk' : ∃ v, wr.cell? ⟨g, k, none⟩ = some v := by
        rw [hgk, cells8_at _ _ (by rw [made_length _ _ _ Hml.out hk]; exact hkn)]; exact ⟨_, rfl⟩
      clear hgk
      obtain ⟨gv, hgv⟩ := hgk'
      have hown3 := (hown2.stored k (.int .u8 (bits .xor .u8 (bits .xor .u8 x y) z))).1
      have Hown : Hid ((wr.setCell ⟨g, k, none⟩ (.int .u8 (bits .xor .u8 (bits .xor .u8 x y) z))).ownsRow w.heap.size 5 1 (.slice (some ⟨g, 0, none⟩) n n) n (cells8 (made (Crc.mix3 xs ys zs) n (k + 1)))) := by
        rw [made_succ _ _ _ Hml.out hkn, cells8_set, Crc.mix3_getD _ _ _ _ (by rw [Hs1.out]; exact hkn) (by rw [Hs2.out]; exact hkn) (by rw [Hs3.out]; exact hkn), ← Hx.out, ← Hy.out, ← Hz.out]
        exact hown3
      clear hown3
      have hbe : Below w.heap.size w (wr.setCell ⟨g, k, none⟩ (.int .u8 (bits .xor .u8 (bits .xor .u8 x y) z))) := hwr.setCell hsz1 _
      go_wp2_with fail
      go_region
      go_wp2_with fail
      exact ⟨⟨k + 1, by omega, by go_num, Hown.out, hbe.drew⟩, by simp [intOf]; omega⟩
    · have hkn' : ¬ (k : Int) < (n : Int) := by omega
      have ek : k = n := by omega
      rw [ek, made_end _ _ Hml.out] at hown2
      have hm' : n ≤ maxLen := by unfold maxLen; omega
      have hbm : Bytes wr (some ⟨g, 0, none⟩) n (Crc.mix3 xs ys zs) := bytes_of_owns hown2 hm' (Crc.mix3_all _ _ _)
      have hna' : (n : Int) ≤ (ca : Int) := by omega
      have hnb' : (n : Int) ≤ (cb : Int) := by omega
      have hnc' : (n : Int) ≤ (cc : Int) := by omega
      have HT : Hid ((Crc.add 0 (Crc.mix3 xs ys zs) == bits .xor .u32 (bits .xor .u32 (Crc.add 0 xs) (Crc.add 0 ys)) (Crc.add 0 zs)) = true) :=
        Crc.mixes xs ys zs (Hs1.out.trans Hs2.out.symm) (Hs1.out.trans Hs3.out.symm) ha.all8 hb.all8 hd.all8
      have ht := hc.below hwr
      have h1 := ha.below hwr
      have h2 := hb.below hwr
      have h3 := hd.below hwr
      go_wp2_with fail
      go_quiet (first
        | (go_at_call_of 12 (Value.slice (some ⟨g, 0, none⟩) n n); refine Calls.quiet_of_same (sum_any _ _ _ (Crc.mix3 xs ys zs) _ ?_ ?_); exact ht.drewN _; exact hbm.drewN _)
        | (go_at_call_of 12 (Value.slice (some ⟨ba, oa, none⟩) n ca); refine Calls.quiet_of_same (sum_any _ _ _ xs _ ?_ ?_); exact ht.drewN _; exact h1.drewN _)
        | (go_at_call_of 12 (Value.slice (some ⟨bb, ob, none⟩) n cb); refine Calls.quiet_of_same (sum_any _ _ _ ys _ ?_ ?_); exact ht.drewN _; exact h2.drewN _)
        | (go_at_call_of 12 (Value.slice (some ⟨bc, oc, none⟩) n cc); refine Calls.quiet_of_same (sum_any _ _ _ zs _ ?_ ?_); exact ht.drewN _; exact h3.drewN _))
      go_wp2_with fail
      go_ret
      exact ⟨congrArg (fun b => Ending.returned (.bool b)) HT.out, below_drewN hwr _⟩

theorem slice_none (a : Option Addr) (l c : Nat) (wx : World) : (Instr.slice 23 (.slice a l c) none (some (.int .i64 0)) none).run Tryd.prog wx = .ok (.slice a 0 c) wx := by
  have e := run_slice_h (P := Tryd.prog) wx 23 a l c (by kernel_rfl) .i64 0 (by omega) (by omega)
  rw [e]
  have es : (sizeOf (Tryd.prog.elem 23)).run Tryd.prog wx = .ok 1 wx := by kernel_rfl
  rw [es]
  cases a <;> simp [sliced, Addr.add, Result.andThen]
set_option maxHeartbeats 1000000 in
theorem mixes_none (aa ab ac : Option Addr) (la ca lb cb lc cc : Nat) (w : World) (hc : TabOk w)
    (hmin : ∀ wx, (Builtin.min_ #[3, 3, 3] 3 #[.int .i64 (la : Int), .int .i64 (lb : Int), .int .i64 (lc : Int)]).run Tryd.prog wx = .ok (.int .i64 (0 : Int)) wx)
    :
    Calls Tryd.prog 8 #[.slice aa la ca, .slice ab lb cb, .slice ac lc cc] w fun e w' => e = .returned (.bool true) ∧ Below w.heap.size w w' := by
  obtain ⟨i0, hi, hz0, hz1, hz2⟩ := info_parts info5
  have HT : Hid ((Crc.add 0 [] == bits .xor .u32 (bits .xor .u32 (Crc.add 0 []) (Crc.add 0 [])) (Crc.add 0 [])) = true) :=
    Crc.mixes [] [] [] rfl rfl (by simp [Crc.All8]) (by simp [Crc.All8]) (by simp [Crc.All8])
  have hsa := slice_none aa la ca
  have hsb := slice_none ab lb cb
  have hsc := slice_none ac lc cc
  go_enter Tryd.func8, Tryd.ntmps8
  go_wp2_with fail
  refine (wakes_any _ hc).mono ?_
  rintro e w1 ⟨rfl, hw⟩
  have hsz1 : w.heap.size ≤ w1.heap.size := hw.size
  go_wp2_with (refine wpList_make_full _ rfl _ _ 23 rfl w.heap.size 5 i0 (.int .u8 0) 1 Tryd.underlying23 hi hz0 hz1 .i64 .i64 _ _ 0 rfl rfl rfl rfl (by omega) (by unfold maxLen; omega) hsz1 ?_)
  intro w2 hown hgrow
  have hw2 : Below w.heap.size w w2 := hw.grown hgrow hsz1 (fun k hk => by cases hk)
  have ht := hc.below hw2
  clear hgrow hw hown
  go_wp2_with fail
  go_loop [9, 23] (fun _ ix => ix = .int .i64 0) (fun _ _ => 0)
  case atStart => exact rfl
  case round =>
    obtain rfl := hrel
    go_wp2_with fail
    go_quiet ((go_at_call 12; refine Calls.quiet_of_same (sum_any _ _ _ [] _ ?_ ?_); exact ht.drewN _; exact bytes_zero _ _))
    go_wp2_with fail
    go_ret
    exact ⟨congrArg (fun b => Ending.returned (.bool b)) HT.out, below_drewN hw2 _⟩

theorem min3 (la lb lc : Nat) (wx : World) : (Builtin.min_ #[3, 3, 3] 3 #[.int .i64 (la : Int), .int .i64 (lb : Int), .int .i64 (lc : Int)]).run Tryd.prog wx = .ok (.int .i64 ((min (min la lb) lc : Nat) : Int)) wx := by
  rw [run_min_int3]
  have e : (if (lc : Int) < (if (lb : Int) < (la : Int) then (lb : Int) else (la : Int)) then (lc : Int) else (if (lb : Int) < (la : Int) then (lb : Int) else (la : Int))) = ((min (min la lb) lc : Nat) : Int) := by
    split <;> split at * <;> omega
  rw [e]

theorem mixes_any (aa ab ac : Option Addr) (la ca lb cb lc cc : Nat) (xs ys zs : List Int) (w : World) (hc : TabOk w) (hla : la * 1 ≤ 140737488351232)
    (ha : IsRow .u8 w aa la ca xs) (hb : IsRow .u8 w ab lb cb ys) (hd : IsRow .u8 w ac lc cc zs) :
    Calls Tryd.prog 8 #[.slice aa la ca, .slice ab lb cb, .slice ac lc cc] w fun e w' => e = .returned (.bool true) ∧ Below w.heap.size w w' := by
  have hmin := min3 la lb lc
  obtain ⟨n, hn⟩ : ∃ n, n = min (min la lb) lc := ⟨_, rfl⟩
  rw [← hn] at hmin
  have hna : n ≤ la := by omega
  have hnb : n ≤ lb := by omega
  have hnc : n ≤ lc := by omega
  by_cases hz : n = 0
  · rw [hz] at hmin
    exact mixes_none aa ab ac la ca lb cb lc cc w hc hmin
  · have h1 := ha.bytes.take n hna
    have h2 := hb.bytes.take n hnb
    have h3 := hd.bytes.take n hnc
    obtain ⟨b1, o1, rfl, _⟩ := h1.cell 0 (by omega)
    obtain ⟨b2, o2, rfl, _⟩ := h2.cell 0 (by omega)
    obtain ⟨b3, o3, rfl, _⟩ := h3.cell 0 (by omega)
    have c1 : la ≤ ca := by
      rcases ha with ⟨h, _⟩ | ⟨_, _, h, _⟩
      · cases h
      · exact h
    have c2 : lb ≤ cb := by
      rcases hb with ⟨h, _⟩ | ⟨_, _, h, _⟩
      · cases h
      · exact h
    have c3 : lc ≤ cc := by
      rcases hd with ⟨h, _⟩ | ⟨_, _, h, _⟩
      · cases h
      · exact h
    exact mixes_some b1 o1 b2 o2 b3 o3 la ca lb cb lc cc n _ _ _ w hc hla c1 c2 c3 hmin hna hnb hnc h1 h2 h3
end Go.Proofs.YtpplhafbmcgahaaDoor
