/- What the statement's function CrcPieces does, where the cuts are at most 2^20. -/
import Derived.Test.YtpplhafbmcgahaaDoorParts
import Derived.Deep.AppendLies
namespace Go.Proofs.YtpplhafbmcgahaaDoor
open Go.RowKit
theorem info23 : (Tryd.prog.info? 23).map (fun i => (i.zero, i.size, i.bytes)) = some (some (.slice none 0 0), 1, 24) := by kernel_rfl

/-- Where a slice that is cut at lo begins. -/
def cutA (a : Option Addr) (lo cap : Nat) : Option Addr := if cap = lo then a else a.map (·.add (lo * 1))
/-- The slice of a piece, as a value; the bytes of it. -/
def pieceVal (a : Option Addr) (cap : Nat) (q : Nat × Nat) : Value := .slice (cutA a q.1 cap) (q.2 - q.1) (cap - q.1)
def pieceBytes (l : List Int) (q : Nat × Nat) : List Int := (l.drop q.1).take (q.2 - q.1)
def pieceVals (a : Option Addr) (cap : Nat) (P : List (Nat × Nat)) : List Value := P.map (pieceVal a cap)

theorem size23 (wx : World) : (sizeOf (Tryd.prog.elem 23)).run Tryd.prog wx = .ok 1 wx := by kernel_rfl
theorem elem23 : Tryd.prog.underlying 23 = some (.slice (Tryd.prog.elem 23)) := by kernel_rfl
theorem cut_both (a : Option Addr) (len cap lo hi : Nat) (h1 : lo ≤ hi) (h2 : hi ≤ cap) (wx : World) :
    (Instr.slice 23 (.slice a len cap) (some (.int .i64 (lo : Int))) (some (.int .i64 (hi : Int))) none).run Tryd.prog wx = .ok (.slice (cutA a lo cap) (hi - lo) (cap - lo)) wx := by
  rw [run_slice_lh (P := Tryd.prog) wx 23 a len cap elem23 .i64 .i64 lo hi (by omega) (by omega) (by omega), size23]
  rfl
theorem cut_low (a : Option Addr) (len cap lo : Nat) (h1 : lo ≤ len) (wx : World) :
    (Instr.slice 23 (.slice a len cap) (some (.int .i64 (lo : Int))) none none).run Tryd.prog wx = .ok (.slice (cutA a lo cap) (len - lo) (cap - lo)) wx := by
  rw [run_slice_l (P := Tryd.prog) wx 23 a len cap elem23 .i64 lo (by omega) (by omega), size23]
  rfl
theorem Bytes.cut {w : World} {a : Option Addr} {len : Nat} {l : List Int} (h : Bytes w a len l) (cap lo hi : Nat) (h1 : lo ≤ hi) (h2 : hi ≤ len) (h3 : len ≤ cap) : Bytes w (cutA a lo cap) (hi - lo) (pieceBytes l (lo, hi)) := by
  have hs := h.size
  have hm := h.most
  have hg : ∀ i, i < hi - lo → (pieceBytes l (lo, hi)).getD i 0 = l.getD (lo + i) 0 := by
    intro i hi'
    simp [pieceBytes, List.getD, hi', List.getElem?_drop]
  refine ⟨by simp [pieceBytes]; omega, by omega, ?_, ?_⟩
  · intro i hi'
    obtain ⟨b, o, e, hx⟩ := h.cell (lo + i) (by omega)
    refine ⟨b, o + lo, ?_, by rw [hg i hi', Nat.add_assoc]; exact hx⟩
    unfold cutA
    rw [if_neg (by omega), e]
    by_cases h0 : lo = 0 <;> simp [Addr.add, h0]
  · intro i
    by_cases hi' : i < hi - lo
    · rw [hg i hi']; exact h.byte _
    · simp [pieceBytes, List.getD, List.getElem?_take, hi']

/-- How a list of ints lies in memory. -/
structure Ints (w : World) (a : Option Addr) (len : Nat) (l : List Int) : Prop where
  cell : ∀ i, i < len → ∃ b o, a = some ⟨b, o, none⟩ ∧ w.cell? ⟨b, o + i, none⟩ = some (.int .i64 (l.getD i 0))
  wide : ∀ i, -9223372036854775808 ≤ l.getD i 0 ∧ l.getD i 0 ≤ 9223372036854775807
theorem Ints.below {w w' : World} {a : Option Addr} {len : Nat} {l : List Int} (h : Ints w a len l) (hb : Below w.heap.size w w') : Ints w' a len l := by
  refine ⟨?_, h.wide⟩
  intro i hi
  obtain ⟨b, o, e, hx⟩ := h.cell i hi
  refine ⟨b, o, e, ?_⟩
  have hlt : b < w.heap.size := by
    rcases Nat.lt_or_ge b w.heap.size with hz | hz
    · exact hz
    · simp [World.cell?, hz] at hx
  rw [hb.cell (p := ⟨b, o + i, none⟩) hlt]
  exact hx
theorem IsRow.ints {w : World} {a : Option Addr} {len cap : Nat} {zs : List Int} (h : IsRow .i64 w a len cap zs) : Ints w a len zs := by
  rcases h with ⟨rfl, rfl, rfl, rfl⟩ | ⟨⟨b, o, sp⟩, rfl, hl, hm, hz, hcell, hwf⟩
  · exact ⟨fun i hi => by omega, fun i => by simp⟩
  · refine ⟨?_, ?_⟩
    · intro i hi
      have hsp : sp = none := by simpa [Addr.add] using World.cell?_spot (hcell 0 (by omega))
      subst hsp
      have hc := hcell i (by omega)
      have e : (⟨b, o, none⟩ : Addr).add i = ⟨b, o + i, none⟩ := by
        by_cases h : i = 0 <;> simp [Addr.add, h]
      refine ⟨b, o, rfl, ?_⟩
      rw [← e]
      exact hc
    · intro i
      by_cases hi : i < zs.length
      · have h1 := hwf (zs.getD i 0) (by simp [List.getD, hi])
        have h2 := bounds_i64 h1
        omega
      · simp [List.getD, hi]
theorem elem31 : Tryd.prog.underlying 31 = some (.slice (Tryd.prog.elem 31)) := by kernel_rfl
theorem ints_index (b o len cap k : Nat) (hk : k < len) (wx : World) : (Instr.indexAt 31 (.slice (some ⟨b, o, none⟩) len cap) (.int .i64 (k : Int))).run Tryd.prog wx = .ok (.pointer (some ⟨b, o + k, none⟩)) wx := by
  rw [run_indexAt_slice (P := Tryd.prog) wx 31 _ len cap .i64 k elem31, if_pos ⟨by omega, by omega⟩]
  have es : (sizeOf (Tryd.prog.elem 31)).run Tryd.prog wx = .ok 1 wx := by kernel_rfl
  rw [es]
  by_cases h0 : k = 0 <;> simp [Addr.add, h0, Result.andThen]

/-- What the pieces so far are: they make up the bytes up to p. -/
structure Upto (l : List Int) (len p : Nat) (P : List (Nat × Nat)) : Prop where
  all : (P.map (pieceBytes l)).flatten = l.take p
  each : ∀ q ∈ P, q.1 ≤ q.2 ∧ q.2 ≤ len
theorem Upto.next {l : List Int} {len p q : Nat} {P : List (Nat × Nat)} (h : Upto l len p P) (h1 : p ≤ q) (h2 : q ≤ len) : Upto l len q (P ++ [(p, q)]) := by
  refine ⟨?_, ?_⟩
  · rw [List.map_append, List.flatten_append, h.all]
    simp only [List.map_cons, List.map_nil, List.flatten_cons, List.flatten_nil, List.append_nil, pieceBytes]
    have e : q = p + (q - p) := by omega
    rw [e, List.take_add, ← e]
  · intro x hx
    rcases List.mem_append.1 hx with hx | hx
    · exact h.each x hx
    · simp only [List.mem_singleton] at hx
      subst hx
      exact ⟨h1, h2⟩
theorem take_next (l : List Int) (p q : Nat) (h1 : p ≤ q) : l.take q = l.take p ++ pieceBytes l (p, q) := by
  have e : q = p + (q - p) := by omega
  unfold pieceBytes
  rw [e, List.take_add, ← e]

theorem lists_of_owns {w : World} {base g n cap cb lb : Nat} {ab : Option Addr} {l : List Int} {P : List (Nat × Nat)} (h : w.ownsRow base 23 1 (.slice (some ⟨g, 0, none⟩) n cap) n (pieceVals ab cb P))
    (he : ∀ q ∈ P, q.1 ≤ q.2 ∧ q.2 ≤ lb) (hb : Bytes w ab lb l) (hcb : lb ≤ cb) (hm : n ≤ maxLen) : Lists w (some ⟨g, 0, none⟩) n (P.map (pieceBytes l)) := by
  have h1 := h.1
  simp only [pieceVals, List.length_map] at h1
  refine ⟨by simp; omega, hm, ?_⟩
  intro i hi
  have hP : i < P.length := by omega
  have hq := he P[i] (List.getElem_mem hP)
  refine ⟨g, 0, cutA ab P[i].1 cb, P[i].2 - P[i].1, cb - P[i].1, rfl, ?_, ?_⟩
  · rw [Nat.zero_add, h.cellAt i (by omega)]
    simp [pieceVals, pieceVal, hP]
  · have e : (P.map (pieceBytes l)).getD i [] = pieceBytes l (P[i].1, P[i].2) := by simp [List.getD, hP]
    rw [e]
    exact hb.cut cb _ _ hq.1 hq.2 hcb
theorem pieceVals_snoc (a : Option Addr) (cap : Nat) (P : List (Nat × Nat)) (p q : Nat) : pieceVals a cap (P ++ [(p, q)]) = pieceVals a cap P ++ [.slice (cutA a p cap) (q - p) (cap - p)] := by simp [pieceVals, pieceVal]

set_option maxHeartbeats 1000000 in
theorem pieces_walk (ab ac : Option Addr) (lb cb lc cc : Nat) (l cs : List Int) (w : World) (hc : TabOk w) (hlc : lc ≤ 1048576) (hcb : lb ≤ cb) (hlb : lb * 1 ≤ 140737488351232)
    (hb : Bytes w ab lb l) (hi : Ints w ac lc cs) :
    Calls Tryd.prog 5 #[.slice ab lb cb, .slice ac lc cc] w fun e w' => e = .returned (.bool true) ∧ Below w.heap.size w w' := by
  obtain ⟨i0, hi0, hz0, hz1, hz2⟩ := info_parts info23
  have Hs : Hid (l.length = lb) := hb.size
  go_enter Tryd.func5, Tryd.ntmps5
  go_wp2_with fail
  refine (wakes_any _ hc).mono ?_
  rintro e w1 ⟨rfl, hw⟩
  go_wp2_with fail
  go_loopw [5, 6, 7, 9, 14] (fun lv atv sv _ ix wr => ∃ (k p : Nat) (P : List (Nat × Nat)), k ≤ lc ∧ p ≤ lb ∧ P.length ≤ k ∧ ix = .int .i64 k ∧ atv = .int .i64 p ∧ sv = .int .u32 (Crc.add 0 (l.take p)) ∧
      wr.ownsRow w.heap.size 23 1 lv P.length (pieceVals ab cb P) ∧ Upto l lb p P ∧ Below w.heap.size w wr) (fun _ _ _ _ ix _ => lc - (intOf ix).toNat)
  case atStart =>
    refine ⟨0, 0, [], by omega, by omega, by simp, rfl, rfl, ?_, World.ownsRow_nil _ _ _ _, ⟨rfl, by simp⟩, hw⟩
    rw [List.take_zero, Crc.add_nil (by omega) (by omega)]
  case round =>
    obtain ⟨k, p, P, hk, hp, hPk, rfl, rfl, rfl, hown, hup, hwr⟩ := hrel
    have hr := Crc.add_range 0 (l.take p)
    by_cases hkc : k < lc
    · have hkc' : (k : Int) < (lc : Int) := by omega
      obtain ⟨bc, oc, hac, hcell⟩ := (hi.below hwr).cell k hkc
      have hwide := hi.wide k
      have hidx : ∀ wx, (Instr.indexAt 31 (.slice ac lc cc) (.int .i64 (k : Int))).run Tryd.prog wx = .ok (.pointer (some ⟨bc, oc + k, none⟩)) wx := by
        rw [hac]; exact ints_index bc oc lc cc k hkc
      clear hac
      generalize cs.getD k 0 = c at *
      by_cases h1 : c < (p : Int)
      · have h1' : decide (c < (p : Int)) = true := by simpa using h1
        go_wp2_with fail
        exact ⟨⟨k + 1, p, P, by omega, hp, by omega, by go_num, rfl, rfl, hown, hup, hwr⟩, by simp [intOf]; omega⟩
      · have h1' : decide (c < (p : Int)) = false := by simpa using h1
        by_cases h2 : (lb : Int) < c
        · go_wp2_with fail
          exact ⟨⟨k + 1, p, P, by omega, hp, by omega, by go_num, rfl, rfl, hown, hup, hwr⟩, by simp [intOf]; omega⟩
        · obtain ⟨q, rfl⟩ := Int.eq_ofNat_of_zero_le (show 0 ≤ c by omega)
          have hpq : p ≤ q := by omega
          have hqb : q ≤ lb := by omega
          have hsl := cut_both ab lb cb p q hpq (by omega)
          go_wp2_with (at_builtin; refine wpList_append_own _ rfl _ _ 28 rfl w.heap.size 23 i0 (.slice none 0 0) 1 24 Tryd.underlying28 hi0 hz0 hz1 hz2 rfl (by decide) _ P.length _ rfl (hown.alloc _) ⟨wr.heap.size, 0, none⟩ 1 1 [.slice (cutA ab p cb) (q - p) (cb - p)] rfl rfl (cell_one_new _ _ _) ?c2 ?c3 ?c4 ?c5 ?_)
          case c2 => rfl
          case c3 => unfold maxLen; omega
          case c4 => omega
          case c5 => have := hwr.size; simp; omega
          intro v' w3 hown' hgrow _
          have hw3 : Below w.heap.size w w3 := (hwr.alloc hwr.size _).grown hgrow (by have := hwr.size; simp; omega) (fun k hk => (hown.lt k hk).1)
          have h3 := (hb.below hw3).cut cb p q hpq hqb hcb
          have ht3 := hc.below hw3
          have Hadd : Hid (Crc.add (Crc.add 0 (l.take p)) (pieceBytes l (p, q)) = Crc.add 0 (l.take q)) := by
            rw [show Hid (Crc.add (Crc.add 0 (l.take p)) (pieceBytes l (p, q)) = Crc.add 0 (l.take q)) = (Crc.add (Crc.add 0 (l.take p)) (pieceBytes l (p, q)) = Crc.add 0 (l.take q)) from rfl, ← Crc.add_append, ← take_next l p q hpq]
          have Hown : Hid (w3.ownsRow w.heap.size 23 1 v' (P ++ [(p, q)]).length (pieceVals ab cb (P ++ [(p, q)]))) := by
            rw [pieceVals_snoc, List.length_append]
            exact hown'
          clear hown' hgrow
          go_wp2_with fail
          refine (add_any _ _ _ _ (pieceBytes l (p, q)) _ hr.1 hr.2 ht3 h3).mono ?_
          rintro e w' ⟨rfl, rfl⟩
          go_wp2_with fail
          exact ⟨⟨k + 1, q, P ++ [(p, q)], by omega, hqb, by simp; omega, by go_num, rfl, by rw [Hadd.out], Hown.out, hup.next hpq hqb, hw3⟩, by simp [intOf]; omega⟩
    · have hkc' : ¬ (k : Int) < (lc : Int) := by omega
      have hsl := cut_low ab lb cb p hp
      go_wp2_with (at_builtin; refine wpList_append_lies _ rfl _ _ 28 rfl w.heap.size 23 i0 (.slice none 0 0) 1 24 Tryd.underlying28 hi0 hz0 hz1 hz2 rfl (by decide) _ P.length _ rfl (hown.alloc _) ⟨wr.heap.size, 0, none⟩ 1 1 [.slice (cutA ab p cb) (lb - p) (cb - p)] rfl rfl (cell_one_new _ _ _) ?c2 (by omega) ?c3 ?c4 ?c5 _ rfl ?_)
      case c2 => rfl
      case c3 => unfold maxLen; omega
      case c4 => omega
      case c5 => have := hwr.size; simp; omega
      intro g cap2 w3 hown' hgrow _ _
      have hw3 : Below w.heap.size w w3 := (hwr.alloc hwr.size _).grown hgrow (by have := hwr.size; simp; omega) (fun k hk => (hown.lt k hk).1)
      have hb3 := hb.below hw3
      have h3 := hb3.cut cb p lb hp (Nat.le_refl _) hcb
      have ht3 := hc.below hw3
      have hup2 := hup.next hp (Nat.le_refl _)
      rw [← pieceVals_snoc] at hown'
      have hL := lists_of_owns hown' hup2.each hb3 hcb (by unfold maxLen; omega)
      have etl : l.take lb = l := List.take_of_length_le (by rw [Hs.out]; exact Nat.le_refl _)
      have Hadd : Hid (Crc.add (Crc.add 0 (l.take p)) (pieceBytes l (p, lb)) = Crc.add 0 l) := by
        rw [show Hid (Crc.add (Crc.add 0 (l.take p)) (pieceBytes l (p, lb)) = Crc.add 0 l) = (Crc.add (Crc.add 0 (l.take p)) (pieceBytes l (p, lb)) = Crc.add 0 l) from rfl, ← Crc.add_append, ← take_next l p lb hp, etl]
      have Hall : Hid ((((P ++ [(p, lb)]).map (pieceBytes l))).flatten = l) := by
        rw [show Hid ((((P ++ [(p, lb)]).map (pieceBytes l))).flatten = l) = ((((P ++ [(p, lb)]).map (pieceBytes l))).flatten = l) from rfl, hup2.all, etl]
      clear hown' hgrow etl
      go_wp2_with fail
      refine (add_any _ _ _ _ (pieceBytes l (p, lb)) _ hr.1 hr.2 ht3 h3).mono ?_
      rintro e w' ⟨rfl, rfl⟩
      rw [Hadd.out]
      go_wp2_with fail
      refine (sum_any _ _ _ l _ ht3 hb3).mono ?_
      rintro e w' ⟨rfl, rfl⟩
      go_wp2_with fail
      refine (parts_any _ _ _ ((P ++ [(p, lb)]).map (pieceBytes l)) _ ht3 hL).mono ?_
      rintro e w' ⟨rfl, rfl⟩
      rw [Hall.out]
      go_wp2_with fail
      refine (sum_any _ _ _ l _ ht3 hb3).mono ?_
      rintro e w' ⟨rfl, rfl⟩
      go_wp2_with fail
      go_ret
      exact ⟨by simp, hw3⟩

theorem bulk_pos {H : Type} (d : DataW H) : 1 ≤ Rows.uptoBulk d := by
  cases d with
  | lit l => cases l <;> simp [Rows.uptoBulk]
  | _ => simp [Rows.uptoBulk]
theorem bulk_len {H : Type} (l : List (DataW H)) : l.length ≤ Rows.uptoBulkAll l := by
  induction l with
  | nil => simp
  | cons d r ih =>
    have h := bulk_pos d
    simp only [List.length_cons, Rows.uptoBulkAll]
    omega
open Go.ChangeShapes in
/-- The ints that came in are no more than the bound. -/
theorem bulk_ints {H : Type} {enc : TypeId × Value → H} {W : World} {a : Option Addr} {len cap : Nat} {d0 d1 : DataW H} {p : List MemPlace}
    (h : DataW.Trod enc Tryd.prog W 0 (fun _ => true) true 31 (.slice a len cap) d1 p) (hk : Rows.uptoSmall H ([d0, d1] ++ []) = true) : len ≤ 1048576 := by
  have hb := of_decide_eq_true hk
  simp only [List.append_nil, Rows.uptoBulkAll] at hb
  obtain ⟨fuel, hf⟩ := h
  rcases open_ints Tryd.underlying31 Tryd.underlying3 (by kernel_rfl) hf with ⟨hcs, _⟩ | ⟨x, l, c, zs, hcs, _, hl, hm, hz, hx, _⟩
  · simp [Value.cells] at hcs
    omega
  · simp [Value.cells] at hcs
    obtain ⟨rfl, rfl, rfl⟩ := hcs
    simp only [Prod.mk.injEq] at hx
    rw [hx.1] at hb
    simp only [Rows.uptoBulk] at hb
    have h1 := bulk_len (lits (H := H) .i64 (zs.take len))
    simp only [lits, List.length_map, List.length_take] at h1
    simp at hz
    simp only [lits] at hb
    omega
theorem row_cap {k : IntKind} {w : World} {a : Option Addr} {len cap : Nat} {zs : List Int} (h : IsRow k w a len cap zs) : len ≤ cap := by
  rcases h with ⟨_, h1, h2, _⟩ | ⟨_, _, h, _⟩ <;> omega
end Go.Proofs.YtpplhafbmcgahaaDoor
