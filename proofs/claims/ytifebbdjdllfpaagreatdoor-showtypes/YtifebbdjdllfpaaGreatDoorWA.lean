import Derived.Test.YtifebbdjdllfpaaGreatDoorBld
import Derived.Test.YtifebbdjdllfpaaGreatDoorPsA
import Derived.Lib.AppendIntMem
import Derived.Test.YtifebbdjdllfpaaGreatDoorShelf
import Derived.Test.YtifebbdjdllfpaaGreatDoorSxB
import Derived.WalkKit
import Derived.WalkSpells
import Derived.WalkLawsBesides
import Derived.Test.YtifebbdjdllfpaaGreatDoorLxB
import Derived.Defers
import Derived.Deep.Cut
import Derived.Deep.CutRange
import Derived.Deep.RegionWith
import Derived.Deep.LoopGhost
/- The writer of a program's text: what it holds, and how bytes are put behind: a builder that lies in a field, so it is walked anew. -/
namespace Go.Proofs.YtifebbdjdllfpaaGreatDoor
open Go.RowKit
set_option linter.unusedSimpArgs false
set_option linter.unusedVariables false

/-- What lies below base stands; so does whatever is no row of bytes, but for the writer's own block. -/
structure FW (base b : Nat) (w w' : World) : Prop where
  below : Below base w w'
  kept : Lib.OthersKept 5 (some b) w w'
theorem FW.refl (base b : Nat) (w : World) : FW base b w w := ⟨Below.refl _ _, Lib.OthersKept.refl _ _ _⟩
theorem FW.trans {base b : Nat} {w w1 w2 : World} (h : FW base b w w1) (k : FW base b w1 w2) : FW base b w w2 := ⟨h.below.trans k.below, h.kept.trans k.kept⟩
theorem FW.size {base b : Nat} {w w1 : World} (h : FW base b w w1) : w.heap.size ≤ w1.heap.size := h.below.size
theorem FW.of_below {base b : Nat} {w w1 : World} (h : Below w.heap.size w w1) (hb : base ≤ w.heap.size) : FW base b w w1 :=
  ⟨h.mono hb, fun k o hk _ _ => (h.block k (Array.getElem?_eq_some_iff.1 hk).1).trans hk⟩
theorem FW.call {base b : Nat} {w w1 w2 : World} (h : FW base b w w1) (k : Below w1.heap.size w1 w2) (hb : base ≤ w1.heap.size) : FW base b w w2 := h.trans (FW.of_below k hb)
theorem FW.alloc {base b : Nat} {w w1 : World} (h : FW base b w w1) (hb : base ≤ w1.heap.size) (o : Obj) : FW base b w (w1.alloc o) := ⟨h.below.alloc hb o, h.kept.alloc o⟩
theorem FW.set {base b : Nat} {w w1 : World} (h : FW base b w w1) (hb : base ≤ b) (j : Nat) (v : Value) : FW base b w (w1.setCell ⟨b, j, none⟩ v) := ⟨h.below.setCell (p := ⟨b, j, none⟩) hb v, h.kept.setCell ⟨b, j, none⟩ rfl v⟩
theorem FW.drewN {base b : Nat} {w w1 : World} (h : FW base b w w1) (n : Nat) : FW base b w (w1.drewN n) := ⟨h.below.trans ⟨rfl, rfl, rfl, Nat.le_refl _, fun _ _ => rfl⟩, fun k o hk hb ho => h.kept k o hk hb ho⟩
theorem FW.drew {base b : Nat} {w w1 : World} (h : FW base b w w1) : FW base b w w1.drew := ⟨h.below.trans ⟨rfl, rfl, rfl, Nat.le_refl _, fun _ _ => rfl⟩, fun k o hk hb ho => h.kept k o hk hb ho⟩
theorem FW.from_drewN {base b : Nat} {w w1 : World} (n : Nat) (h : FW base b (w.drewN n) w1) : FW base b w w1 := ((FW.refl base b w).drewN n).trans h
theorem FW.grown {base b : Nat} {w w1 w2 : World} {v : Value} {n : Nat} {xs : List Value} (h : FW base b w w1) (hg : w1.grownBy w2 v.ownBlock) (hown : w1.ownsRowF base 5 1 v n xs) (hb : base ≤ w1.heap.size) : FW base b w w2 := by
  refine ⟨h.below.grown hg hb (fun k hk => (hown.lt k hk).1), h.kept.grown hg fun g hgr => ?_⟩
  rcases hown.2 with ⟨rfl, _⟩ | ⟨g', cap, cur, fz, rfl, _, hgg, _⟩
  · simp [Value.ownBlock] at hgr
  · simp [Value.ownBlock] at hgr
    subst hgr
    exact ⟨cur, fz, hgg⟩
/-- A block that is no row of bytes and not the writer's stands. -/
theorem FW.block {base b : Nat} {w w1 : World} (h : FW base b w w1) {k : Nat} {cs : Array Value} {t : TypeId} {fz : Nat × Nat} (hk : w.heap[k]? = some (.cells cs t fz)) (hb : k ≠ b) (ht : t ≠ 5) : w1.heap[k]? = some (.cells cs t fz) :=
  h.kept k _ hk (by simpa using hb) (fun c f e => ht (by injection e))
theorem FW.since {base b : Nat} {w w1 : World} (h : FW base b w w1) : Since (fun k => k < base) w w1 := ⟨h.size, fun k h1 _ => h.below.block k h1⟩

abbrev wObj (p v : Value) (tabs : Nat) : Obj := .cells #[p, v, .int .i64 tabs] 65 (0, 0)
abbrev wPtr (b : Nat) : Value := .pointer (some ⟨b, 0, none⟩)
/-- The library's table of powers of ten lies below base. -/
def Tb (base : Nat) (w : World) : Prop := Lib.TabBelow Tryz.prog base w "internal/strconv.uint64pow10" .u64 Lib.pow10Tab
theorem Tb.mono {base : Nat} {w w' : World} (h : Tb base w) (k : Below base w w') : Tb base w' := fun w2 h2 => h w2 (k.trans h2)
/-- At b lies a writer that has written l, and stands behind so many tabs. -/
structure Wr (base b : Nat) (l : List UInt8) (tabs : Nat) (w : World) : Prop where
  le : base ≤ b
  tab : Tb base w
  blk : ∃ p v, (p = .pointer none ∨ p = wPtr b) ∧ w.heap[b]? = some (wObj p v tabs) ∧ w.ownsRowF base 5 1 v l.length (Lib.byteCells l)
theorem Wr.lt {base b : Nat} {l : List UInt8} {tabs : Nat} {w : World} (h : Wr base b l tabs w) : b < w.heap.size := by
  obtain ⟨_, _, p, v, _, hb, _⟩ := h
  exact (Array.getElem?_eq_some_iff.1 hb).1
theorem Wr.base {base b : Nat} {l : List UInt8} {tabs : Nat} {w : World} (h : Wr base b l tabs w) : base ≤ w.heap.size := by have := h.le; have := h.lt; omega
theorem owns_apart {w : World} {base b n : Nat} {p v : Value} {tabs : Nat} {xs : List Value} (hb : w.heap[b]? = some (wObj p v tabs)) {v' : Value} (hown : w.ownsRowF base 5 1 v' n xs) : v'.ownBlock ≠ some b := by
  rcases hown.2 with ⟨rfl, _⟩ | ⟨g', cap, cur, fz, rfl, _, hgg, _⟩
  · simp [Value.ownBlock]
  · simp only [Value.ownBlock]
    intro e
    simp only [Option.some.injEq] at e
    subst e
    rw [hb] at hgg
    simp at hgg
theorem ownsF_of_block {w w' : World} {base n : Nat} {v : Value} {xs : List Value} (hown : w.ownsRowF base 5 1 v n xs) (h : ∀ k, v.ownBlock = some k → w'.heap[k]? = w.heap[k]?) : w'.ownsRowF base 5 1 v n xs := by
  obtain ⟨h1, h2⟩ := hown
  refine ⟨h1, ?_⟩
  rcases h2 with h2 | ⟨g', cap, cur, fz, rfl, r1, hgg, r⟩
  · exact Or.inl h2
  · exact Or.inr ⟨g', cap, cur, fz, rfl, r1, (h g' (by simp [Value.ownBlock])).trans hgg, r⟩
theorem Wr.call {base b : Nat} {l : List UInt8} {tabs : Nat} {w w' : World} (h : Wr base b l tabs w) (k : Below w.heap.size w w') : Wr base b l tabs w' := by
  have hlt := h.lt
  obtain ⟨h0, ht, p, v, hp, hb, ho⟩ := h
  exact ⟨h0, ht.mono (k.mono (by omega)), p, v, hp, (k.block b hlt).trans hb, ownsF_of_block ho fun g hg => k.block g (ho.lt g hg).2⟩
theorem Wr.alloc {base b : Nat} {l : List UInt8} {tabs : Nat} {w : World} (h : Wr base b l tabs w) (o : Obj) : Wr base b l tabs (w.alloc o) := h.call ((Below.refl _ _).alloc (Nat.le_refl _) o)
theorem Wr.drewN {base b : Nat} {l : List UInt8} {tabs : Nat} {w : World} (h : Wr base b l tabs w) (n : Nat) : Wr base b l tabs (w.drewN n) := h.call ⟨rfl, rfl, rfl, Nat.le_refl _, fun _ _ => rfl⟩
theorem Wr.drew {base b : Nat} {l : List UInt8} {tabs : Nat} {w : World} (h : Wr base b l tabs w) : Wr base b l tabs w.drew := h.call ⟨rfl, rfl, rfl, Nat.le_refl _, fun _ _ => rfl⟩
/-- The tabs are set. -/
theorem Wr.tabs {base b : Nat} {l : List UInt8} {tabs : Nat} {w : World} (h : Wr base b l tabs w) (n : Nat) : Wr base b l n (w.setCell ⟨b, 2, none⟩ (.int .i64 n)) := by
  have hlt := h.lt
  obtain ⟨h0, ht, p, v, hp, hb, ho⟩ := h
  refine ⟨h0, ht.mono ((Below.refl _ _).setCell (p := ⟨b, 2, none⟩) h0 _), p, v, hp, by simp [World.setCell, Array.getElem?_modify, hb], ownsF_of_block ho fun g hg => ?_⟩
  exact Below.heap_setCell _ _ _ _ (fun e => owns_apart hb ho (by rw [hg, e]))
theorem Wr.cells {base b : Nat} {l : List UInt8} {tabs : Nat} {w : World} (h : Wr base b l tabs w) : w.cell? ⟨b, 2, none⟩ = some (.int .i64 tabs) ∧ w.frozen? ⟨b, 2, none⟩ = false := by
  obtain ⟨_, _, p, v, _, hb, _⟩ := h
  obtain ⟨_, _, h2, _, _, h5⟩ := cells_of3 hb
  exact ⟨h2, h5⟩

set_option maxRecDepth 100000 in
set_option maxHeartbeats 1000000 in
theorem fcheck_fresh (b : Nat) (w : World) (h0 : w.cell? ⟨b, 0, none⟩ = some (.pointer none)) (hsh : w.shape? b = some (65, 3)) (hfz : w.frozen? ⟨b, 0, none⟩ = false) :
    Calls Tryz.prog 84 #[wPtr b] w fun e w' => e = .returned (.tuple #[]) ∧ w' = w.setCell ⟨b, 0, none⟩ (wPtr b) := by
  obtain ⟨j, hj, hjs⟩ := Option.map_eq_some_iff.1 (show (Tryz.prog.info? 63).map (·.size) = some 2 by kernel_rfl)
  have hlies : liesAt Tryz.prog Tryz.prog.depth 65 (3 / Tryz.prog.cellsOf 65) 0 63 1 = true := by kernel_rfl
  go_enter Tryz.func84, Tryz.ntmps84
  go_wp2
  rw [Lib.run_to_unsafe w ⟨b, 0, none⟩ Tryz.underlying60 Tryz.underlying132 hj (by rw [hjs]; decide) hsh (Nat.zero_lt_succ 2)]
  simp only [Result.andThen]
  rw [Oper.upon_value]
  go_wp2
  rw [run_callFunc_extern Tryz.func106 (by kernel_rfl) (by kernel_rfl) (by kernel_rfl) (e := Extern.AbiNoEscape.same) (by kernel_rfl)]
  rw [Lib.run_noEscape]
  simp only [Result.andThen]
  rw [Oper.upon_value]
  go_wp2
  rw [Lib.run_from_unsafe w ⟨b, 0, none⟩ Tryz.underlying132 Tryz.underlying60 hj hsh hlies]
  simp only [Result.andThen]
  rw [Oper.upon_value]
  go_wp2
  go_end0
  exact ⟨rfl, rfl⟩
theorem fcheck_any {base b : Nat} {l : List UInt8} {tabs : Nat} {w : World} (h : Wr base b l tabs w) :
    Calls Tryz.prog 84 #[wPtr b] w fun e w' => e = .returned (.tuple #[]) ∧ (∃ v, w'.heap[b]? = some (wObj (wPtr b) v tabs) ∧ w'.ownsRowF base 5 1 v l.length (Lib.byteCells l)) ∧ FW base b w w' := by
  obtain ⟨h0, ht, p, v, hp, hb, ho⟩ := h
  rcases hp with rfl | rfl
  · obtain ⟨c0, _, _, f0, _, _⟩ := cells_of3 hb
    refine (fcheck_fresh b w c0 (by simp [World.shape?, hb]) f0).mono ?_
    rintro e w' ⟨rfl, rfl⟩
    refine ⟨rfl, ⟨v, by simp [World.setCell, Array.getElem?_modify, hb], ownsF_of_block ho fun g hg => ?_⟩, (FW.refl _ _ _).set h0 0 _⟩
    exact Below.heap_setCell _ _ _ _ (fun e => owns_apart hb ho (by rw [hg, e]))
  · obtain ⟨c0, _, _, f0, _, _⟩ := cells_of3 hb
    refine (check_used b w c0).mono ?_
    rintro e w' ⟨rfl, rfl⟩
    exact ⟨rfl, ⟨v, hb, ho⟩, FW.refl _ _ _⟩
theorem strCells_bytes (s : ByteArray) : Lib.strCells s = Lib.byteCells s.data.toList := by
  simp [Lib.strCells, Lib.byteCells]
theorem byteCells_app (a c : List UInt8) : Lib.byteCells (a ++ c) = Lib.byteCells a ++ Lib.byteCells c := by simp [Lib.byteCells]
set_option maxRecDepth 100000 in
set_option maxHeartbeats 2000000 in
theorem fwrite_any {base b : Nat} {l : List UInt8} {tabs : Nat} {w : World} (h : Wr base b l tabs w) (s : ByteArray) (hlen : l.length + s.size ≤ 140737488355328) :
    Calls Tryz.prog 56 #[wPtr b, .string s] w fun e w' => e = .returned (.tuple #[.int .i64 s.size, .nilIface]) ∧ Wr base b (l ++ s.data.toList) tabs w' ∧ FW base b w w' := by
  obtain ⟨i0, hi, hz⟩ := Option.map_eq_some_iff.1 (show (Tryz.prog.info? 5).map (fun i => (i.zero, i.size, i.bytes)) = some (some (.int .u8 0), 1, 1) by kernel_rfl)
  simp only [Prod.mk.injEq] at hz
  obtain ⟨hz0, hz1, hz2⟩ := hz
  have hle := h.le
  have hbase := h.base
  have htab := h.tab
  go_enter Tryz.func56, Tryz.ntmps56
  go_wp2_with (go_at_call 84; refine (fcheck_any h).mono ?_)
  rintro e w1 ⟨rfl, ⟨v, hbk, hown⟩, hf1⟩
  have hs1 := hf1.size
  obtain ⟨c0, c1, c2, _, _, _⟩ := cells_of3 hbk
  go_wp2_with (at_builtin; refine Lib.wpList_append_own_stringF _ rfl _ _ 61 9 rfl base 5 i0 Tryz.underlying61 Tryz.underlying9 hi hz0 hz1 hz2 _ _ _ rfl hown s rfl ?c3 ?c4 ?c5 ?_)
  case c3 => unfold maxLen; omega
  case c4 => omega
  case c5 => omega
  intro v' w2 hown' hgrow _
  have hlt : b < w1.heap.size := (Array.getElem?_eq_some_iff.1 hbk).1
  have hb2 : w2.heap[b]? = some (wObj (wPtr b) v tabs) := by
    rw [hgrow.block b hlt (fun e => owns_apart hbk hown e.symm)]
    exact hbk
  obtain ⟨d0, d1, d2, _, f1, _⟩ := cells_of3 hb2
  obtain ⟨ao, n', cap, rfl⟩ : ∃ ao n' cap, v' = .slice ao n' cap := by
    rcases hown'.2 with ⟨hv, _⟩ | ⟨g, cap, cur, fz, hv, _⟩
    · exact ⟨_, _, _, hv⟩
    · exact ⟨_, _, _, hv⟩
  go_wp2
  go_ret2
  have hF := (hf1.grown hgrow hown (by omega)).set hle 1 (.slice ao n' cap)
  refine ⟨rfl, ⟨hle, htab.mono hF.below, _, _, Or.inr rfl, by simp [World.setCell, Array.getElem?_modify, hb2]; rfl, ?_⟩, hF⟩
  rw [byteCells_app, ← strCells_bytes, List.length_append, len_list]
  exact ownsF_of_block hown' fun g hg => Below.heap_setCell _ _ _ _ (fun e => owns_apart hb2 hown' (by rw [hg, e]))
set_option maxRecDepth 100000 in
set_option maxHeartbeats 1000000 in
theorem flen_any {base b : Nat} {l : List UInt8} {tabs : Nat} {w : World} (h : Wr base b l tabs w) :
    Calls Tryz.prog 42 #[wPtr b] w fun e w' => e = .returned (.int .i64 l.length) ∧ w' = w := by
  obtain ⟨h0, ht, p, v, hp, hb, ho⟩ := h
  obtain ⟨ao, cap, rfl⟩ : ∃ ao cap, v = .slice ao l.length cap := by
    rcases ho.2 with ⟨hv, h0⟩ | ⟨g, cap, cur, fz, hv, _⟩
    · exact ⟨none, 0, by rw [hv, h0]⟩
    · exact ⟨_, _, hv⟩
  obtain ⟨_, c1, _, _, _, _⟩ := cells_of3 hb
  go_enter Tryz.func42, Tryz.ntmps42
  go_wp2
  go_ret
  exact ⟨rfl, rfl⟩
end Go.Proofs.YtifebbdjdllfpaaGreatDoor
/- The writer of a program's text: it puts pieces behind one another, up to the limit; how a line ends. -/
namespace Go.Proofs.YtifebbdjdllfpaaGreatDoor
open Go.RowKit
set_option linter.unusedSimpArgs false
set_option linter.unusedVariables false

/-- Behind l the piece x is written: all of it, or the text is too long either way. -/
def wrote (l x l' : List UInt8) : Prop := l' = l ++ x ∨ (16384 < l'.length ∧ 16384 < (l ++ x).length)
theorem wrote.refl (l : List UInt8) : wrote l [] l := Or.inl (by simp)
theorem wrote.trans {l x l1 y l2 : List UInt8} (h : wrote l x l1) (k : wrote l1 y l2) : wrote l (x ++ y) l2 := by
  rcases h with rfl | ⟨h1, h2⟩
  · rcases k with rfl | ⟨k1, k2⟩
    · exact Or.inl (by simp)
    · exact Or.inr ⟨k1, by simpa using k2⟩
  · rcases k with rfl | ⟨k1, k2⟩
    · exact Or.inr ⟨by simp; omega, by simp at h2 ⊢; omega⟩
    · exact Or.inr ⟨k1, by simp at h2 ⊢; omega⟩
theorem wrote.over {x l : List UInt8} (h : wrote [] x l) : (16384 < l.length ↔ 16384 < x.length) ∧ (¬ 16384 < l.length → l = x) := by
  rcases h with rfl | ⟨h1, h2⟩
  · simp
  · simp at h2
    exact ⟨⟨fun _ => h2, fun _ => h1⟩, fun h => absurd h1 h⟩
def putL (l s : List UInt8) : List UInt8 := if 16384 < l.length then l else l ++ s
theorem wrote_put (l s : List UInt8) : wrote l s (putL l s) := by
  unfold putL
  split
  · rename_i h
    exact Or.inr ⟨h, by simp; omega⟩
  · exact Or.inl rfl
/-- What is thrown where something can't stand in a text. -/
abbrev thrownF : List PanicEntry := [{ v := .iface 86 (.agg #[.int .i64 11]), recovered := false }]
/-- What the writing of a part does: its text is written behind; or a fault is thrown. -/
def WPost (base b : Nat) (l : List UInt8) (tabs : Nat) (w : World) (r : Option (List UInt8)) (e : Ending) (w' : World) : Prop :=
  match r with
  | some x => e = .returned (.tuple #[]) ∧ ∃ l', wrote l x l' ∧ Wr base b l' tabs w' ∧ FW base b w w'
  | none => e = .panicked thrownF ∧ ∃ l' tabs', Wr base b l' tabs' w' ∧ FW base b w w'

set_option maxRecDepth 100000 in
set_option maxHeartbeats 1000000 in
theorem over_any {base b : Nat} {l : List UInt8} {tabs : Nat} {w : World} (h : Wr base b l tabs w) :
    Calls Tryz.prog 24 #[wPtr b] w fun e w' => e = .returned (.bool (decide (16384 < l.length))) ∧ w' = w := by
  have hlt := h.lt
  go_enter Tryz.func24, Tryz.ntmps24
  go_wp2_with (go_at_call 42; refine (flen_any h).mono ?_; rintro e w' ⟨rfl, rfl⟩)
  go_ret
  refine ⟨?_, rfl⟩
  rw [show decide ((16384 : Int) < (l.length : Int)) = decide (16384 < l.length) from decide_eq_decide.2 (by omega)]
  rfl
set_option maxRecDepth 100000 in
set_option maxHeartbeats 1000000 in
theorem put_any {base b : Nat} {l : List UInt8} {tabs : Nat} {w : World} (h : Wr base b l tabs w) (s : ByteArray) (hs : s.size ≤ 1099511627776) :
    Calls Tryz.prog 38 #[wPtr b, .string s] w fun e w' => e = .returned (.tuple #[]) ∧ Wr base b (putL l s.data.toList) tabs w' ∧ FW base b w w' := by
  have hlt := h.lt
  unfold putL
  by_cases hov : 16384 < l.length
  · have hO := over_any h
    rw [if_pos hov]
    simp only [hov, decide_true] at hO
    go_enter Tryz.func38, Tryz.ntmps38
    go_wp2_with (go_at_call 24; refine hO.mono ?_; rintro e w' ⟨rfl, rfl⟩)
    go_end0
    exact ⟨rfl, h, FW.refl _ _ _⟩
  · have hO := over_any h
    rw [if_neg hov]
    simp only [hov, decide_false] at hO
    go_enter Tryz.func38, Tryz.ntmps38
    go_wp2_with (go_at_call 24; refine hO.mono ?_; rintro e w' ⟨rfl, rfl⟩)
    go_wp2_with (go_at_call 56; refine (fwrite_any h s (by omega)).mono ?_; rintro e w' ⟨rfl, h', hf'⟩)
    go_end0
    exact ⟨rfl, h', hf'⟩
set_option maxRecDepth 100000 in
set_option maxHeartbeats 1000000 in
theorem putD_any {base b : Nat} {l : List UInt8} {tabs : Nat} {w : World} (h : Wr base b l tabs w) (s : ByteArray) (hs : s.size ≤ 1099511627776) (u : FrameMode) :
    CallsD Tryz.prog 38 #[wPtr b, .string s] u w fun e u' w' => u' = u ∧ e = .returned (.tuple #[]) ∧ Wr base b (putL l s.data.toList) tabs w' ∧ FW base b w w' := by
  have hlt := h.lt
  unfold putL
  by_cases hov : 16384 < l.length
  · have hO := over_any h
    rw [if_pos hov]
    simp only [hov, decide_true] at hO
    go_enter_d Tryz.func38, Tryz.ntmps38
    go_wp2_with (go_at_call 24; refine hO.mono ?_; rintro e w' ⟨rfl, rfl⟩)
    go_end0
    exact ⟨rfl, h, FW.refl _ _ _⟩
  · have hO := over_any h
    rw [if_neg hov]
    simp only [hov, decide_false] at hO
    go_enter_d Tryz.func38, Tryz.ntmps38
    go_wp2_with (go_at_call 24; refine hO.mono ?_; rintro e w' ⟨rfl, rfl⟩)
    go_wp2_with (go_at_call 56; refine (fwrite_any h s (by omega)).mono ?_; rintro e w' ⟨rfl, h', hf'⟩)
    go_end0
    exact ⟨rfl, h', hf'⟩
/-- A piece of bytes. -/
theorem put_l {base b : Nat} {l : List UInt8} {tabs : Nat} {w : World} (h : Wr base b l tabs w) (x : List UInt8) (hs : x.length ≤ 1099511627776) :
    Calls Tryz.prog 38 #[wPtr b, .string ⟨x.toArray⟩] w fun e w' => e = .returned (.tuple #[]) ∧ ∃ l', wrote l x l' ∧ Wr base b l' tabs w' ∧ FW base b w w' := by
  refine (put_any h ⟨x.toArray⟩ (by show x.toArray.size ≤ _; simpa using hs)).mono ?_
  rintro e w' ⟨rfl, h', hf⟩
  exact ⟨rfl, _, wrote_put l x, by simpa using h', hf⟩
theorem putD_l {base b : Nat} {l : List UInt8} {tabs : Nat} {w : World} (h : Wr base b l tabs w) (x : List UInt8) (hs : x.length ≤ 1099511627776) (u : FrameMode) :
    CallsD Tryz.prog 38 #[wPtr b, .string ⟨x.toArray⟩] u w fun e u' w' => u' = u ∧ e = .returned (.tuple #[]) ∧ ∃ l', wrote l x l' ∧ Wr base b l' tabs w' ∧ FW base b w w' := by
  refine (putD_any h ⟨x.toArray⟩ (by show x.toArray.size ≤ _; simpa using hs) u).mono ?_
  rintro e u' w' ⟨rfl, rfl, h', hf⟩
  exact ⟨rfl, rfl, _, wrote_put l x, by simpa using h', hf⟩
theorem wrote_tab {l : List UInt8} {k : Nat} {l1 l2 : List UInt8} (h : wrote l (10 :: List.replicate k 9) l1) (k1 : wrote l1 [9] l2) : wrote l (10 :: List.replicate (k + 1) 9) l2 := by
  have := h.trans k1
  rw [List.replicate_succ']
  simpa using this
theorem wrote_stop {l : List UInt8} {k n : Nat} {l1 : List UInt8} (h : wrote l (10 :: List.replicate k 9) l1) (hk : k ≤ n) (ho : 16384 < l1.length) : wrote l (10 :: List.replicate n 9) l1 := by
  right
  refine ⟨ho, ?_⟩
  rcases h with rfl | ⟨_, h2⟩
  · simp at ho ⊢; omega
  · simp at h2 ⊢; omega
set_option maxRecDepth 100000 in
set_option maxHeartbeats 4000000 in
theorem line_any {base b : Nat} {l : List UInt8} {tabs : Nat} {w : World} (h : Wr base b l tabs w) (ht : tabs ≤ 1099511627776) :
    Calls Tryz.prog 88 #[wPtr b] w fun e w' => e = .returned (.tuple #[]) ∧ ∃ l', wrote l (10 :: List.replicate tabs 9) l' ∧ Wr base b l' tabs w' ∧ FW base b w w' := by
  have hP := put_l h [10] (by simp)
  go_enter Tryz.func88, Tryz.ntmps88
  go_wp2_with (go_at_call 38; refine hP.mono ?_; rintro e w1 ⟨rfl, l1, hw1, h1, hf1⟩)
  clear hP
  go_loopg [2] tabs (fun g i wr => ∃ (k : Nat) (lk : List UInt8), k ≤ tabs ∧ g = tabs - k ∧ i = .int .i64 k ∧ wrote l (10 :: List.replicate k 9) lk ∧ Wr base b lk tabs wr ∧ FW base b w wr)
  case atStart => exact ⟨0, l1, Nat.zero_le _, rfl, rfl, by simpa using hw1, h1, hf1⟩
  case round =>
    clear h1 hf1 hw1 h
    obtain ⟨k, lk, hk, rfl, rfl, hwk, h1, hf1⟩ := hrel
    have hlt := h1.lt
    obtain ⟨c2, f2⟩ := h1.cells
    have hO := over_any h1
    by_cases hlt2 : k < tabs
    · have hltI : (k : Int) < (tabs : Int) := by omega
      by_cases hov : 16384 < lk.length
      · simp only [hov, decide_true] at hO
        go_wp2_with (go_at_call 24; refine hO.mono ?_; rintro e w' ⟨rfl, rfl⟩)
        go_end0
        exact ⟨rfl, lk, wrote_stop hwk hk hov, h1, hf1⟩
      · simp only [hov, decide_false] at hO
        have hP := put_l h1 [9] (by simp)
        go_wp2_with (go_at_call 24; refine hO.mono ?_; rintro e w' ⟨rfl, rfl⟩)
        go_wp2_with (go_at_call 38; refine hP.mono ?_; rintro e w2 ⟨rfl, l2, hw2, h2, hf2⟩)
        go_wp2
        go_roundg (tabs - (k + 1))
        case measure => omega
        case rel => exact ⟨k + 1, l2, by omega, rfl, by go_num, wrote_tab hwk hw2, h2, hf1.trans hf2⟩
    · have hltI : ¬ (k : Int) < (tabs : Int) := by omega
      have hke : k = tabs := by omega
      go_wp2
      go_end0
      exact ⟨rfl, lk, by rw [← hke]; exact hwk, h1, hf1⟩
end Go.Proofs.YtifebbdjdllfpaaGreatDoor
/- Type: the program's. -/
namespace Go.Proofs.YtifebbdjdllfpaaGreatDoor
open Go.RowKit
open Px (Ty IsTy)
set_option linter.unusedSimpArgs false
set_option linter.unusedVariables false

/-- What stands between a and c; none: s does not begin and end so. -/
def betw (s a c : List UInt8) : Option (List UInt8) := if (Lib.hasPrefix s a && Lib.hasSuffix (Lib.trimPrefix s a) c) = true then some (Lib.trimSuffix (Lib.trimPrefix s a) c) else none
theorem pre_iff (s a : List UInt8) : Lib.hasPrefix s a = true ↔ ∃ y, s = a ++ y := by
  rw [Lib.hasPrefix, List.isPrefixOf_iff_prefix]
  exact ⟨fun ⟨y, h⟩ => ⟨y, h.symm⟩, fun ⟨y, h⟩ => ⟨y, h.symm⟩⟩
theorem suf_iff (s a : List UInt8) : Lib.hasSuffix s a = true ↔ ∃ y, s = y ++ a := by
  rw [Lib.hasSuffix, List.isSuffixOf_iff_suffix]
  exact ⟨fun ⟨y, h⟩ => ⟨y, h.symm⟩, fun ⟨y, h⟩ => ⟨y, h.symm⟩⟩
theorem betw_iff (s a c y : List UInt8) : betw s a c = some y ↔ s = a ++ y ++ c := by
  unfold betw
  constructor
  · intro h
    split at h
    · rename_i h1
      simp only [Bool.and_eq_true] at h1
      obtain ⟨z, rfl⟩ := (pre_iff s a).1 h1.1
      have e : Lib.trimPrefix (a ++ z) a = z := by simp [Lib.trimPrefix, h1.1]
      rw [e] at h h1
      obtain ⟨z2, rfl⟩ := (suf_iff z c).1 h1.2
      simp [Lib.trimSuffix, h1.2] at h
      subst h
      simp
    · cases h
  · rintro rfl
    have h1 : Lib.hasPrefix (a ++ y ++ c) a = true := (pre_iff _ _).2 ⟨y ++ c, by simp⟩
    have e : Lib.trimPrefix (a ++ y ++ c) a = y ++ c := by rw [Lib.trimPrefix, if_pos h1]; simp
    have h2 : Lib.hasSuffix (y ++ c) c = true := (suf_iff _ _).2 ⟨y, rfl⟩
    rw [e, h1, h2]
    simp [Lib.trimSuffix, h2]
def elemT (s : List UInt8) : Option (List UInt8) :=
  match betw s [91] [93] with
  | some y => some y
  | none => match betw s [123, 105, 110, 116, 58] [125] with
    | some y => some y
    | none => betw s [123, 116, 101, 120, 116, 58] [125]
def tyF : Nat → List UInt8 → Bool
  | 0, _ => false
  | f + 1, s => if s = [105, 110, 116] ∨ s = [98, 111, 111, 108] ∨ s = [116, 101, 120, 116] then true else match elemT s with
    | some y => tyF f y
    | none => false
theorem betw_none (s a c : List UInt8) (h : ∀ y, s ≠ a ++ y ++ c) : betw s a c = none := by
  rcases hb : betw s a c with _ | y
  · rfl
  · exact absurd ((betw_iff s a c y).1 hb) (h y)
theorem tyF_of : ∀ (f : Nat) (s : List UInt8), tyF f s = true → IsTy f s
  | 0, s, h => by simp [tyF] at h
  | f + 1, s, h => by
    rw [tyF] at h
    split at h
    · rename_i h1
      rcases h1 with rfl | rfl | rfl
      · exact ⟨_, .int⟩
      · exact ⟨_, .bool⟩
      · exact ⟨_, .text⟩
    · rcases he : elemT s with _ | y
      · rw [he] at h; simp at h
      · rw [he] at h
        obtain ⟨c, hc⟩ := tyF_of f y h
        unfold elemT at he
        rcases h1 : betw s [91] [93] with _ | y1
        · rw [h1] at he
          rcases h2 : betw s [123, 105, 110, 116, 58] [125] with _ | y2
          · rw [h2] at he
            have e := (betw_iff _ _ _ _).1 he
            have t := Ty.map (a := [116, 101, 120, 116]) (Or.inr rfl) hc
            exact ⟨_, by rw [e]; simpa using t⟩
          · rw [h2] at he
            simp at he; subst he
            have e := (betw_iff _ _ _ _).1 h2
            have t := Ty.map (a := [105, 110, 116]) (Or.inl rfl) hc
            exact ⟨_, by rw [e]; simpa using t⟩
        · rw [h1] at he
          simp at he; subst he
          have e := (betw_iff _ _ _ _).1 h1
          exact ⟨_, by rw [e]; exact Ty.list hc⟩
theorem tyF_ty {k : Nat} {y : List UInt8} {c : List Lx.Tok} (h : Ty k y c) : tyF k y = true := by
  induction h with
  | int => simp [tyF]
  | bool => simp [tyF]
  | text => simp [tyF]
  | @list k y c h ih =>
    have e : elemT ([91] ++ y ++ [93]) = some y := by
      unfold elemT
      rw [(betw_iff _ _ _ y).2 rfl]
    rw [tyF, if_neg (by simp), e]
    exact ih
  | @map k a y c ha h ih =>
    have e : elemT ([123] ++ a ++ [58] ++ y ++ [125]) = some y := by
      unfold elemT
      rw [betw_none _ _ _ (fun z => by simp)]
      rcases ha with rfl | rfl
      · rw [(betw_iff _ _ _ y).2 (by simp)]
      · rw [betw_none _ _ _ (fun z => by simp)]
        exact (betw_iff _ _ _ y).2 (by simp)
    rw [tyF, if_neg (by simp), e]
    exact ih
theorem tyF_iff (f : Nat) (s : List UInt8) : tyF f s = true ↔ IsTy f s := ⟨tyF_of f s, fun ⟨_, h⟩ => tyF_ty h⟩
theorem gType_tyF (s : List UInt8) : gType s = tyF 4 s := by
  unfold gType
  by_cases h : IsTy 4 s
  · rw [if_pos h, (tyF_iff 4 s).2 h]
  · rw [if_neg h]
    rcases ht : tyF 4 s with _ | _
    · rfl
    · exact absurd ((tyF_iff 4 s).1 ht) h

set_option maxRecDepth 100000 in
set_option maxHeartbeats 1000000 in
theorem between_any (s a c : ByteArray) (w : World) (hs : s.size ≤ maxLen) :
    Calls Tryz.prog 67 #[.string s, .string a, .string c] w fun e w' => (∃ z, e = .returned (.tuple #[.string z, .bool (betw s.data.toList a.data.toList c.data.toList).isSome]) ∧ z.size ≤ s.size ∧ ∀ y, betw s.data.toList a.data.toList c.data.toList = some y → z = ⟨y.toArray⟩) ∧ w' = w := by
  have hl : (Lib.trimPrefix s.data.toList a.data.toList).length ≤ s.size := by
    unfold Lib.trimPrefix
    have : s.data.toList.length = s.size := by simp
    split <;> simp <;> omega
  have hz : (Lib.trimSuffix (Lib.trimPrefix s.data.toList a.data.toList) c.data.toList).length ≤ s.size := by
    refine Nat.le_trans ?_ hl
    generalize Lib.trimPrefix s.data.toList a.data.toList = q
    unfold Lib.trimSuffix
    split <;> simp
  have h1 := Tryz.strings_CutPrefix s a w
  have h2 := Tryz.strings_CutSuffix ⟨(Lib.trimPrefix s.data.toList a.data.toList).toArray⟩ c w (by show (Lib.trimPrefix s.data.toList a.data.toList).toArray.size ≤ _; unfold maxLen at hs; simp; omega)
  have hr : (betw s.data.toList a.data.toList c.data.toList).isSome = (Lib.hasPrefix s.data.toList a.data.toList && Lib.hasSuffix (Lib.trimPrefix s.data.toList a.data.toList) c.data.toList) := by
    unfold betw
    split
    · rename_i h; rw [h]; rfl
    · rename_i h; simp only [Bool.not_eq_true] at h; rw [h]; rfl
  have hy : ∀ y, betw s.data.toList a.data.toList c.data.toList = some y → y = Lib.trimSuffix (Lib.trimPrefix s.data.toList a.data.toList) c.data.toList := by
    intro y h
    unfold betw at h
    split at h
    · simpa using h.symm
    · cases h
  rw [hr]
  have hd : (ByteArray.mk (Lib.trimPrefix s.data.toList a.data.toList).toArray).data.toList = Lib.trimPrefix s.data.toList a.data.toList := by simp
  rw [hd] at h2
  clear hd hl
  generalize Lib.trimSuffix (Lib.trimPrefix s.data.toList a.data.toList) c.data.toList = z at *
  generalize Lib.hasSuffix (Lib.trimPrefix s.data.toList a.data.toList) c.data.toList = q at *
  generalize Lib.trimPrefix s.data.toList a.data.toList = z1 at *
  generalize Lib.hasPrefix s.data.toList a.data.toList = p at *
  have hf : (∃ z' : ByteArray, Ending.returned (.tuple #[.string ⟨z.toArray⟩, .bool (p && q)]) = .returned (.tuple #[.string z', .bool (p && q)]) ∧ z'.size ≤ s.size ∧ ∀ y, betw s.data.toList a.data.toList c.data.toList = some y → z' = ⟨y.toArray⟩) :=
    ⟨⟨z.toArray⟩, rfl, by show z.toArray.size ≤ _; simpa using hz, fun y h => by rw [hy y h]⟩
  clear hy hr hz
  cases p
  all_goals
    go_enter Tryz.func67, Tryz.ntmps67
    go_wp2_with (go_at_call 93; refine h1.mono ?_; rintro e w' ⟨rfl, rfl⟩)
    go_wp2_with (go_at_call 94; refine h2.mono ?_; rintro e w' ⟨rfl, rfl⟩)
    go_wp2
    go_ret2
    exact ⟨by simpa using hf, rfl⟩
theorem between_yes (s : ByteArray) (a c y : List UInt8) (w : World) (hs : s.size ≤ maxLen) (h : betw s.data.toList a c = some y) :
    Calls Tryz.prog 67 #[.string s, .string ⟨a.toArray⟩, .string ⟨c.toArray⟩] w fun e w' => e = .returned (.tuple #[.string ⟨y.toArray⟩, .bool true]) ∧ w' = w := by
  refine (between_any s ⟨a.toArray⟩ ⟨c.toArray⟩ w hs).mono ?_
  rintro e w' ⟨⟨z, rfl, _, hz⟩, rfl⟩
  simp only [List.toList_toArray] at hz ⊢
  rw [h, hz y h]
  exact ⟨rfl, trivial⟩
theorem between_no (s : ByteArray) (a c : List UInt8) (w : World) (hs : s.size ≤ maxLen) (h : betw s.data.toList a c = none) :
    Calls Tryz.prog 67 #[.string s, .string ⟨a.toArray⟩, .string ⟨c.toArray⟩] w fun e w' => (∃ z, e = .returned (.tuple #[.string z, .bool false])) ∧ w' = w := by
  refine (between_any s ⟨a.toArray⟩ ⟨c.toArray⟩ w hs).mono ?_
  rintro e w' ⟨⟨z, rfl, _, hz⟩, rfl⟩
  simp only [List.toList_toArray]
  rw [h]
  exact ⟨⟨z, rfl⟩, trivial⟩
set_option maxRecDepth 100000 in
set_option maxHeartbeats 1000000 in
theorem element_no (s : ByteArray) (w : World) (hs : s.size ≤ maxLen) (h : elemT s.data.toList = none) :
    Calls Tryz.prog 46 #[.string s] w fun e w' => (∃ z, e = .returned (.tuple #[.string z, .bool false])) ∧ w' = w := by
  unfold elemT at h
  rcases e1 : betw s.data.toList [91] [93] with _ | y1
  · rw [e1] at h
    rcases e2 : betw s.data.toList [123, 105, 110, 116, 58] [125] with _ | y2
    · rw [e2] at h
      have h1 := between_no s _ _ w hs e1
      have h2 := between_no s _ _ w hs e2
      have h3 := between_no s _ _ w hs h
      clear e1 e2 h
      go_enter Tryz.func46, Tryz.ntmps46
      go_wp2_with fail
      refine h1.mono ?_
      rintro e w' ⟨⟨z1, rfl⟩, rfl⟩
      go_wp2_with fail
      refine h2.mono ?_
      rintro e w' ⟨⟨z2, rfl⟩, rfl⟩
      go_wp2_with fail
      refine h3.mono ?_
      rintro e w' ⟨⟨z3, rfl⟩, rfl⟩
      go_wp2
      go_ret2
      exact ⟨⟨z3, rfl⟩, rfl⟩
    · rw [e2] at h; cases h
  · rw [e1] at h; cases h
set_option maxRecDepth 100000 in
set_option maxHeartbeats 1000000 in
theorem element_yes (s : ByteArray) (y : List UInt8) (w : World) (hs : s.size ≤ maxLen) (h : elemT s.data.toList = some y) :
    Calls Tryz.prog 46 #[.string s] w fun e w' => e = .returned (.tuple #[.string ⟨y.toArray⟩, .bool true]) ∧ w' = w := by
  unfold elemT at h
  rcases e1 : betw s.data.toList [91] [93] with _ | y1
  · rw [e1] at h
    rcases e2 : betw s.data.toList [123, 105, 110, 116, 58] [125] with _ | y2
    · rw [e2] at h
      have h1 := between_no s _ _ w hs e1
      have h2 := between_no s _ _ w hs e2
      have h3 := between_yes s _ _ y w hs h
      clear e1 e2 h
      go_enter Tryz.func46, Tryz.ntmps46
      go_wp2_with fail
      refine h1.mono ?_
      rintro e w' ⟨⟨z1, rfl⟩, rfl⟩
      go_wp2_with fail
      refine h2.mono ?_
      rintro e w' ⟨⟨z2, rfl⟩, rfl⟩
      go_wp2_with fail
      refine h3.mono ?_
      rintro e w' ⟨rfl, rfl⟩
      go_wp2
      go_ret2
      exact ⟨rfl, rfl⟩
    · rw [e2] at h
      simp only [Option.some.injEq] at h
      subst h
      have h1 := between_no s _ _ w hs e1
      have h2 := between_yes s _ _ y2 w hs e2
      clear e1 e2
      go_enter Tryz.func46, Tryz.ntmps46
      go_wp2_with fail
      refine h1.mono ?_
      rintro e w' ⟨⟨z1, rfl⟩, rfl⟩
      go_wp2_with fail
      refine h2.mono ?_
      rintro e w' ⟨rfl, rfl⟩
      go_wp2
      go_ret2
      exact ⟨rfl, rfl⟩
  · rw [e1] at h
    simp only [Option.some.injEq] at h
    subst h
    have h1 := between_yes s _ _ y1 w hs e1
    clear e1
    go_enter Tryz.func46, Tryz.ntmps46
    go_wp2_with fail
    refine h1.mono ?_
    rintro e w' ⟨rfl, rfl⟩
    go_wp2
    go_ret2
    exact ⟨rfl, rfl⟩
theorem elem_len {s y : List UInt8} (h : elemT s = some y) : y.length ≤ s.length := by
  unfold elemT at h
  rcases e1 : betw s [91] [93] with _ | y1
  · rw [e1] at h
    rcases e2 : betw s [123, 105, 110, 116, 58] [125] with _ | y2
    · rw [e2] at h
      rw [(betw_iff _ _ _ _).1 h]; simp; omega
    · rw [e2] at h
      simp only [Option.some.injEq] at h
      subst h
      rw [(betw_iff _ _ _ _).1 e2]; simp; omega
  · rw [e1] at h
    simp only [Option.some.injEq] at h
    subst h
    rw [(betw_iff _ _ _ _).1 e1]; simp; omega
theorem bytes_of {s : ByteArray} {l : List UInt8} (h : s.data.toList = l) : s = ⟨l.toArray⟩ := by
  cases s; simp at h; subst h; simp
set_option maxRecDepth 100000 in
set_option maxHeartbeats 2000000 in
theorem istype_any : ∀ (f d : Nat), d + f = 5 → ∀ (s : ByteArray) (w : World), s.size ≤ maxLen →
    Calls Tryz.prog 27 #[.string s, .int .i64 d] w fun e w' => e = .returned (.bool (tyF f s.data.toList)) ∧ w' = w
  | 0, d, hd, s, w, hs => by
    have hdI : (4 : Int) < (d : Int) := by omega
    go_enter Tryz.func27, Tryz.ntmps27
    go_wp2
    go_ret
    exact ⟨rfl, rfl⟩
  | f + 1, d, hd, s, w, hs => by
    have hdI : ¬ (4 : Int) < (d : Int) := by omega
    have ih := istype_any f (d + 1) (by omega)
    rw [tyF]
    by_cases c1 : s.data.toList = [105, 110, 116] ∨ s.data.toList = [98, 111, 111, 108] ∨ s.data.toList = [116, 101, 120, 116]
    · rw [if_pos c1]
      have hl : s = ⟨#[105, 110, 116]⟩ ∨ s = ⟨#[98, 111, 111, 108]⟩ ∨ s = ⟨#[116, 101, 120, 116]⟩ := by
        rcases c1 with h | h | h
        · exact Or.inl (bytes_of h)
        · exact Or.inr (Or.inl (bytes_of h))
        · exact Or.inr (Or.inr (bytes_of h))
      clear c1 ih
      rcases hl with rfl | rfl | rfl
      all_goals
        go_enter Tryz.func27, Tryz.ntmps27
        go_wp2
        go_ret
        exact ⟨rfl, rfl⟩
    rw [if_neg c1]
    have q1 : (s.toList == [105, 110, 116]) = false := by rw [ByteArray.toList_eq]; simp; exact fun h => c1 (Or.inl h)
    have q2 : (s.toList == [98, 111, 111, 108]) = false := by rw [ByteArray.toList_eq]; simp; exact fun h => c1 (Or.inr (Or.inl h))
    have q3 : (s.toList == [116, 101, 120, 116]) = false := by rw [ByteArray.toList_eq]; simp; exact fun h => c1 (Or.inr (Or.inr h))
    clear c1
    rcases he : elemT s.data.toList with _ | y
    · have hE := element_no s w hs he
      go_enter Tryz.func27, Tryz.ntmps27
      go_wp2_with fail
      refine hE.mono ?_
      rintro e w' ⟨⟨z, rfl⟩, rfl⟩
      go_wp2
      go_ret
      exact ⟨rfl, rfl⟩
    · have hE := element_yes s y w hs he
      have hdI2 : (d : Int) + 1 ≤ 9223372036854775807 := by omega
      have hl := elem_len he
      have hI := ih ⟨y.toArray⟩ w (by show y.toArray.size ≤ _; have : s.data.toList.length = s.size := by simp
                                      simp; omega)
      simp only [List.toList_toArray, Int.natCast_add, Int.cast_ofNat_Int] at hI
      go_enter Tryz.func27, Tryz.ntmps27
      go_wp2_with fail
      refine hE.mono ?_
      rintro e w' ⟨rfl, rfl⟩
      go_wp2_with fail
      refine hI.mono ?_
      rintro e w' ⟨rfl, rfl⟩
      go_wp2
      go_ret
      exact ⟨rfl, rfl⟩
set_option maxRecDepth 100000 in
set_option maxHeartbeats 1000000 in
theorem stype_any (s : ByteArray) (w : World) (hs : s.size ≤ maxLen) :
    Calls Tryz.prog 14 #[.string s] w fun e w' => e = .returned (.bool (gType s.data.toList)) ∧ w' = w := by
  have h := istype_any 4 1 rfl s w hs
  rw [← gType_tyF] at h
  go_enter Tryz.func14, Tryz.ntmps14
  go_wp2_with (go_at_call 27; refine h.mono ?_; rintro e w' ⟨rfl, rfl⟩)
  go_ret
  exact ⟨rfl, rfl⟩
end Go.Proofs.YtifebbdjdllfpaaGreatDoor
/- Parts that have no parts: their texts, or a fault; operators and levels. -/
namespace Go.Proofs.YtifebbdjdllfpaaGreatDoor
open Go.RowKit
open Px (opL opX dg)
set_option linter.unusedSimpArgs false
set_option linter.unusedVariables false

set_option maxRecDepth 100000 in
set_option maxHeartbeats 1000000 in
theorem need_ok (w : World) : Calls Tryz.prog 57 #[.bool true] w fun e w' => e = .returned (.tuple #[]) ∧ w' = w := by
  go_enter Tryz.func57, Tryz.ntmps57
  go_wp2
  go_end0
  exact ⟨rfl, rfl⟩
set_option maxRecDepth 100000 in
set_option maxHeartbeats 1000000 in
theorem need_no (w : World) : Calls Tryz.prog 57 #[.bool false] w fun e w' => e = .panicked thrownF ∧ w' = w := by
  go_enter Tryz.func57, Tryz.ntmps57
  go_wp2
  exact ⟨rfl, rfl, rfl⟩
theorem need_any (q : Bool) (w : World) : Calls Tryz.prog 57 #[.bool q] w fun e w' => e = (if q then .returned (.tuple #[]) else .panicked thrownF) ∧ w' = w := by
  cases q
  · exact need_no w
  · exact need_ok w
/-- A part's text, or the fault. -/
def TPost (w : World) (r : Option (List UInt8)) (e : Ending) (w' : World) : Prop :=
  match r with
  | some x => e = .returned (.string ⟨x.toArray⟩) ∧ Below w.heap.size w w'
  | none => e = .panicked thrownF ∧ Below w.heap.size w w'
theorem bytes_eq (s : ByteArray) : s = ⟨s.data.toList.toArray⟩ := by simp
set_option maxRecDepth 100000 in
set_option maxHeartbeats 1000000 in
theorem name_any (x : List UInt8) (w : World) (hs : x.length ≤ maxLen) : Calls Tryz.prog 59 #[.string ⟨x.toArray⟩] w fun e w' => e = (if gName x then .returned (.string ⟨x.toArray⟩) else .panicked thrownF) ∧ w' = w := by
  have h1 := word_any ⟨x.toArray⟩ w (by show x.toArray.size ≤ _; simpa using hs)
  simp only [List.toList_toArray] at h1
  have h2 := preserved_any x w
  unfold gName
  rcases hw : wordB x with _ | _
  · rw [hw] at h1
    go_enter Tryz.func59, Tryz.ntmps59
    go_wp2_with (go_at_call 86; refine h1.mono ?_; rintro e w' ⟨rfl, rfl⟩)
    go_wp2_with (go_at_call 57; refine (need_no _).mono ?_; rintro e w' ⟨rfl, rfl⟩)
    exact ⟨rfl, rfl, rfl⟩
  · rw [hw] at h1
    rcases hr : Px.reserved x with _ | _
    · rw [hr] at h2
      go_enter Tryz.func59, Tryz.ntmps59
      go_wp2_with (go_at_call 86; refine h1.mono ?_; rintro e w' ⟨rfl, rfl⟩)
      go_wp2_with (go_at_call 87; refine h2.mono ?_; rintro e w' ⟨rfl, rfl⟩)
      go_wp2_with (go_at_call 57; refine (need_ok _).mono ?_; rintro e w' ⟨rfl, rfl⟩)
      go_ret
      exact ⟨rfl, rfl⟩
    · rw [hr] at h2
      go_enter Tryz.func59, Tryz.ntmps59
      go_wp2_with (go_at_call 86; refine h1.mono ?_; rintro e w' ⟨rfl, rfl⟩)
      go_wp2_with (go_at_call 87; refine h2.mono ?_; rintro e w' ⟨rfl, rfl⟩)
      go_wp2_with (go_at_call 57; refine (need_no _).mono ?_; rintro e w' ⟨rfl, rfl⟩)
      exact ⟨rfl, rfl, rfl⟩
set_option maxRecDepth 100000 in
set_option maxHeartbeats 1000000 in
theorem typet_any (x : List UInt8) (w : World) (hs : x.length ≤ maxLen) : Calls Tryz.prog 60 #[.string ⟨x.toArray⟩] w fun e w' => e = (if gType x then .returned (.string ⟨x.toArray⟩) else .panicked thrownF) ∧ w' = w := by
  have h1 := stype_any ⟨x.toArray⟩ w (by show x.toArray.size ≤ _; simpa using hs)
  simp only [List.toList_toArray] at h1
  rcases hw : gType x with _ | _
  · rw [hw] at h1
    go_enter Tryz.func60, Tryz.ntmps60
    go_wp2_with (go_at_call 14; refine h1.mono ?_; rintro e w' ⟨rfl, rfl⟩)
    go_wp2_with (go_at_call 57; refine (need_no _).mono ?_; rintro e w' ⟨rfl, rfl⟩)
    exact ⟨rfl, rfl, rfl⟩
  · rw [hw] at h1
    go_enter Tryz.func60, Tryz.ntmps60
    go_wp2_with (go_at_call 14; refine h1.mono ?_; rintro e w' ⟨rfl, rfl⟩)
    go_wp2_with (go_at_call 57; refine (need_ok _).mono ?_; rintro e w' ⟨rfl, rfl⟩)
    go_ret
    exact ⟨rfl, rfl⟩
theorem dec_dgF : ∀ (f u : Nat), u < f → Lib.decDigits u = Px.dgF f u
  | 0, u, h => by omega
  | f + 1, u, h => by
    rw [Lib.decDigits, Px.dgF]
    split
    · rfl
    · rw [dec_dgF f (u / 10) (by omega)]
theorem itoa_dg (n : Int) (h : 0 ≤ n) : Lib.itoa n = dg n.toNat := by
  rw [Lib.itoa, if_neg (by omega), dg]
  exact dec_dgF _ _ (by omega)
theorem dgF_len : ∀ (f u k : Nat), u < 10 ^ k → 1 ≤ k → (Px.dgF f u).length ≤ k
  | 0, u, k, _, _ => by simp [Px.dgF]
  | f + 1, u, k, h, hk => by
    rw [Px.dgF]
    split
    · simpa using hk
    · rename_i h2
      obtain ⟨j, rfl⟩ : ∃ j, k = j + 1 := ⟨k - 1, by omega⟩
      have hj : 1 ≤ j := by
        rcases Nat.eq_zero_or_pos j with rfl | hj
        · simp at h; omega
        · exact hj
      rw [Nat.pow_succ] at h
      have := dgF_len f (u / 10) j (by omega) hj
      simp; omega
theorem dg_len (n : Nat) (h : n ≤ 9223372036854775807) : (dg n).length ≤ 19 := dgF_len _ _ 19 (by omega) (by omega)
set_option maxRecDepth 100000 in
set_option maxHeartbeats 1000000 in
theorem number_any {base : Nat} (n : Int) (w : World) (ht : Tb base w) (h1 : n ≤ 9223372036854775807) : Calls Tryz.prog 39 #[.int .i64 n] w fun e w' => TPost w (if 0 ≤ n then some (dg n.toNat) else none) e w' := by
  by_cases h0 : 0 ≤ n
  · rw [if_pos h0]
    have hI := Tryz.strconv_Itoa n (by omega) h1 w ht.here
    rw [itoa_dg n h0] at hI
    have hq : (decide (n ≥ 0)) = true := by simpa using h0
    go_enter Tryz.func39, Tryz.ntmps39
    go_wp2_with (go_at_call 57; refine (need_ok _).mono ?_; rintro e w' ⟨rfl, rfl⟩)
    go_wp2_with (go_at_call 58; refine hI.mono ?_; rintro e w' ⟨rfl, k, os, rfl⟩)
    go_ret
    exact ⟨rfl, Lib.below_grow _ _ (Nat.le_refl _) k os⟩
  · rw [if_neg h0]
    have hq : (decide (n ≥ 0)) = false := by simpa using h0
    go_enter Tryz.func39, Tryz.ntmps39
    go_wp2_with (go_at_call 57; refine (need_no _).mono ?_; rintro e w' ⟨rfl, rfl⟩)
    exact ⟨rfl, rfl, Below.refl _ _⟩
set_option maxRecDepth 100000 in
set_option maxHeartbeats 1000000 in
theorem truth_any (n : Int) (w : World) : Calls Tryz.prog 137 #[.int .i64 n] w fun e w' => TPost w (if 0 ≤ n ∧ n ≤ 1 then some (if n = 1 then [116, 114, 117, 101] else [102, 97, 108, 115, 101]) else none) e w' := by
  by_cases h0 : n = 0
  · subst h0
    go_enter Tryz.func137, Tryz.ntmps137
    go_wp2_with (go_at_call 57; refine (need_ok _).mono ?_; rintro e w' ⟨rfl, rfl⟩)
    go_ret
    exact ⟨rfl, Below.refl _ _⟩
  · by_cases h1 : n = 1
    · subst h1
      go_enter Tryz.func137, Tryz.ntmps137
      go_wp2_with (go_at_call 57; refine (need_ok _).mono ?_; rintro e w' ⟨rfl, rfl⟩)
      go_ret
      exact ⟨rfl, Below.refl _ _⟩
    · rw [if_neg (by omega)]
      have q0 : (n == 0) = false := by simpa using h0
      have q1 : (n == 1) = false := by simpa using h1
      go_enter Tryz.func137, Tryz.ntmps137
      go_wp2_with (go_at_call 57; refine (need_no _).mono ?_; rintro e w' ⟨rfl, rfl⟩)
      exact ⟨rfl, rfl, Below.refl _ _⟩
set_option maxRecDepth 100000 in
set_option maxHeartbeats 1000000 in
theorem quotet_any (x : List UInt8) (w : World) (hs : x.length ≤ maxLen) : Calls Tryz.prog 138 #[.string ⟨x.toArray⟩] w fun e w' => TPost w (if plainB x then some (quoteT x) else none) e w' := by
  have h1 := plain_any ⟨x.toArray⟩ w (by show x.toArray.size ≤ _; simpa using hs)
  simp only [List.toList_toArray] at h1
  rcases hw : plainB x with _ | _
  · rw [hw] at h1
    go_enter Tryz.func138, Tryz.ntmps138
    go_wp2_with (go_at_call 157; refine h1.mono ?_; rintro e w' ⟨rfl, rfl⟩)
    go_wp2_with (go_at_call 57; refine (need_no _).mono ?_; rintro e w' ⟨rfl, rfl⟩)
    exact ⟨rfl, rfl, Below.refl _ _⟩
  · rw [hw] at h1
    have hl : x.length ≤ 256 := by simp [plainB] at hw; exact hw.1
    have hQ := quote_any ⟨x.toArray⟩ w (by show x.toArray.size ≤ _; simp; omega)
    simp only [List.toList_toArray] at hQ
    go_enter Tryz.func138, Tryz.ntmps138
    go_wp2_with (go_at_call 157; refine h1.mono ?_; rintro e w' ⟨rfl, rfl⟩)
    go_wp2_with (go_at_call 57; refine (need_ok _).mono ?_; rintro e w' ⟨rfl, rfl⟩)
    go_wp2_with (go_at_call 158; refine hQ.mono ?_; rintro e w' ⟨rfl, hb⟩)
    go_ret
    exact ⟨rfl, hb⟩
set_option maxRecDepth 100000 in
set_option maxHeartbeats 4000000 in
theorem oper_ok (o : Nat) (h1 : 1 ≤ o) (h2 : o ≤ 13) (w : World) : Calls Tryz.prog 156 #[.int .i64 o] w fun e w' => e = .returned (.tuple #[.string ⟨(opX o).toArray⟩, .int .i64 (opL o - 1 : Nat)]) ∧ w' = w := by
  rcases Px.op_cases h1 h2 with rfl | rfl | rfl | rfl | rfl | rfl | rfl | rfl | rfl | rfl | rfl | rfl | rfl
  all_goals
    go_enter Tryz.func156, Tryz.ntmps156
    go_wp2
    go_ret2
    exact ⟨rfl, rfl⟩
theorem gL_zero {o : Int} (h : gL o = 0) : ¬ (1 ≤ o ∧ o ≤ 13) := by
  intro ⟨h1, h2⟩
  unfold gL at h
  rw [if_pos (by omega)] at h
  have := (Px.opL_pos (o := o.toNat) (by omega) (by omega)).1
  omega
theorem gL_pos {o : Int} (h : gL o ≠ 0) : ∃ n : Nat, o = n ∧ 1 ≤ n ∧ n ≤ 13 := by
  unfold gL at h
  split at h
  · rename_i h0
    refine ⟨o.toNat, by omega, ?_⟩
    unfold opL at h
    (repeat' split at h) <;> omega
  · exact absurd rfl h
set_option maxRecDepth 100000 in
set_option maxHeartbeats 4000000 in
theorem oper_no (o : Int) (h : gL o = 0) (w : World) : Calls Tryz.prog 156 #[.int .i64 o] w fun e w' => e = .panicked thrownF ∧ w' = w := by
  have h0 := gL_zero h
  have q1 : (o == 1) = false := by simp; omega
  have q2 : (o == 2) = false := by simp; omega
  have q3 : (o == 3) = false := by simp; omega
  have q4 : (o == 4) = false := by simp; omega
  have q5 : (o == 5) = false := by simp; omega
  have q6 : (o == 6) = false := by simp; omega
  have q7 : (o == 7) = false := by simp; omega
  have q8 : (o == 8) = false := by simp; omega
  have q9 : (o == 9) = false := by simp; omega
  have q10 : (o == 10) = false := by simp; omega
  have q11 : (o == 11) = false := by simp; omega
  have q12 : (o == 12) = false := by simp; omega
  have q13 : (o == 13) = false := by simp; omega
  clear h0 h
  go_enter Tryz.func156, Tryz.ntmps156
  go_wp2
  exact ⟨rfl, rfl, rfl⟩
/-- How many arguments an expression must have. -/
def nArgs (k : Int) (n : Nat) : Nat := if k = 7 then n else if k = 12 ∨ k = 15 then 2 else if k = 13 ∨ k = 14 then 1 else 0
abbrev geBox (k o n : Int) (t : List UInt8) (x : Int) (y : ByteArray) (sl : Value) (p : Int) : Array Value := #[.int .i64 k, .int .i64 o, .int .i64 n, .string ⟨t.toArray⟩, .int .i64 x, .string y, sl, .int .i64 p]
set_option maxRecDepth 100000 in
set_option maxHeartbeats 4000000 in
theorem args_any (k o n : Int) (t : List UInt8) (x : Int) (y : ByteArray) (ao : Option Addr) (len cap : Nat) (p : Int) (w : World) :
    Calls Tryz.prog 135 #[.agg (geBox k o n t x y (.slice ao len cap) p)] w fun e w' => e = .returned (.int .i64 (nArgs k len)) ∧ Below w.heap.size w w' := by
  have hb : Below w.heap.size w (w.alloc (.cells (geBox k o n t x y (.slice ao len cap) p) 24)) := (Below.refl _ _).alloc (Nat.le_refl _) _
  have hN : Aside (nArgs k len = _) := rfl
  go_enter Tryz.func135, Tryz.ntmps135
  go_wp2
  all_goals
    go_ret
    refine ⟨?_, hb⟩
    simp only [beq_iff_eq, beq_eq_false_iff_ne, ne_eq] at *
    unfold nArgs
    (repeat' split) <;> first | rfl | (exfalso; omega)
set_option maxRecDepth 100000 in
set_option maxHeartbeats 4000000 in
theorem level_bin (o n : Int) (t : List UInt8) (x : Int) (y : ByteArray) (ao : Option Addr) (len cap : Nat) (p : Int) (w : World) :
    Calls Tryz.prog 136 #[.agg (geBox 15 o n t x y (.slice ao len cap) p)] w fun e w' => e = (if gL o = 0 then .panicked thrownF else .returned (.int .i64 (gL o - 1 : Nat))) ∧ Below w.heap.size w w' := by
  have hb : Below w.heap.size w (w.alloc (.cells (geBox 15 o n t x y (.slice ao len cap) p) 24)) := (Below.refl _ _).alloc (Nat.le_refl _) _
  by_cases h : gL o = 0
  · rw [if_pos h]
    have hO := oper_no o h
    go_enter Tryz.func136, Tryz.ntmps136
    go_wp2_with (go_at_call 156; refine (hO _).mono ?_; rintro e w' ⟨rfl, rfl⟩)
    exact ⟨rfl, rfl, hb⟩
  · rw [if_neg h]
    obtain ⟨o, rfl, h1, h2⟩ := gL_pos h
    have hO := oper_ok o h1 h2
    rw [gL_nat]
    generalize hv : (opL o - 1 : Nat) = q at *
    generalize hx : (opX o).toArray = xx at *
    go_enter Tryz.func136, Tryz.ntmps136
    go_wp2_with (go_at_call 156; refine (hO _).mono ?_; rintro e w' ⟨rfl, rfl⟩)
    go_wp2
    go_ret
    exact ⟨rfl, hb⟩
set_option maxRecDepth 100000 in
set_option maxHeartbeats 4000000 in
theorem level_no (k o n : Int) (hk : k ≠ 15) (t : List UInt8) (x : Int) (y : ByteArray) (ao : Option Addr) (len cap : Nat) (p : Int) (w : World) :
    Calls Tryz.prog 136 #[.agg (geBox k o n t x y (.slice ao len cap) p)] w fun e w' => e = .returned (.int .i64 (if k = 13 ∨ k = 14 then 5 else 6)) ∧ Below w.heap.size w w' := by
  have hb : Below w.heap.size w (w.alloc (.cells (geBox k o n t x y (.slice ao len cap) p) 24)) := (Below.refl _ _).alloc (Nat.le_refl _) _
  have q15 : (k == 15) = false := by simpa using hk
  go_enter Tryz.func136, Tryz.ntmps136
  go_wp2
  all_goals
    go_ret
    refine ⟨?_, hb⟩
    simp only [beq_iff_eq, beq_eq_false_iff_ne, ne_eq] at *
    (repeat' split) <;> first | rfl | (exfalso; omega)
end Go.Proofs.YtifebbdjdllfpaaGreatDoor
/- Writing an expression: the state within, how the writing ends, and the kinds that have no parts. -/
namespace Go.Proofs.YtifebbdjdllfpaaGreatDoor
open Go.RowKit
open Px (opL opX dg)
set_option linter.unusedSimpArgs false
set_option linter.unusedVariables false

/-- How a writing ends that has put nothing aside for its end. -/
theorem leave0 {fn : Func} {tmps : Array Value} {R : Ending → World → Prop} {w : World} (hr : fn.results = #[]) (h : R (.returned (.tuple #[])) w) : Leaves Tryz.prog fn tmps R [] .returning w := ⟨_, results_none hr _ _ _, h⟩
theorem leaveP {fn : Func} {tmps : Array Value} {R : Ending → World → Prop} {w : World} {c : List PanicEntry} (h : R (.panicked c) w) : Leaves Tryz.prog fn tmps R [] (.panicking c) w := h
abbrev putLast (b : Nat) (x : List UInt8) : Deferred := { target := .fn (.func 38) #[], args := #[wPtr b, .string ⟨x.toArray⟩] }
theorem invoke_put (b : Nat) (x : List UInt8) (w : World) : (invoke (.fn (.func 38) #[]) #[wPtr b, .string ⟨x.toArray⟩]).run Tryz.prog w = .ok (.enter 38 #[wPtr b, .string ⟨x.toArray⟩]) w := by simp [go_sem]
theorem leave1 {fn : Func} {tmps : Array Value} {R : Ending → World → Prop} {w : World} {base b : Nat} {l : List UInt8} {tabs : Nat} {x : List UInt8} (hr : fn.results = #[]) (hW : Wr base b l tabs w) (hx : x.length ≤ 1099511627776)
    (h : ∀ l' w', wrote l x l' → Wr base b l' tabs w' → FW base b w w' → R (.returned (.tuple #[])) w') : Leaves Tryz.prog fn tmps R [putLast b x] .returning w := by
  refine leaves_cons (by simp) (invoke_put b x w) ?_
  refine (putD_l hW x hx .returning).mono ?_
  rintro e u' w' ⟨rfl, rfl, l', h1, h2, h3⟩
  exact leave0 hr (h l' w' h1 h2 h3)
theorem leave1P {fn : Func} {tmps : Array Value} {R : Ending → World → Prop} {w : World} {base b : Nat} {l : List UInt8} {tabs : Nat} {x : List UInt8} (hW : Wr base b l tabs w) (hx : x.length ≤ 1099511627776)
    (h : ∀ l' w', Wr base b l' tabs w' → FW base b w w' → R (.panicked thrownF) w') : Leaves Tryz.prog fn tmps R [putLast b x] (.panicking thrownF) w := by
  refine leaves_cons (by simp) (invoke_put b x w) ?_
  refine (putD_l hW x hx (.panicking thrownF)).mono ?_
  rintro e u' w' ⟨rfl, rfl, l', h1, h2, h3⟩
  exact leaveP (h l' w' h2 h3)

/-- What a writing must leave, whatever its slots hold when a fault is thrown. -/
def postD (fn : Func) (R : Ending → World → Prop) : Exit → Act → World → Prop
  | .panic c, a, w => ∀ tmps, Leaves Tryz.prog fn tmps R a.defers (.panicking c) w
  | e, a, w => bodyPostD Tryz.prog fn R e a w
theorem calls_of_post {f : FuncId} {fn : Func} {c : Code} {args : Array Value} {w : World} {R : Ending → World → Prop} (hf : Tryz.prog.funcs[f]? = some fn) (hb : fn.body = some c)
    (h : c.wp Tryz.prog (postD fn R) { tmps := args ++ Array.replicate (fn.ntmps - args.size) undef, defers := [] } w) : Calls Tryz.prog f args w R := by
  refine calls_of_wp_defers hf hb (wp_mono h ?_)
  intro e a w h
  cases e with
  | panic c => exact h a.tmps
  | normal => exact h
  | ret => exact h
  | exit _ => exact h
  | goto _ => exact h
  | outgrown => exact h

mutual
/-- Its numbers and texts are such as a machine has. -/
def OkE : GE → Prop
  | .mk k o n t args => n ≤ 9223372036854775807 ∧ t.length ≤ maxLen ∧ OkEs args
def OkEs : List GE → Prop
  | [] => True
  | e :: r => OkE e ∧ OkEs r
end
theorem OkEs.get : ∀ {l : List GE} {i : Nat} {e : GE}, OkEs l → l[i]? = some e → OkE e
  | [], i, e, h, hi => by simp at hi
  | a :: r, 0, e, h, hi => by rw [OkEs] at h; simp at hi; subst hi; exact h.1
  | a :: r, i + 1, e, h, hi => by rw [OkEs] at h; exact OkEs.get h.2 (by simpa using hi)

abbrev pBox (b : Nat) : Obj := .cells #[wPtr b] 87 (0, 0)
abbrev xBox (cs : Array Value) : Obj := .cells cs 24 (0, 0)
/-- Within the writing of a part: the writer, and what the call itself has laid. -/
structure In (base b : Nat) (ks : List (Nat × Obj)) (l : List UInt8) (tabs : Nat) (w w' : World) : Prop where
  wr : Wr base b l tabs w'
  kept : ∀ q ∈ ks, w'.heap[q.1]? = some q.2
  fine : ∀ q ∈ ks, q.1 ≠ b ∧ ∀ c fz, q.2 ≠ .cells c 5 fz
  fw : FW base b w w'
theorem In.start {base b : Nat} {l : List UInt8} {tabs : Nat} {w : World} (h : Wr base b l tabs w) : In base b [] l tabs w w := ⟨h, by simp, by simp, FW.refl _ _ _⟩
theorem In.step {base b : Nat} {ks : List (Nat × Obj)} {l l' : List UInt8} {tabs tabs' : Nat} {w w' w'' : World} (h : In base b ks l tabs w w') (hw : Wr base b l' tabs' w'') (hf : FW base b w' w'') : In base b ks l' tabs' w w'' :=
  ⟨hw, fun q hq => hf.kept q.1 q.2 (h.kept q hq) (by simpa using (h.fine q hq).1) (h.fine q hq).2, h.fine, h.fw.trans hf⟩
theorem In.call {base b : Nat} {ks : List (Nat × Obj)} {l : List UInt8} {tabs : Nat} {w w' w'' : World} (h : In base b ks l tabs w w') (hb : Below w'.heap.size w' w'') : In base b ks l tabs w w'' := h.step (h.wr.call hb) (FW.of_below hb h.wr.base)
theorem In.drewN {base b : Nat} {ks : List (Nat × Obj)} {l : List UInt8} {tabs : Nat} {w w' : World} (h : In base b ks l tabs w w') (n : Nat) : In base b ks l tabs w (w'.drewN n) := h.call ⟨rfl, rfl, rfl, Nat.le_refl _, fun _ _ => rfl⟩
theorem In.drew {base b : Nat} {ks : List (Nat × Obj)} {l : List UInt8} {tabs : Nat} {w w' : World} (h : In base b ks l tabs w w') : In base b ks l tabs w w'.drew := h.call ⟨rfl, rfl, rfl, Nat.le_refl _, fun _ _ => rfl⟩
theorem In.alloc {base b : Nat} {ks : List (Nat × Obj)} {l : List UInt8} {tabs : Nat} {w w' : World} (h : In base b ks l tabs w w') (cs : Array Value) (T : TypeId) (hT : T ≠ 5) : In base b ((w'.heap.size, .cells cs T (0, 0)) :: ks) l tabs w (w'.alloc (.cells cs T (0, 0))) := by
  have hlt := h.wr.lt
  refine ⟨h.wr.alloc _, ?_, ?_, h.fw.alloc h.wr.base _⟩
  · intro q hq
    rcases List.mem_cons.1 hq with rfl | hq
    · exact heap_new w' _
    · have := h.kept q hq
      exact (heap_old (Array.getElem?_eq_some_iff.1 this).1).trans this
  · intro q hq
    rcases List.mem_cons.1 hq with rfl | hq
    · exact ⟨by show w'.heap.size ≠ b; omega, fun c fz e => hT (by injection e)⟩
    · exact h.fine q hq
theorem In.lt {base b : Nat} {ks : List (Nat × Obj)} {l : List UInt8} {tabs : Nat} {w w' : World} (h : In base b ks l tabs w w') {q : Nat × Obj} (hq : q ∈ ks) : q.1 < w'.heap.size := (Array.getElem?_eq_some_iff.1 (h.kept q hq)).1
/-- The two boxes of an expression's writing. -/
abbrev eks (b g0 : Nat) (cs : Array Value) : List (Nat × Obj) := [(g0 + 1, xBox cs), (g0, pBox b)]
theorem In.boxes {base b : Nat} {l : List UInt8} {tabs : Nat} {w : World} (h : Wr base b l tabs w) (cs : Array Value) : In base b (eks b w.heap.size cs) l tabs w ((w.alloc (pBox b)).alloc (xBox cs)) := by
  have := ((In.start h).alloc #[wPtr b] 87 (by decide)).alloc cs 24 (by decide)
  simpa [eks] using this

set_option maxRecDepth 100000 in
set_option maxHeartbeats 4000000 in
/-- The wrong number of arguments. -/
theorem expr_count {base b : Nat} {k o n : Int} {t : List UInt8} {args : List GE} {least : Nat} {l : List UInt8} {tabs : Nat} {cs : List Value} {w : World} (hW : Wr base b l tabs w) (hx : IsGE (fun k => k < base) w (.mk k o n t args) cs) (hc : args.length ≠ nArgs k args.length) :
    Calls Tryz.prog 111 #[wPtr b, .agg cs.toArray, .int .i64 least] w fun r w' => WPost base b l tabs w none r w' := by
  rw [IsGE] at hx
  obtain ⟨x, p, y, sl, row, rfl, hr, ha⟩ := hx
  obtain ⟨ao, cap, rfl, hm⟩ := hr.slice
  have hE := In.boxes hW (geBox k o n t x y (.slice ao args.length cap) p)
  have hA := args_any k o n t x y ao args.length cap p
  have hcI : ((args.length : Int) == ((nArgs k args.length : Nat) : Int)) = false := by simp; omega
  generalize hnn : nArgs k args.length = nn at *
  generalize hll : args.length = ll at *
  clear ha hr hm hc hW
  refine calls_of_post Tryz.func111 rfl ?_
  simp only [Tryz.ntmps111, List.size_toArray, List.length_cons, List.length_nil, Nat.reduceAdd, Nat.reduceSub, Array.replicate_succ, Array.replicate_zero, List.push_toArray, List.append_toArray, List.nil_append, List.cons_append]
  go_upto_region 1 with fail
  generalize ((w.alloc (pBox b)).alloc (xBox (geBox k o n t x y (.slice ao ll cap) p))) = w2 at *
  generalize w.heap.size = g0 at *
  have l0 : g0 < w2.heap.size := hE.lt (q := (g0, pBox b)) (by simp)
  have l1 : g0 + 1 < w2.heap.size := hE.lt (q := (g0 + 1, xBox _)) (by simp; rfl)
  obtain ⟨x0, x1, x2, x3, x4, x5, x6, x7, _⟩ := cells_of8 (hE.kept _ (List.mem_cons_self))
  go_region_with (first
    | (go_at_call 135; refine (hA _).mono ?_; rintro e w3 ⟨rfl, hb3⟩; have hE3 := hE.drew.call hb3; have l3 : g0 + 1 < w3.heap.size := hE3.lt (q := (g0 + 1, xBox _)) (by simp; rfl); obtain ⟨y0, y1, y2, y3, y4, y5, y6, y7, _⟩ := cells_of8 (hE3.kept _ (List.mem_cons_self)))
    | (go_at_call 57; refine (need_no _).mono ?_; rintro e w4 ⟨rfl, rfl⟩; refine skip_way w4 (fun _ => leaveP ⟨rfl, l, tabs, hE3.wr, hE3.fw⟩) ?_))
  all_goals trivial
end Go.Proofs.YtifebbdjdllfpaaGreatDoor
/- What stands around an expression: a place, a value, parts in round brackets. -/
namespace Go.Proofs.YtifebbdjdllfpaaGreatDoor
open Go.RowKit
open Px (opL opX dg)
set_option linter.unusedSimpArgs false
set_option linter.unusedVariables false

/-- The writing of an expression does what it should. -/
def ExOk (base b : Nat) (e : GE) : Prop := ∀ (least : Nat) (l : List UInt8) (tabs : Nat) (cs : List Value) (w : World), least ≤ 6 → Wr base b l tabs w → IsGE (fun k => k < base) w e cs →
  Calls Tryz.prog 111 #[wPtr b, .agg cs.toArray, .int .i64 least] w fun r w' => WPost base b l tabs w ((gE e).map (withinS (gLow (least + 1) e))) r w'
theorem gE_parts {k o n : Int} {t : List UInt8} {args : List GE} {x : List UInt8} (h : gE (.mk k o n t args) = some x) : ∃ xs, gEs args = some xs ∧ gKS k o n t args xs = some x := by
  rw [gE] at h
  rcases hx : gEs args with _ | xs
  · rw [hx] at h; cases h
  · rw [hx] at h; exact ⟨xs, rfl, h⟩
theorem gKS_bin {o n : Int} {t : List UInt8} {args : List GE} {xs : List (List UInt8)} {x : List UInt8} (h : gKS 15 o n t args xs = some x) : gL o ≠ 0 := by
  unfold gKS at h
  simp only [show ¬((15 : Int) = 1) by decide, show ¬((15 : Int) = 2) by decide, show ¬((15 : Int) = 3) by decide, show ¬((15 : Int) = 6) by decide, show ¬((15 : Int) = 7) by decide, show ¬((15 : Int) = 12) by decide, show ¬((15 : Int) = 13) by decide, show ¬((15 : Int) = 14) by decide, if_false, if_true] at h
  split at h
  · rename_i h1; exact h1.2
  · cases h
theorem gE_low {e : GE} {x : List UInt8} (h : gE e = some x) : gLow 1 e = false := by
  obtain ⟨k, o, n, t, args⟩ := e
  obtain ⟨xs, h1, h2⟩ := gE_parts h
  by_cases hk : k = 15
  · subst hk
    have := gKS_bin h2
    simp [gLow, GE.k, GE.o, this]
  · simp [gLow, GE.k, GE.o, hk]
theorem gE_top (e : GE) : (gE e).map (withinS (gLow (0 + 1) e)) = gE e := by
  rcases h : gE e with _ | x
  · rfl
  · rw [show (0 + 1) = 1 from rfl, gE_low h]; rfl
theorem ExOk.top {base b : Nat} {e : GE} (h : ExOk base b e) {l : List UInt8} {tabs : Nat} {cs : List Value} {w : World} (hW : Wr base b l tabs w) (hx : IsGE (fun k => k < base) w e cs) :
    Calls Tryz.prog 111 #[wPtr b, .agg cs.toArray, .int .i64 0] w fun r w' => WPost base b l tabs w (gE e) r w' := by
  have := h 0 l tabs cs w (by omega) hW hx
  rw [gE_top] at this
  exact this
set_option maxRecDepth 100000 in
set_option maxHeartbeats 4000000 in
theorem place_any {base b : Nat} {e : GE} (hX : ExOk base b e) {l : List UInt8} {tabs : Nat} {cs : List Value} {w : World} (hW : Wr base b l tabs w) (hx : IsGE (fun k => k < base) w e cs) :
    Calls Tryz.prog 109 #[wPtr b, .agg cs.toArray] w fun r w' => WPost base b l tabs w ((gE e).map fun x => 91 :: (x ++ [93])) r w' := by
  match cs, hx.len, hx with
  | [c0, c1, c2, c3, c4, c5, c6, c7], _, hx =>
  have hE := (In.start hW).alloc #[c0, c1, c2, c3, c4, c5, c6, c7] 24 (by decide)
  clear hW
  go_enter_defers Tryz.func109, Tryz.ntmps109
  go_wp2_with fail
  generalize w.alloc (.cells #[c0, c1, c2, c3, c4, c5, c6, c7] 24) = w1 at *
  generalize w.heap.size = g at *
  refine (put_l hE.wr [91] (by simp)).mono ?_
  rintro r w2 ⟨rfl, l2, hw2, h2, hf2⟩
  have hE2 := hE.step h2 hf2
  have lg : g < w2.heap.size := hE2.lt (q := (g, _)) (by simp; rfl)
  obtain ⟨x0, x1, x2, x3, x4, x5, x6, x7, _⟩ := cells_of8 (hE2.kept _ (List.mem_cons_self))
  have hC := hX.top h2 (hx.since hE2.fw.since)
  have hF2 := hE2.fw
  clear hE hE2 hf2
  rcases hq : gE e with _ | x
  · rw [hq] at hC
    go_wp2_with fail
    refine hC.mono ?_
    rintro r w3 ⟨rfl, l3, tabs3, h3, hf3⟩
    refine leave1P h3 (by simp) ?_
    intro l4 w4 h4 hf4
    rw [hq]
    exact ⟨rfl, l4, tabs3, h4, (hF2.trans hf3).trans hf4⟩
  · rw [hq] at hC
    go_wp2_with fail
    refine hC.mono ?_
    rintro r w3 ⟨rfl, l3, hw3, h3, hf3⟩
    go_wp2
    refine leave1 rfl h3 (by simp) ?_
    intro l4 w4 hw4 h4 hf4
    rw [hq]
    exact ⟨rfl, l4, by simpa using (hw2.trans hw3).trans hw4, h4, (hF2.trans hf3).trans hf4⟩
set_option maxRecDepth 100000 in
set_option maxHeartbeats 4000000 in
theorem value_any {base b : Nat} {e : GE} (hX : ExOk base b e) {l : List UInt8} {tabs : Nat} {cs : List Value} {w : World} (hW : Wr base b l tabs w) (hx : IsGE (fun k => k < base) w e cs) :
    Calls Tryz.prog 108 #[wPtr b, .agg cs.toArray] w fun r w' => WPost base b l tabs w ((gE e).map fun x => [32, 61, 32] ++ (x ++ [59])) r w' := by
  match cs, hx.len, hx with
  | [c0, c1, c2, c3, c4, c5, c6, c7], _, hx =>
  have hE := (In.start hW).alloc #[c0, c1, c2, c3, c4, c5, c6, c7] 24 (by decide)
  clear hW
  go_enter Tryz.func108, Tryz.ntmps108
  go_wp2_with fail
  generalize w.alloc (.cells #[c0, c1, c2, c3, c4, c5, c6, c7] 24) = w1 at *
  generalize w.heap.size = g at *
  refine (put_l hE.wr [32, 61, 32] (by simp)).mono ?_
  rintro r w2 ⟨rfl, l2, hw2, h2, hf2⟩
  have hE2 := hE.step h2 hf2
  have lg : g < w2.heap.size := hE2.lt (q := (g, _)) (by simp; rfl)
  obtain ⟨x0, x1, x2, x3, x4, x5, x6, x7, _⟩ := cells_of8 (hE2.kept _ (List.mem_cons_self))
  have hC := hX.top h2 (hx.since hE2.fw.since)
  have hF2 := hE2.fw
  clear hE hE2 hf2
  rcases hq : gE e with _ | x
  · rw [hq] at hC
    go_wp2_with fail
    refine hC.mono ?_
    rintro r w3 ⟨rfl, l3, tabs3, h3, hf3⟩
    refine ⟨rfl, ?_⟩
    rw [hq]
    exact ⟨rfl, l3, tabs3, h3, hF2.trans hf3⟩
  · rw [hq] at hC
    go_wp2_with fail
    refine hC.mono ?_
    rintro r w3 ⟨rfl, l3, hw3, h3, hf3⟩
    go_wp2_with fail
    refine (put_l h3 [59] (by simp)).mono ?_
    rintro r w4 ⟨rfl, l4, hw4, h4, hf4⟩
    go_wp2
    go_end0
    rw [hq]
    exact ⟨rfl, l4, by simpa using (hw2.trans hw3).trans hw4, h4, (hF2.trans hf3).trans hf4⟩
/-- All parts' texts; none: one of them can't stand. -/
def allS : List (Option (List UInt8)) → Option (List (List UInt8))
  | [] => some []
  | x :: r => x.bind fun y => (allS r).map fun ys => y :: ys
theorem gEs_all : ∀ l : List GE, gEs l = allS (l.map gE)
  | [] => by simp [gEs, allS]
  | e :: r => by
    simp only [gEs, List.map_cons, allS, gEs_all r]
    rcases gE e with _ | x <;> rcases allS (r.map gE) with _ | xs <;> rfl
theorem gSls_all : ∀ l : List (List UInt8 × List UInt8), gSls l = allS (l.map gSl)
  | [] => by simp [gSls, allS]
  | e :: r => by
    simp only [gSls, List.map_cons, allS, gSls_all r]
    rcases gSl e with _ | x <;> rcases allS (r.map gSl) with _ | xs <;> rfl
theorem allS_some : ∀ ys : List (List UInt8), allS (ys.map some) = some ys
  | [] => rfl
  | y :: r => by simp [allS, allS_some r]
theorem allS_none : ∀ {xs : List (Option (List UInt8))} {i : Nat}, xs[i]? = some none → allS xs = none
  | [], i, h => by simp at h
  | x :: r, 0, h => by simp at h; subst h; rfl
  | x :: r, i + 1, h => by
    have := allS_none (xs := r) (i := i) (by simpa using h)
    simp [allS, this]
theorem commas_snoc : ∀ (ys : List (List UInt8)) (x : List UInt8), commasS (ys ++ [x]) = if ys = [] then x else commasS ys ++ ([44, 32] ++ x)
  | [], x => by simp [commasS]
  | [a], x => by simp [commasS]
  | a :: c :: r, x => by
    have := commas_snoc (c :: r) x
    rw [if_neg (by simp)] at this
    rw [if_neg (by simp)]
    simp only [List.cons_append] at this ⊢
    rw [commasS, this, commasS]
    simp
theorem take_some {xs : List (Option (List UInt8))} {ys : List (List UInt8)} {x : List UInt8} (h : xs.take ys.length = ys.map some) (hx : xs[ys.length]? = some (some x)) : xs.take (ys.length + 1) = (ys ++ [x]).map some := by
  rw [List.take_add_one, h, hx]; simp
set_option maxRecDepth 100000 in
set_option maxHeartbeats 8000000 in
theorem wlisted_any {base b K : Nat} {caps : Array Value} {xs : List (Option (List UInt8))} {Inv : World → Prop} {l : List UInt8} {tabs : Nat} {w : World} (h : Wr base b l tabs w)
    (hn : xs.length ≤ 9223372036854775807)
    (hK : ∀ (args : Array Value) (w : World), (callFunc K args).run Tryz.prog w = .ok (.enter K args) w)
    (hq : ∀ (i : Nat) (x : Option (List UInt8)) (l1 : List UInt8) (w1 : World), xs[i]? = some x → Wr base b l1 tabs w1 → Inv w1 → Calls Tryz.prog K (#[.int .i64 i] ++ caps) w1 fun e w2 => WPost base b l1 tabs w1 x e w2)
    (hI : ∀ (w1 w2 : World), Inv w1 → FW base b w1 w2 → Inv w2) (h0 : Inv w) :
    Calls Tryz.prog 61 #[wPtr b, .int .i64 xs.length, .func (.func K) #[] caps] w fun e w' => WPost base b l tabs w ((allS xs).map fun ys => 40 :: (commasS ys ++ [41])) e w' := by
  obtain ⟨res, hres⟩ : ∃ res, Aside (res = (allS xs).map fun ys => 40 :: (commasS ys ++ [41])) := ⟨_, show _ = _ from rfl⟩
  rw [← hres.out]
  go_enter_defers Tryz.func61, Tryz.ntmps61
  go_wp2_with fail
  refine (put_l h [40] (by simp)).mono ?_
  rintro r w2 ⟨rfl, l2, hw2, h2, hf2⟩
  have i2 := hI _ _ h0 hf2
  clear h h0
  go_wp2_with fail
  go_loopg [11] xs.length (fun g i wr => ∃ (ys : List (List UInt8)) (lk : List UInt8), ys.length ≤ xs.length ∧ g = xs.length - ys.length ∧ i = .int .i64 ys.length ∧ xs.take ys.length = ys.map some ∧ wrote l (40 :: commasS ys) lk ∧ Wr base b lk tabs wr ∧ FW base b w wr ∧ Inv wr)
  case atStart => exact ⟨[], l2, by simp, rfl, rfl, by simp, by simpa [commasS] using hw2, h2, hf2, i2⟩
  case round =>
    clear hw2 h2 hf2 i2
    obtain ⟨ys, lk, hk, rfl, rfl, htk, hwk, h1, hf1, i1⟩ := hrel
    by_cases hlt : ys.length < xs.length
    · have hltI : (ys.length : Int) < (xs.length : Int) := by omega
      obtain ⟨x, hx⟩ : ∃ x, xs[ys.length]? = some x := ⟨_, List.getElem?_eq_getElem hlt⟩
      have hpart : ∀ (l3 : List UInt8) (w3 : World), wrote lk (if ys = [] then [] else [44, 32]) l3 → Wr base b l3 tabs w3 → FW base b w w3 → Inv w3 → Calls Tryz.prog K (#[.int .i64 ys.length] ++ caps) w3 fun e w4 => (match x with
          | some y => e = .returned (.tuple #[]) ∧ ∃ l4, wrote l (40 :: commasS (ys ++ [y])) l4 ∧ Wr base b l4 tabs w4 ∧ FW base b w w4 ∧ Inv w4
          | none => e = .panicked thrownF ∧ ∃ l4 tabs4, Wr base b l4 tabs4 w4 ∧ FW base b w w4) := by
        intro l3 w3 hw3 h3 hf3 i3
        refine (hq ys.length x l3 w3 hx h3 i3).mono ?_
        intro e w4 hp
        cases x with
        | none =>
          obtain ⟨rfl, l4, t4, h4, hf4⟩ := hp
          exact ⟨rfl, l4, t4, h4, hf3.trans hf4⟩
        | some y =>
          obtain ⟨rfl, l4, hw4, h4, hf4⟩ := hp
          refine ⟨rfl, l4, ?_, h4, hf3.trans hf4, hI _ _ i3 hf4⟩
          have := (hwk.trans hw3).trans hw4
          rw [commas_snoc]
          split at this
          · rename_i hy; subst hy; simpa [commasS] using this
          · rename_i hy; rw [if_neg hy]; simpa using this
      have hnone : x = none → Aside (res = none) := by
        rintro rfl
        show _ = _
        rw [hres.out, allS_none hx]; rfl
      rcases Nat.eq_zero_or_pos ys.length with hz | hz
      · have hzI : ¬ (0 : Int) < (ys.length : Int) := by omega
        have hy0 : ys = [] := List.length_eq_zero_iff.1 hz
        have hC := hpart lk wr (by rw [if_pos hy0]; exact wrote.refl lk) h1 hf1 i1
        clear hpart hz hy0
        go_wp2_with fail
        refine hC.mono ?_
        cases x with
        | none =>
          rintro e w4 ⟨rfl, l4, tabs4, h4, hf4⟩
          refine leave1P h4 (by simp) ?_
          intro l5 w5 h5 hf5
          rw [(hnone rfl).out]
          exact ⟨rfl, l5, tabs4, h5, hf4.trans hf5⟩
        | some y =>
          rintro e w4 ⟨rfl, l4, hw4, h4, hf4, i4⟩
          go_wp2_with fail
          go_roundg (xs.length - (ys.length + 1))
          case measure => omega
          case rel => exact ⟨ys ++ [y], l4, by simp; omega, by simp, by simp, by simpa using take_some htk hx, hw4, h4, hf4, i4⟩
      · have hzI : (0 : Int) < (ys.length : Int) := by omega
        have hne : ys ≠ [] := by intro e; subst e; simp at hz
        go_wp2_with fail
        refine (put_l h1 [44, 32] (by simp)).mono ?_
        rintro e w3 ⟨rfl, l3, hw3, h3, hf3⟩
        have hC := hpart l3 w3 (by rw [if_neg hne]; exact hw3) h3 (hf1.trans hf3) (hI _ _ i1 hf3)
        clear hpart
        go_wp2_with fail
        refine hC.mono ?_
        cases x with
        | none =>
          rintro e w4 ⟨rfl, l4, tabs4, h4, hf4⟩
          refine leave1P h4 (by simp) ?_
          intro l5 w5 h5 hf5
          rw [(hnone rfl).out]
          exact ⟨rfl, l5, tabs4, h5, hf4.trans hf5⟩
        | some y =>
          rintro e w4 ⟨rfl, l4, hw4, h4, hf4, i4⟩
          go_wp2_with fail
          go_roundg (xs.length - (ys.length + 1))
          case measure => omega
          case rel => exact ⟨ys ++ [y], l4, by simp; omega, by simp, by simp, by simpa using take_some htk hx, hw4, h4, hf4, i4⟩
    · have hltI : ¬ (ys.length : Int) < (xs.length : Int) := by omega
      have hxs : xs = ys.map some := by
        rw [List.take_of_length_le (by omega)] at htk
        exact htk
      go_wp2
      refine leave1 rfl h1 (by simp) ?_
      intro l5 w5 hw5 h5 hf5
      rw [hres.out, hxs, allS_some]
      exact ⟨rfl, l5, by simpa using hwk.trans hw5, h5, hf1.trans hf5⟩
end Go.Proofs.YtifebbdjdllfpaaGreatDoor
/- Writing an expression: where its arguments lie; how one of a call's is written. -/
namespace Go.Proofs.YtifebbdjdllfpaaGreatDoor
open Go.RowKit
open Px (opL opX dg)
set_option linter.unusedSimpArgs false
set_option linter.unusedVariables false

theorem arg_at {base b : Nat} {w w' : World} {args : List GE} {row : List Value} {ao : Option Addr} {cap : Nat} (hr : SlRow (fun k => k < base) w 8 (.slice ao args.length cap) args.length row) (ha : AllGE (fun k => k < base) w args row) (hF : FW base b w w') {q : Nat} {e : GE} (hq : args[q]? = some e) :
    ∃ (g o : Nat) (u0 u1 u2 u3 u4 u5 u6 u7 : Value), ao = some ⟨g, o, none⟩ ∧ g < w'.heap.size ∧
      (w'.cell? ⟨g, o + q * 8, none⟩ = some u0 ∧ w'.cell? ⟨g, o + q * 8 + 1, none⟩ = some u1 ∧ w'.cell? ⟨g, o + q * 8 + 2, none⟩ = some u2 ∧ w'.cell? ⟨g, o + q * 8 + 3, none⟩ = some u3 ∧ w'.cell? ⟨g, o + q * 8 + 4, none⟩ = some u4 ∧ w'.cell? ⟨g, o + q * 8 + 5, none⟩ = some u5 ∧ w'.cell? ⟨g, o + q * 8 + 6, none⟩ = some u6 ∧ w'.cell? ⟨g, o + q * 8 + 7, none⟩ = some u7) ∧
      IsGE (fun k => k < base) w' e [u0, u1, u2, u3, u4, u5, u6, u7] := by
  have hql : q < args.length := (List.getElem?_eq_some_iff.1 hq).1
  obtain ⟨cx, kx, rx⟩ := ha.get hq
  obtain ⟨g, o, c, e0, _, _, hgb, hg, hc⟩ := hr.cells (by omega)
  simp only [Value.slice.injEq] at e0
  obtain ⟨rfl, _, rfl⟩ := e0
  match cx, kx.len, rx, kx with
  | [u0, u1, u2, u3, u4, u5, u6, u7], _, rx, kx =>
    have f0 : ∀ (j : Nat) (u : Value), j < 8 → ([u0, u1, u2, u3, u4, u5, u6, u7] : List Value)[j]? = some u → w'.cell? ⟨g, o + q * 8 + j, none⟩ = some u := by
      intro j u hj hu
      rw [Nat.add_assoc, hF.below.cell (p := ⟨g, o + (q * 8 + j), none⟩) hgb]
      exact hc _ _ (by rw [rx j hj]; exact hu)
    exact ⟨g, o, u0, u1, u2, u3, u4, u5, u6, u7, rfl, by have := hF.size; omega, ⟨f0 0 _ (by omega) rfl, f0 1 _ (by omega) rfl, f0 2 _ (by omega) rfl, f0 3 _ (by omega) rfl, f0 4 _ (by omega) rfl, f0 5 _ (by omega) rfl, f0 6 _ (by omega) rfl, f0 7 _ (by omega) rfl⟩, kx.since hF.since⟩
/-- What the writing of a call's arguments leans on. -/
structure CallIn (base b g0 : Nat) (cs : Array Value) (w w1 : World) : Prop where
  p : w1.heap[g0]? = some (pBox b)
  x : w1.heap[g0 + 1]? = some (xBox cs)
  gt : b < g0
  fw : FW base b w w1
theorem CallIn.step {base b g0 : Nat} {cs : Array Value} {w w1 w2 : World} (h : CallIn base b g0 cs w w1) (hf : FW base b w1 w2) : CallIn base b g0 cs w w2 := by
  have hg := h.gt
  exact ⟨hf.block h.p (by omega) (by decide), hf.block h.x (by omega) (by decide), hg, h.fw.trans hf⟩
set_option maxRecDepth 100000 in
set_option maxHeartbeats 8000000 in
theorem argfn_any {base b g0 : Nat} {k o n : Int} {t : List UInt8} {x : Int} {y : ByteArray} {ao : Option Addr} {cap : Nat} {p : Int} {args : List GE} {row : List Value} {tabs : Nat} {w : World} (hr : SlRow (fun k => k < base) w 8 (.slice ao args.length cap) args.length row) (ha : AllGE (fun k => k < base) w args row) (hX : ∀ e ∈ args, ExOk base b e)
    (i : Nat) (r : Option (List UInt8)) (l : List UInt8) (w1 : World) (hi : (args.map gE)[i]? = some r) (hW : Wr base b l tabs w1) (hI : CallIn base b g0 (geBox k o n t x y (.slice ao args.length cap) p) w w1) :
    Calls Tryz.prog 139 (#[.int .i64 i] ++ #[.pointer (some ⟨g0, 0, none⟩), .pointer (some ⟨g0 + 1, 0, none⟩)]) w1 fun e w2 => WPost base b l tabs w1 r e w2 := by
  rw [List.getElem?_map] at hi
  rcases he : args[i]? with _ | e
  · rw [he] at hi; cases hi
  rw [he, Option.map_some, Option.some.injEq] at hi
  have hmem : e ∈ args := List.mem_of_getElem? he
  have hil : i < args.length := (List.getElem?_eq_some_iff.1 he).1
  obtain ⟨_, _, -, hm⟩ := hr.slice
  unfold maxLen at hm
  obtain ⟨g, o', u0, u1, u2, u3, u4, u5, u6, u7, rfl, hg, ⟨e0, e1, e2, e3, e4, e5, e6, e7⟩, hgs⟩ := arg_at hr ha hI.fw he
  have hC := (hX e hmem).top hW.drew (hgs.since (Since.drewN _ w1 1))
  rw [hi] at hC
  have l0 : g0 < w1.heap.size := (Array.getElem?_eq_some_iff.1 hI.p).1
  have l1 : g0 + 1 < w1.heap.size := (Array.getElem?_eq_some_iff.1 hI.x).1
  have c0 := cell_of_one hI.p
  obtain ⟨x0, x1, x2, x3, x4, x5, x6, x7, _⟩ := cells_of8 hI.x
  have hiI : (i : Int) < (args.length : Int) := by omega
  have hi0 : (0 : Int) ≤ (i : Int) := by omega
  clear hX hr ha hgs hI he hi
  show Calls Tryz.prog 139 #[.int .i64 i, .pointer (some ⟨g0, 0, none⟩), .pointer (some ⟨g0 + 1, 0, none⟩)] w1 _
  go_enter Tryz.func139, Tryz.ntmps139
  go_upto_region 0 with fail
  rcases r with _ | z
  · go_region_with (go_at_call 111; refine hC.mono ?_; rintro e w5 ⟨rfl, l5, tabs5, h5, hf5⟩; refine skip_way w5 ⟨rfl, rfl, l5, tabs5, h5, FW.from_drewN 1 hf5⟩ ?_)
    all_goals trivial
  · go_region_with (go_at_call 111; refine hC.mono ?_; rintro e w5 ⟨rfl, l5, hw5, h5, hf5⟩)
    all_goals
      go_wp2
      go_end0
      exact ⟨rfl, l5, hw5, h5, FW.from_drewN 1 hf5⟩
end Go.Proofs.YtifebbdjdllfpaaGreatDoor
/- Writing an operator with its sides. -/
namespace Go.Proofs.YtifebbdjdllfpaaGreatDoor
open Go.RowKit
open Px (opL opX dg lv)
set_option linter.unusedSimpArgs false
set_option linter.unusedVariables false

theorem opX_len (m : Nat) (h1 : 1 ≤ m) (h2 : m ≤ 13) : (opX m).length ≤ 2 := by
  rcases Px.op_cases h1 h2 with rfl | rfl | rfl | rfl | rfl | rfl | rfl | rfl | rfl | rfl | rfl | rfl | rfl <;> decide
theorem opL_le (m : Nat) (h1 : 1 ≤ m) (h2 : m ≤ 13) : 1 ≤ opL m ∧ opL m ≤ 5 := by
  rcases Px.op_cases h1 h2 with rfl | rfl | rfl | rfl | rfl | rfl | rfl | rfl | rfl | rfl | rfl | rfl | rfl <;> decide
theorem mark_cat (mk : List UInt8) : ((⟨#[32]⟩ ++ ⟨mk.toArray⟩ ++ ⟨#[32]⟩ : ByteArray)) = ⟨(32 :: (mk ++ [32])).toArray⟩ := by
  apply ByteArray.ext
  simp [ByteArray.data_append]
set_option maxRecDepth 100000 in
set_option maxHeartbeats 8000000 in
theorem binary_any {base b : Nat} {m : Nat} (h1 : 1 ≤ m) (h2 : m ≤ 13) {k n : Int} {t : List UInt8} {a c : GE} (hXa : ExOk base b a) (hXc : ExOk base b c) {l : List UInt8} {tabs : Nat} {cs : List Value} {w : World} (hW : Wr base b l tabs w) (hx : IsGE (fun k => k < base) w (.mk k m n t [a, c]) cs) :
    Calls Tryz.prog 140 #[wPtr b, .agg cs.toArray] w fun r w' => WPost base b l tabs w ((gE a).bind fun x => (gE c).map fun y => withinS (gLow (lv m) a) x ++ 32 :: (opX m ++ 32 :: withinS (gLow (opL m + 1) c) y)) r w' := by
  rw [IsGE] at hx
  obtain ⟨x, p, y, sl, row, rfl, hr, ha⟩ := hx
  obtain ⟨ao, cap, rfl, hm⟩ := hr.slice
  obtain ⟨res, hres⟩ : ∃ res : Option (List UInt8), Aside (res = (gE a).bind fun x => (gE c).map fun y => withinS (gLow (lv m) a) x ++ 32 :: (opX m ++ 32 :: withinS (gLow (opL m + 1) c) y)) := ⟨_, show _ = _ from rfl⟩
  rw [← hres.out]
  have hE := (In.start hW).alloc (geBox k m n t x y (.slice ao 2 cap) p) 24 (by decide)
  have hO := oper_ok m h1 h2
  have hml := opX_len m h1 h2
  obtain ⟨hl1, hl5⟩ := opL_le m h1 h2
  obtain ⟨lf, hlf, hlf6⟩ : ∃ lf : Nat, lf + 1 = lv m ∧ lf ≤ 6 := ⟨lv m - 1, by unfold lv; split <;> omega, by unfold lv; split <;> omega⟩
  obtain ⟨q, hqq⟩ : ∃ q : Nat, q + 1 = opL m := ⟨opL m - 1, by omega⟩
  have hq5 : q ≤ 4 := by omega
  have hlq : Aside ((q = 2 → lf = q + 1) ∧ (q ≠ 2 → lf = q)) := by
    show _ ∧ _
    unfold lv at hlf
    rw [← hqq] at hlf
    constructor
    · intro h; rw [if_pos (by omega)] at hlf; omega
    · intro h; rw [if_neg (by omega)] at hlf; omega
  rw [← hlf, ← hqq] at hres
  rw [show opL m - 1 = q by omega] at hO
  generalize opX m = mk at *
  clear hW hm hl1 hl5 hlf hqq
  have hA := fun (w' : World) (hF : FW base b w w') => arg_at hr ha hF (q := 0) (e := a) rfl
  have hB := fun (w' : World) (hF : FW base b w w') => arg_at hr ha hF (q := 1) (e := c) rfl
  clear hr ha
  go_enter Tryz.func140, Tryz.ntmps140
  go_wp2_with fail
  generalize w.alloc (.cells (geBox k m n t x y (.slice ao 2 cap) p) 24) = w2 at *
  generalize w.heap.size = g0 at *
  have l0 : g0 < w2.heap.size := hE.lt (q := (g0, xBox _)) (by simp; rfl)
  obtain ⟨x0, x1, x2, x3, x4, x5, x6, x7, _⟩ := cells_of8 (hE.kept _ (List.mem_cons_self))
  refine (hO _).mono ?_
  rintro e w3 ⟨rfl, rfl⟩
  obtain ⟨g, o', u0, u1, u2, u3, u4, u5, u6, u7, rfl, hg, ⟨e0, e1, e2, e3, e4, e5, e6, e7⟩, hgs⟩ := hA w3 hE.fw
  simp only [Nat.zero_mul, Nat.add_zero] at e0 e1 e2 e3 e4 e5 e6 e7
  have hC := hXa lf l tabs _ w3 hlf6 hE.wr hgs
  clear hgs hA hO
  have hF3 := hE.fw
  by_cases h2q : q = 2
  · have hlq2 := (hlq.out).1 h2q
    have hqI : ((q : Int) == 2) = true := by rw [h2q]; rfl
    clear h2q hlq
    rw [hlq2] at hC hres
    clear hlq2 hlf6
    try simp only [Int.natCast_add, Int.cast_ofNat_Int] at hC
    go_wp2_with fail
    refine hC.mono ?_
    rcases hqa : gE a with _ | za
    · rintro e w4 ⟨rfl, l4, tabs4, h4, hf4⟩
      refine ⟨rfl, ?_⟩
      rw [hres.out, hqa]
      exact ⟨rfl, l4, tabs4, h4, hF3.trans hf4⟩
    rintro e w4 ⟨rfl, l4, hw4, h4, hf4⟩
    have hE4 := hE.step h4 hf4
    clear e0 e1 e2 e3 e4 e5 e6 e7 x0 x1 x2 x3 x4 x5 x6 x7 l0 hg hC
    have l0 : g0 < w4.heap.size := hE4.lt (q := (g0, xBox _)) (by simp; rfl)
    obtain ⟨x0, x1, x2, x3, x4, x5, x6, x7, _⟩ := cells_of8 (hE4.kept _ (List.mem_cons_self))
    go_wp2_with fail
    rw [mark_cat]
    refine (put_l h4 (32 :: (mk ++ [32])) (by simp; omega)).mono ?_
    rintro e w5 ⟨rfl, l5, hw5, h5, hf5⟩
    have hE5 := hE4.step h5 hf5
    clear x0 x1 x2 x3 x4 x5 x6 x7 l0
    have l0 : g0 < w5.heap.size := hE5.lt (q := (g0, xBox _)) (by simp; rfl)
    obtain ⟨x0, x1, x2, x3, x4, x5, x6, x7, _⟩ := cells_of8 (hE5.kept _ (List.mem_cons_self))
    obtain ⟨g, o', u0, u1, u2, u3, u4, u5, u6, u7, hao, hg, ⟨e0, e1, e2, e3, e4, e5, e6, e7⟩, hgs⟩ := hB w5 hE5.fw
    simp only [Option.some.injEq, Addr.mk.injEq, and_true] at hao
    obtain ⟨rfl, rfl⟩ := hao
    simp only [Nat.one_mul, Nat.add_assoc, Nat.reduceAdd] at e0 e1 e2 e3 e4 e5 e6 e7
    have hC := hXc (q + 1) l5 tabs _ w5 (by omega) h5 hgs
    simp only [Int.natCast_add, Int.cast_ofNat_Int] at hC
    clear hgs hB
    go_wp2_with fail
    refine hC.mono ?_
    rcases hqc : gE c with _ | zc
    · rintro e w6 ⟨rfl, l6, tabs6, h6, hf6⟩
      refine ⟨rfl, ?_⟩
      rw [hres.out, hqa, hqc]
      exact ⟨rfl, l6, tabs6, h6, hE5.fw.trans hf6⟩
    · rintro e w6 ⟨rfl, l6, hw6, h6, hf6⟩
      go_wp2
      go_end0
      rw [hres.out, hqa, hqc]
      exact ⟨rfl, l6, by simpa using (hw4.trans hw5).trans hw6, h6, hE5.fw.trans hf6⟩
  · have hlq2 := (hlq.out).2 h2q
    have hqI : ((q : Int) == 2) = false := by rw [beq_eq_false_iff_ne]; omega
    clear h2q hlq
    rw [hlq2] at hC hres
    clear hlq2 hlf6
    try simp only [Int.natCast_add, Int.cast_ofNat_Int] at hC
    go_wp2_with fail
    refine hC.mono ?_
    rcases hqa : gE a with _ | za
    · rintro e w4 ⟨rfl, l4, tabs4, h4, hf4⟩
      refine ⟨rfl, ?_⟩
      rw [hres.out, hqa]
      exact ⟨rfl, l4, tabs4, h4, hF3.trans hf4⟩
    rintro e w4 ⟨rfl, l4, hw4, h4, hf4⟩
    have hE4 := hE.step h4 hf4
    clear e0 e1 e2 e3 e4 e5 e6 e7 x0 x1 x2 x3 x4 x5 x6 x7 l0 hg hC
    have l0 : g0 < w4.heap.size := hE4.lt (q := (g0, xBox _)) (by simp; rfl)
    obtain ⟨x0, x1, x2, x3, x4, x5, x6, x7, _⟩ := cells_of8 (hE4.kept _ (List.mem_cons_self))
    go_wp2_with fail
    rw [mark_cat]
    refine (put_l h4 (32 :: (mk ++ [32])) (by simp; omega)).mono ?_
    rintro e w5 ⟨rfl, l5, hw5, h5, hf5⟩
    have hE5 := hE4.step h5 hf5
    clear x0 x1 x2 x3 x4 x5 x6 x7 l0
    have l0 : g0 < w5.heap.size := hE5.lt (q := (g0, xBox _)) (by simp; rfl)
    obtain ⟨x0, x1, x2, x3, x4, x5, x6, x7, _⟩ := cells_of8 (hE5.kept _ (List.mem_cons_self))
    obtain ⟨g, o', u0, u1, u2, u3, u4, u5, u6, u7, hao, hg, ⟨e0, e1, e2, e3, e4, e5, e6, e7⟩, hgs⟩ := hB w5 hE5.fw
    simp only [Option.some.injEq, Addr.mk.injEq, and_true] at hao
    obtain ⟨rfl, rfl⟩ := hao
    simp only [Nat.one_mul, Nat.add_assoc, Nat.reduceAdd] at e0 e1 e2 e3 e4 e5 e6 e7
    have hC := hXc (q + 1) l5 tabs _ w5 (by omega) h5 hgs
    simp only [Int.natCast_add, Int.cast_ofNat_Int] at hC
    clear hgs hB
    go_wp2_with fail
    refine hC.mono ?_
    rcases hqc : gE c with _ | zc
    · rintro e w6 ⟨rfl, l6, tabs6, h6, hf6⟩
      refine ⟨rfl, ?_⟩
      rw [hres.out, hqa, hqc]
      exact ⟨rfl, l6, tabs6, h6, hE5.fw.trans hf6⟩
    · rintro e w6 ⟨rfl, l6, hw6, h6, hf6⟩
      go_wp2
      go_end0
      rw [hres.out, hqa, hqc]
      exact ⟨rfl, l6, by simpa using (hw4.trans hw5).trans hw6, h6, hE5.fw.trans hf6⟩
end Go.Proofs.YtifebbdjdllfpaaGreatDoor
/- Writing a block of statements, over whatever writes one. -/
namespace Go.Proofs.YtifebbdjdllfpaaGreatDoor
open Go.RowKit
set_option linter.unusedSimpArgs false
set_option linter.unusedVariables false

mutual
/-- How many statements there are within. -/
def gsD : GS → Nat
  | .mk k n es b c => 1 + gsDs b + gsDs c
def gsDs : List GS → Nat
  | [] => 0
  | s :: r => gsD s + gsDs r
end
theorem gsDs_get : ∀ {l : List GS} {i : Nat} {s : GS}, l[i]? = some s → gsD s ≤ gsDs l
  | [], i, s, h => by simp at h
  | a :: r, 0, s, h => by simp at h; subst h; rw [gsDs]; omega
  | a :: r, i + 1, s, h => by have := gsDs_get (l := r) (i := i) (s := s) (by simpa using h); rw [gsDs]; omega
abbrev indT (tabs : Nat) : List UInt8 := List.replicate tabs 9
theorem indT_succ (tabs : Nat) : indT (tabs + 1) = indT tabs ++ [9] := List.replicate_succ'
/-- The writing of a statement does what it should. -/
def StOk (base b : Nat) (s : GS) : Prop := ∀ (l : List UInt8) (tabs : Nat) (cs : List Value) (w : World), tabs + gsD s ≤ 1099511627776 → Wr base b l tabs w → IsGS (fun k => k < base) w s cs →
  Calls Tryz.prog 89 #[wPtr b, .agg cs.toArray] w fun r w' => WPost base b l tabs w (gSt s (indT tabs)) r w'
def BlOk (base b : Nat) (ss : List GS) : Prop := ∀ (l : List UInt8) (tabs : Nat) (v : Value) (w : World), tabs + 1 + gsDs ss ≤ 1099511627776 → Wr base b l tabs w → IsGSs (fun k => k < base) w ss v →
  Calls Tryz.prog 63 #[wPtr b, v] w fun r w' => WPost base b l tabs w (gBlk (gSts ss (indT tabs)) (indT tabs) ss.isEmpty) r w'
def stsJ (ind : List UInt8) (ys : List (List UInt8)) : List UInt8 := ys.flatMap fun x => ind ++ ([9] ++ (x ++ [10]))
def linesS (ind : List UInt8) (ys : List (List UInt8)) : List UInt8 := ys.flatMap fun x => 10 :: (ind ++ x)
theorem gSts_all (ind : List UInt8) : ∀ l : List GS, gSts l ind = (allS (l.map fun s => gSt s (ind ++ [9]))).map (stsJ ind)
  | [] => by simp [gSts, allS, stsJ]
  | s :: r => by
    rw [gSts, List.map_cons, allS, gSts_all ind r]
    rcases gSt s (ind ++ [9]) with _ | x <;> rcases allS (r.map fun s => gSt s (ind ++ [9])) with _ | xs <;> simp [stsJ]
theorem lines_eq (ind : List UInt8) : ∀ ys : List (List UInt8), linesS (ind ++ [9]) ys ++ [10] = 10 :: stsJ ind ys
  | [] => by simp [linesS, stsJ]
  | x :: r => by
    have := lines_eq ind r
    simp only [linesS, stsJ, List.flatMap_cons, List.append_assoc, List.cons_append, List.nil_append] at this ⊢
    rw [this]
theorem lines_snoc (ind : List UInt8) (ys : List (List UInt8)) (x : List UInt8) : linesS ind (ys ++ [x]) = linesS ind ys ++ (10 :: (ind ++ x)) := by simp [linesS]
theorem blk_text (ind : List UInt8) (ys : List (List UInt8)) : 123 :: (linesS (ind ++ [9]) ys ++ (10 :: (ind ++ [125]))) = blkS (stsJ ind ys) ind false := by
  have := lines_eq ind ys
  simp only [blkS, Bool.false_eq_true, if_false]
  rw [show linesS (ind ++ [9]) ys ++ 10 :: (ind ++ [125]) = (linesS (ind ++ [9]) ys ++ [10]) ++ (ind ++ [125]) by simp, this]
  simp
theorem IsGS.shows {B : Nat → Prop} {w : World} {s : GS} {cs : List Value} (h : IsGS B w s cs) : ∃ (k : Int) (nm : ByteArray) (x : Int) (f : Bool) (y : Int) (a1 : Option Addr) (n1 q1 : Nat) (a2 : Option Addr) (n2 q2 : Nat) (a3 : Option Addr) (n3 q3 : Nat) (p : Int), cs = [.int .i64 k, .string nm, .int .i64 x, .bool f, .int .i64 y, .slice a1 n1 q1, .slice a2 n2 q2, .slice a3 n3 q3, .int .i64 p] := by
  obtain ⟨k, nm, es, bo, el⟩ := s
  rw [IsGS] at h
  obtain ⟨x, y, p, f, s1, s2, s3, r1, r2, r3, hcs, h1, _, h3, _, h5, _⟩ := h
  obtain ⟨a1, q1, rfl, _⟩ := h1.slice
  obtain ⟨a2, q2, rfl, _⟩ := h3.slice
  obtain ⟨a3, q3, rfl, _⟩ := h5.slice
  exact ⟨_, _, _, _, _, _, _, _, _, _, _, _, _, _, _, hcs⟩
abbrev sBox (cs : Array Value) : Obj := .cells cs 41 (0, 0)
set_option maxRecDepth 100000 in
set_option maxHeartbeats 8000000 in
theorem block_none {base b : Nat} : BlOk base b [] := by
  intro l tabs v w hd h hx
  obtain ⟨row, hr, ha⟩ := hx
  obtain ⟨ao, cap, rfl, hm⟩ := hr.slice
  go_enter_defers Tryz.func63, Tryz.ntmps63
  go_wp2_with fail
  refine (put_l h [123] (by simp)).mono ?_
  rintro r w2 ⟨rfl, l2, hw2, h2, hf2⟩
  go_wp2
  refine leave1 rfl h2 (by simp) ?_
  intro l4 w4 hw4 h4 hf4
  exact ⟨rfl, l4, by simpa [blkS] using hw2.trans hw4, h4, hf2.trans hf4⟩
set_option maxRecDepth 100000 in
set_option maxHeartbeats 8000000 in
theorem block_any {base b : Nat} {ss : List GS} (hne : 0 < ss.length) (hS : ∀ s ∈ ss, StOk base b s) : BlOk base b ss := by
  intro l tabs v w hd h hx
  obtain ⟨row, hr, ha⟩ := hx
  obtain ⟨ao, cap, rfl, hm⟩ := hr.slice
  have hneI : ((ss.length : Int) == 0) = false := by rw [beq_eq_false_iff_ne]; omega
  have hemp : ss.isEmpty = false := by cases ss with | nil => simp at hne | cons _ _ => rfl
  unfold maxLen at hm
  have hround : ∀ (q : Nat) (wr : World), q < ss.length → FW base b w wr → ∃ (s : GS) (g o : Nat) (u0 u1 u2 u3 u4 u5 u6 u7 u8 : Value), ss[q]? = some s ∧ ao = some ⟨g, o, none⟩ ∧ g < wr.heap.size ∧
      (wr.cell? ⟨g, o + q * 9, none⟩ = some u0 ∧ wr.cell? ⟨g, o + q * 9 + 1, none⟩ = some u1 ∧ wr.cell? ⟨g, o + q * 9 + 2, none⟩ = some u2 ∧ wr.cell? ⟨g, o + q * 9 + 3, none⟩ = some u3 ∧ wr.cell? ⟨g, o + q * 9 + 4, none⟩ = some u4 ∧ wr.cell? ⟨g, o + q * 9 + 5, none⟩ = some u5 ∧ wr.cell? ⟨g, o + q * 9 + 6, none⟩ = some u6 ∧ wr.cell? ⟨g, o + q * 9 + 7, none⟩ = some u7 ∧ wr.cell? ⟨g, o + q * 9 + 8, none⟩ = some u8) ∧
      IsGS (fun k => k < base) w s [u0, u1, u2, u3, u4, u5, u6, u7, u8] := by
    intro q wr hq hF
    obtain ⟨s, hs⟩ : ∃ s, ss[q]? = some s := ⟨ss[q], List.getElem?_eq_getElem hq⟩
    obtain ⟨cx, kx, rx⟩ := ha.get hs
    obtain ⟨g, o, c, e0, _, _, hgb, hg, hc⟩ := hr.cells (by omega)
    simp only [Value.slice.injEq] at e0
    obtain ⟨rfl, _, rfl⟩ := e0
    match cx, kx.len, rx, kx with
    | [u0, u1, u2, u3, u4, u5, u6, u7, u8], _, rx, kx =>
      have f0 : ∀ (j : Nat) (u : Value), j < 9 → ([u0, u1, u2, u3, u4, u5, u6, u7, u8] : List Value)[j]? = some u → wr.cell? ⟨g, o + q * 9 + j, none⟩ = some u := by
        intro j u hj hu
        rw [Nat.add_assoc, hF.below.cell (p := ⟨g, o + (q * 9 + j), none⟩) hgb]
        exact hc _ _ (by rw [rx j hj]; exact hu)
      refine ⟨s, g, o, u0, u1, u2, u3, u4, u5, u6, u7, u8, hs, rfl, by have := hF.size; omega, ⟨f0 0 _ (by omega) rfl, f0 1 _ (by omega) rfl, f0 2 _ (by omega) rfl, f0 3 _ (by omega) rfl, f0 4 _ (by omega) rfl, f0 5 _ (by omega) rfl, f0 6 _ (by omega) rfl, f0 7 _ (by omega) rfl, f0 8 _ (by omega) rfl⟩, kx⟩
  clear hr ha
  obtain ⟨res, hres⟩ : ∃ res, Aside (res = gBlk (gSts ss (indT tabs)) (indT tabs) ss.isEmpty) := ⟨_, rfl⟩
  rw [← hres.out]
  rw [hemp, gSts_all, ← indT_succ] at hres
  go_enter_defers Tryz.func63, Tryz.ntmps63
  go_wp2_with fail
  refine (put_l h [123] (by simp)).mono ?_
  rintro r w2 ⟨rfl, l2, hw2, h2, hf2⟩
  have hlt2 := h2.lt
  obtain ⟨c2, f2⟩ := h2.cells
  have h3 := h2.tabs (tabs + 1)
  have hf3 := hf2.set h2.le 2 (.int .i64 (tabs + 1 : Nat))
  clear h h2 hf2
  simp only [Int.natCast_add, Int.cast_ofNat_Int] at h3 hf3
  go_wp2_with fail
  generalize w2.setCell ⟨b, 2, none⟩ (.int .i64 ((tabs : Int) + 1)) = w3 at *
  go_loopg [21] ss.length (fun g i wr => ∃ (ys : List (List UInt8)) (lk : List UInt8), ys.length ≤ ss.length ∧ g = ss.length - ys.length ∧ i = .int .i64 ys.length ∧ (ss.take ys.length).map (fun s => gSt s (indT (tabs + 1))) = ys.map some ∧ wrote l (123 :: linesS (indT (tabs + 1)) ys) lk ∧ Wr base b lk (tabs + 1) wr ∧ FW base b w wr)
  case atStart => exact ⟨[], l2, by simp, rfl, rfl, by simp, by simpa [linesS] using hw2, h3, hf3⟩
  case round =>
    clear hw2 h3 hf3 hlt2 c2 f2
    obtain ⟨ys, lk, hk, rfl, rfl, htk, hwk, h1, hf1⟩ := hrel
    by_cases hlt : ys.length < ss.length
    · have hltI : (ys.length : Int) < (ss.length : Int) := by omega
      obtain ⟨s, g, o, u0, u1, u2, u3, u4, u5, u6, u7, u8, hs, rfl, hg, ⟨e0, e1, e2, e3, e4, e5, e6, e7, e8⟩, hgs⟩ := hround ys.length wr hlt hf1
      clear hround
      have hmem : s ∈ ss := List.mem_of_getElem? hs
      have hsz := gsDs_get hs
      obtain ⟨k, nm, x, f, y, a1, n1, q1, a2, n2, q2, a3, n3, q3, p, hcs⟩ := hgs.shows
      simp only [List.cons.injEq, and_true] at hcs
      obtain ⟨rfl, rfl, rfl, rfl, rfl, rfl, rfl, rfl, rfl⟩ := hcs
      have hE := (In.start h1).alloc #[.int .i64 k, .string nm, .int .i64 x, .bool f, .int .i64 y, .slice a1 n1 q1, .slice a2 n2 q2, .slice a3 n3 q3, .int .i64 p] 41 (by decide)
      have hSt := hS s hmem
      clear hS
      go_wp2_with fail
      generalize hww : wr.alloc (.cells #[.int .i64 k, .string nm, .int .i64 x, .bool f, .int .i64 y, .slice a1 n1 q1, .slice a2 n2 q2, .slice a3 n3 q3, .int .i64 p] 41) = w4 at *
      generalize wr.heap.size = gg at *
      refine (line_any hE.wr (by omega)).mono ?_
      rintro e w5 ⟨rfl, l5, hw5, h5, hf5⟩
      have hE5 := hE.step h5 hf5
      have lg : gg < w5.heap.size := hE5.lt (q := (gg, _)) (by simp; rfl)
      obtain ⟨x0, x1, x2, x3, x4, x5, x6, x7, x8, _⟩ := cells_of9 (hE5.kept _ (List.mem_cons_self))
      have hF5 := hf1.trans hE5.fw
      have hC := hSt l5 (tabs + 1) [.int .i64 k, .string nm, .int .i64 x, .bool f, .int .i64 y, .slice a1 n1 q1, .slice a2 n2 q2, .slice a3 n3 q3, .int .i64 p] w5 (by omega) h5 (hgs.since hF5.since)
      clear hSt hgs hE hE5 hf5 hww e0 e1 e2 e3 e4 e5 e6 e7 e8
      rcases hq : gSt s (indT (tabs + 1)) with _ | x
      · rw [hq] at hC
        go_wp2_with fail
        refine hC.mono ?_
        rintro e w6 ⟨rfl, l6, tabs6, h6, hf6⟩
        refine leave1P h6 (by simp) ?_
        intro l7 w7 h7 hf7
        rw [hres.out, allS_none (i := ys.length) (by rw [List.getElem?_map, hs, Option.map_some, hq])]
        exact ⟨rfl, l7, tabs6, h7, (hF5.trans hf6).trans hf7⟩
      · rw [hq] at hC
        go_wp2_with fail
        refine hC.mono ?_
        rintro e w6 ⟨rfl, l6, hw6, h6, hf6⟩
        go_wp2_with fail
        go_roundg (ss.length - (ys.length + 1))
        case measure => omega
        case rel =>
          refine ⟨ys ++ [x], l6, by simp; omega, by simp, by simp, ?_, ?_, h6, hF5.trans hf6⟩
          · rw [List.length_append, List.length_singleton, List.take_add_one, List.map_append, htk, hs]
            simp [hq]
          · rw [lines_snoc]
            simpa using (hwk.trans hw5).trans hw6
    · have hltI : ¬ (ys.length : Int) < (ss.length : Int) := by omega
      have hall : ss.map (fun s => gSt s (indT (tabs + 1))) = ys.map some := by
        rw [List.take_of_length_le (by omega)] at htk
        exact htk
      obtain ⟨c2, f2⟩ := h1.cells
      simp only [Int.natCast_add, Int.cast_ofNat_Int] at c2
      have hlb := h1.lt
      have h6 := h1.tabs tabs
      have hf6 := hf1.set h1.le 2 (.int .i64 (tabs : Nat))
      have e1 : (tabs : Int) + 1 - 1 = tabs := by omega
      clear hround hS h1 hf1
      go_wp2_with fail
      generalize wr.setCell ⟨b, 2, none⟩ (.int .i64 (tabs : Int)) = w6 at *
      refine (line_any h6 (by omega)).mono ?_
      rintro e w7 ⟨rfl, l7, hw7, h7, hf7⟩
      go_wp2
      refine leave1 rfl h7 (by simp) ?_
      intro l8 w8 hw8 h8 hf8
      rw [hres.out, hall, allS_some]
      refine ⟨rfl, l8, ?_, h8, (hf6.trans hf7).trans hf8⟩
      show wrote l (blkS (stsJ (indT tabs) ys) (indT tabs) false) l8
      rw [← blk_text, ← indT_succ]
      simpa using (hwk.trans hw7).trans hw8
end Go.Proofs.YtifebbdjdllfpaaGreatDoor
