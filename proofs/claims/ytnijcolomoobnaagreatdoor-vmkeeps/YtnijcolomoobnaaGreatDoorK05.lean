/- Texts of ours, joined: Kg, Kw, Vy, Rev, Vk, Vm. -/
import Derived.Test.YtnijcolomoobnaaGreatDoorK03
import Derived.Laws.MakeOwn
import Derived.Laws.AppendOwn
import Derived.Laws.OwnMore
import Derived.Deep.AppendLies
import Derived.Test.YtnijcolomoobnaaGreatDoorK04
import Derived.Lib.AppendZeros
import Derived.Test.YtnijcolomoobnaaGreatDoorShelf
import Derived.Test.YtnijcolomoobnaaGreatDoorK00
import Derived.Test.YtnijcolomoobnaaGreatDoorK01
import Derived.WalkKit
import Derived.WalkSpells
import Derived.WalkLawsBesides
import Derived.Deep.QuietTactic
import Derived.BigQuiet
namespace Go.Proofs.YtnijcolomoobnaaGreatDoor
open Go.RowKit
set_option linter.unusedVariables false
set_option linter.unusedSimpArgs false

abbrev iV (x : Int) : Value := .int .i64 x
abbrev bV (x : Bool) : Value := .bool x
def Ints (w : World) (g : Nat) (hs : List Int) : Prop := w.heap[g]? = some (.cells (hs.map iV).toArray 3 (0, 0))
def Bools (w : World) (g : Nat) (bs : List Bool) : Prop := w.heap[g]? = some (.cells (bs.map bV).toArray 4 (0, 0))
theorem Ints.get {w : World} {g : Nat} {hs : List Int} (h : Ints w g hs) {p : Nat} {x : Int} (hp : hs[p]? = some x) : w.cell? ⟨g, p, none⟩ = some (.int .i64 x) ∧ w.frozen? ⟨g, p, none⟩ = false ∧ g < w.heap.size := by
  unfold Ints at h
  refine ⟨?_, by simp [World.frozen?, h], (Array.getElem?_eq_some_iff.1 h).1⟩
  simp only [World.cell?, h]
  simp [hp]
theorem Bools.get {w : World} {g : Nat} {hs : List Bool} (h : Bools w g hs) {p : Nat} {x : Bool} (hp : hs[p]? = some x) : w.cell? ⟨g, p, none⟩ = some (.bool x) ∧ w.frozen? ⟨g, p, none⟩ = false ∧ g < w.heap.size := by
  unfold Bools at h
  refine ⟨?_, by simp [World.frozen?, h], (Array.getElem?_eq_some_iff.1 h).1⟩
  simp only [World.cell?, h]
  simp [hp]
theorem Ints.set {w : World} {g : Nat} {hs : List Int} (h : Ints w g hs) (p : Nat) (x : Int) : Ints (w.setCell ⟨g, p, none⟩ (.int .i64 x)) g (hs.set p x) := by
  unfold Ints at *
  simp [World.setCell, Array.getElem?_modify, h, List.map_set, Array.setIfInBounds]
  intro hle
  rw [List.set_eq_of_length_le (by simp; omega)]
theorem Bools.set {w : World} {g : Nat} {hs : List Bool} (h : Bools w g hs) (p : Nat) (x : Bool) : Bools (w.setCell ⟨g, p, none⟩ (.bool x)) g (hs.set p x) := by
  unfold Bools at *
  simp [World.setCell, Array.getElem?_modify, h, List.map_set, Array.setIfInBounds]
  intro hle
  rw [List.set_eq_of_length_le (by simp; omega)]
theorem Ints.keep {w w' : World} {g : Nat} {hs : List Int} (h : Ints w g hs) (e : w'.heap[g]? = w.heap[g]?) : Ints w' g hs := e.trans h
theorem Bools.keep {w w' : World} {g : Nat} {hs : List Bool} (h : Bools w g hs) (e : w'.heap[g]? = w.heap[g]?) : Bools w' g hs := e.trans h
theorem infoParts {T : TypeId} {z : Value} {size bytes : Nat} (h : (Tryz.prog.info? T).map (fun i => (i.zero, i.size, i.bytes)) = some (some z, size, bytes)) : ∃ i, Tryz.prog.info? T = some i ∧ i.zero = some z ∧ i.size = size ∧ i.bytes = bytes := by
  rcases hi : Tryz.prog.info? T with _ | i
  · rw [hi] at h; cases h
  · rw [hi] at h
    simp only [Option.map_some, Option.some.injEq, Prod.mk.injEq] at h
    exact ⟨i, rfl, h.1, h.2.1, h.2.2⟩
theorem intInfo : (Tryz.prog.info? 3).map (fun i => (i.zero, i.size, i.bytes)) = some (some (.int .i64 0), 1, 8) := by kernel_rfl
theorem made1 (z : Value) (n : Nat) : madeCells #[z] n = (List.replicate n z).toArray := by
  apply Array.ext
  · simp [madeCells]
  · intro i h1 h2
    simp [madeCells, Nat.mod_one]
theorem make_ints (n : Nat) (hn : n ≤ 1000000) (w : World) : ∃ w', (Instr.makeSlice 122 (.int .i64 n) (.int .i64 n)).run Tryz.prog w = .ok (.slice (some ⟨w.heap.size, 0, none⟩) n n) w' ∧ Ints w' w.heap.size (List.replicate n 0) ∧ Below w.heap.size w w' ∧ w.heap.size < w'.heap.size := by
  obtain ⟨i, hi, hz, hs, hb⟩ := infoParts intInfo
  have h := run_make (P := Tryz.prog) w 122 3 i _ Tryz.underlying122 hi hz .i64 .i64 n n (by omega) (by omega) (by rw [hb]; omega) (by omega)
  have e : (Value.int .i64 0).cells = #[.int .i64 0] := rfl
  rw [hs, e, made1] at h
  simp only [Int.toNat_natCast, Nat.mul_one] at h
  refine ⟨_, h, ?_, (Below.refl _ _).alloc (Nat.le_refl _) _, by simp⟩
  unfold Ints
  rw [List.map_replicate]
  exact heap_new _ _
def IRow (n0 : Nat) (w : World) (v : Value) (l : List Int) : Prop := w.ownsRow n0 3 1 v l.length (l.map iV)
theorem IRow.nil (n0 : Nat) (w : World) : IRow n0 w (.slice none 0 0) [] := ⟨rfl, Or.inl ⟨rfl, rfl⟩⟩
theorem IRow.slice {n0 : Nat} {w : World} {v : Value} {l : List Int} (h : IRow n0 w v l) : ∃ ao cap, v = .slice ao l.length cap ∧ l.length ≤ cap ∧ cap ≤ 9223372036854775807 := by
  rcases h.2 with ⟨e, h0⟩ | ⟨g, cap, cur, e, h4, h5, h6, h7, _⟩
  · exact ⟨none, 0, by rw [e, h0], by omega, by omega⟩
  · exact ⟨_, cap, e, h6, by unfold maxLen at h7; omega⟩
theorem IRow.since {n0 : Nat} {w w' : World} {v : Value} {l : List Int} (h : IRow n0 w v l) (e : ∀ j, v.ownBlock = some j → w'.heap[j]? = w.heap[j]?) : IRow n0 w' v l := by
  refine ⟨h.1, ?_⟩
  rcases h.2 with h3 | ⟨g, cap, cur, h3, h4, h5, h6⟩
  · exact Or.inl h3
  · exact Or.inr ⟨g, cap, cur, h3, h4, by rw [e g (by rw [h3]; rfl)]; exact h5, h6⟩
theorem IRow.lt {n0 : Nat} {w : World} {v : Value} {l : List Int} (h : IRow n0 w v l) {j : Nat} (e : v.ownBlock = some j) : n0 ≤ j ∧ j < w.heap.size := World.ownsRow.lt h j e
theorem IRow.get {n0 : Nat} {w : World} {v : Value} {l : List Int} (h : IRow n0 w v l) {i : Nat} {x : Int} (hi : l[i]? = some x) : ∃ g cap, v = .slice (some ⟨g, 0, none⟩) l.length cap ∧ g < w.heap.size ∧ w.cell? ⟨g, i, none⟩ = some (.int .i64 x) := by
  have hlt := (List.getElem?_eq_some_iff.1 hi).1
  rcases h.2 with ⟨e, h0⟩ | ⟨g, cap, cur, h3, h4, h5, h6, h7, h8, h9⟩
  · omega
  · refine ⟨g, cap, h3, (Array.getElem?_eq_some_iff.1 h5).1, ?_⟩
    have hc : w.cell? ⟨g, i, none⟩ = cur[i]? := by simp [World.cell?, h5]
    rw [hc]
    have h10 : (l.map iV)[i]? = some (iV x) := by rw [List.getElem?_map, hi]; rfl
    rw [← h9, List.getElem?_take] at h10
    split at h10
    · simpa using h10
    · cases h10
theorem IRow.push {n0 : Nat} {w : World} {v : Value} {l : List Int} (h : IRow n0 w v l) {x : Int} {g0 : Nat} (hb : w.heap[g0]? = some (.cells #[iV x] 3 (0, 0))) (hn : n0 ≤ w.heap.size) (hl : l.length ≤ 100000) (c : Nat) (ty : TypeId) :
    ∃ g cap w', (Builtin.append_ #[122, 122] ty #[v, .slice (some ⟨g0, 0, none⟩) 1 c]).run Tryz.prog w = .ok (.slice (some ⟨g, 0, none⟩) (l.length + 1) cap) w' ∧ IRow n0 w' (.slice (some ⟨g, 0, none⟩) (l.length + 1) cap) (l ++ [x]) ∧ w.grownBy w' v.ownBlock ∧ (v.ownBlock = some g ∨ w.heap.size ≤ g) := by
  obtain ⟨i, hi, hz, hs, hby⟩ := infoParts intInfo
  obtain ⟨g, cap, w', hr, ho, hg, hat, hlt⟩ := run_append_lies (P := Tryz.prog) w 122 ty n0 3 i _ 1 8 Tryz.underlying122 hi hz hs hby rfl (by decide) v l.length (l.map iV) h ⟨g0, 0, none⟩ 1 c [iV x] rfl (fun j u hj => by
    have hj0 : j = 0 := by have := (List.getElem?_eq_some_iff.1 hj).1; simp at this; omega
    subst hj0
    simp only [List.getElem?_cons_zero, Option.some.injEq] at hj
    subst hj
    have : w.cell? ⟨g0, 0, none⟩ = some (iV x) := by simp [World.cell?, hb]
    simpa [Addr.add] using this) (fun u hu => by simp at hu; subst hu; rfl) (by omega) (by unfold maxLen; omega) (by omega) hn _ rfl
  refine ⟨g, cap, w', hr, ?_, hg, ?_⟩
  · have : (l ++ [x]).length = l.length + 1 := by simp
    unfold IRow
    rw [this, List.map_append]
    exact ho
  · rcases hat with h | h
    · exact Or.inl h
    · exact Or.inr (by omega)
theorem IRow.below {n0 : Nat} {w w' : World} {v : Value} {l : List Int} (h : IRow n0 w v l) (hg : w.grownBy w' v.ownBlock) {n : Nat} (hn : n ≤ n0) (hn2 : n ≤ w.heap.size) : Below n w w' :=
  (Below.refl _ _).grown hg hn2 (fun k hk => by have := (h.lt hk).1; omega)
end Go.Proofs.YtnijcolomoobnaaGreatDoor
namespace Go.Proofs.YtnijcolomoobnaaGreatDoor
open Go.RowKit
set_option linter.unusedVariables false
set_option linter.unusedSimpArgs false
attribute [local go_sem ↓] Go.wp_at_zero Go.wp_at_succ

structure KS (w : World) (bm bf gh gs : Nat) (mc mf cd : Value) (f : Fu) (hs : List Int) (sn : List Bool) (wr : World) : Prop where
  below : Below w.heap.size w wr
  bk : wr.heap[bm]? = some (.cells #[mc, mf] 25 (0, 0))
  fk : wr.heap[bf]? = some (.cells #[.int .i64 f.params, .int .i64 f.locals, .int .i64 f.zero, .int .i64 f.stack, cd] 52 (0, 0))
  hk : Ints wr gh hs
  sk : Bools wr gs sn
  n1 : gh ≠ bm
  n2 : gh ≠ bf
  n3 : gs ≠ bm
  n4 : gs ≠ bf
  n5 : gh ≠ gs
  o1 : w.heap.size ≤ gh
  o2 : w.heap.size ≤ gs
theorem KS.keep {w : World} {bm bf gh gs : Nat} {mc mf cd : Value} {f : Fu} {hs : List Int} {sn : List Bool} {wr wr' : World} (h : KS w bm bf gh gs mc mf cd f hs sn wr) (hb : Below wr.heap.size wr wr') : KS w bm bf gh gs mc mf cd f hs sn wr' :=
  ⟨h.below.trans (hb.mono h.below.size), (hb.block _ (Array.getElem?_eq_some_iff.1 h.bk).1).trans h.bk, (hb.block _ (Array.getElem?_eq_some_iff.1 h.fk).1).trans h.fk, h.hk.keep (hb.block _ (Array.getElem?_eq_some_iff.1 h.hk).1), h.sk.keep (hb.block _ (Array.getElem?_eq_some_iff.1 h.sk).1), h.n1, h.n2, h.n3, h.n4, h.n5, h.o1, h.o2⟩
theorem zibox (w : World) (x0 x1 : Value) : ∃ wz w4, w.alloc (.cells #[.int .i64 0, .int .i64 0] 48) = wz ∧ (wz.setCell ⟨w.heap.size, 0, none⟩ x0).setCell ⟨w.heap.size, 1, none⟩ x1 = w4 ∧ Below w.heap.size w wz ∧ Below w.heap.size w w4 ∧ w4.heap.size = w.heap.size + 1 ∧ w4.heap[w.heap.size]? = some (.cells #[x0, x1] 48 (0, 0)) ∧ wz.heap[w.heap.size]? = some (.cells #[.int .i64 0, .int .i64 0] 48 (0, 0)) := by
  have hb : Below w.heap.size w (w.alloc (.cells #[.int .i64 0, .int .i64 0] 48)) := (Below.refl _ _).alloc (Nat.le_refl _) _
  have hz : (w.alloc (.cells #[.int .i64 0, .int .i64 0] 48)).heap[w.heap.size]? = some (.cells #[.int .i64 0, .int .i64 0] 48 (0, 0)) := heap_new _ _
  refine ⟨_, _, rfl, rfl, hb, (hb.setCell (p := ⟨w.heap.size, 0, none⟩) (Nat.le_refl _) x0).setCell (p := ⟨w.heap.size, 1, none⟩) (Nat.le_refl _) x1, by simp [World.setCell], ?_, hz⟩
  generalize w.alloc (.cells #[.int .i64 0, .int .i64 0] 48) = wz at *
  simp [World.setCell, Array.getElem?_modify, hz]
structure InsOk (fs : List Fu) (f : Fu) : Prop where
  len : 1 ≤ f.code.length
  top : f.code.length ≤ 16384
  stk : f.stack ≤ 256
  call : ∀ i ∈ f.code, i.op = 9 → ∃ (k : Nat) (g : Fu), i.a = (k : Int) ∧ fs[k]? = some g
  pop : ∀ i ∈ f.code, 0 ≤ popN fs i ∧ popN fs i ≤ 8
  jmp : ∀ i ∈ f.code, i.op = 7 ∨ i.op = 8 → 0 ≤ i.a
def WkPost (fs : List Fu) (f : Fu) (w : World) (e : Ending) (w' : World) : Prop := (∃ b, e = .returned (.bool b) ∧ (b = true ↔ WalkOk fs f)) ∧ Below w.heap.size w w'
end Go.Proofs.YtnijcolomoobnaaGreatDoor
namespace Go.Proofs.YtnijcolomoobnaaGreatDoor
open Go.RowKit
set_option linter.unusedSimpArgs false
set_option linter.unusedVariables false

set_option maxRecDepth 100000 in
set_option maxHeartbeats 1000000 in
theorem between_any (s a c : ByteArray) (w : World) (hs : s.size ≤ maxLen) :
    Calls Tryz.prog 184 #[.string s, .string a, .string c] w fun e w' => (∃ z, e = .returned (.tuple #[.string z, .bool (betw s.data.toList a.data.toList c.data.toList).isSome]) ∧ z.size ≤ s.size ∧ ∀ y, betw s.data.toList a.data.toList c.data.toList = some y → z = ⟨y.toArray⟩) ∧ w' = w := by
  have hl : (Lib.trimPrefix s.data.toList a.data.toList).length ≤ s.size := by
    unfold Lib.trimPrefix
    have : s.data.toList.length = s.size := by simp
    split <;> simp <;> omega
  have hz : (Lib.trimSuffix (Lib.trimPrefix s.data.toList a.data.toList) c.data.toList).length ≤ s.size := by
    refine Nat.le_trans ?_ hl
    generalize Lib.trimPrefix s.data.toList a.data.toList = q
    unfold Lib.trimSuffix
    split <;> simp
  have h1 := Tryz.strings_CutPrefix s a w
  have h2 := Tryz.strings_CutSuffix ⟨(Lib.trimPrefix s.data.toList a.data.toList).toArray⟩ c w (by show (Lib.trimPrefix s.data.toList a.data.toList).toArray.size ≤ _; unfold maxLen at hs; simp; omega)
  have hr : (betw s.data.toList a.data.toList c.data.toList).isSome = (Lib.hasPrefix s.data.toList a.data.toList && Lib.hasSuffix (Lib.trimPrefix s.data.toList a.data.toList) c.data.toList) := by
    unfold betw
    split
    · rename_i h; rw [h]; rfl
    · rename_i h; simp only [Bool.not_eq_true] at h; rw [h]; rfl
  have hy : ∀ y, betw s.data.toList a.data.toList c.data.toList = some y → y = Lib.trimSuffix (Lib.trimPrefix s.data.toList a.data.toList) c.data.toList := by
    intro y h
    unfold betw at h
    split at h
    · simpa using h.symm
    · cases h
  rw [hr]
  have hd : (ByteArray.mk (Lib.trimPrefix s.data.toList a.data.toList).toArray).data.toList = Lib.trimPrefix s.data.toList a.data.toList := by simp
  rw [hd] at h2
  clear hd hl
  generalize Lib.trimSuffix (Lib.trimPrefix s.data.toList a.data.toList) c.data.toList = z at *
  generalize Lib.hasSuffix (Lib.trimPrefix s.data.toList a.data.toList) c.data.toList = q at *
  generalize Lib.trimPrefix s.data.toList a.data.toList = z1 at *
  generalize Lib.hasPrefix s.data.toList a.data.toList = p at *
  have hf : (∃ z' : ByteArray, Ending.returned (.tuple #[.string ⟨z.toArray⟩, .bool (p && q)]) = .returned (.tuple #[.string z', .bool (p && q)]) ∧ z'.size ≤ s.size ∧ ∀ y, betw s.data.toList a.data.toList c.data.toList = some y → z' = ⟨y.toArray⟩) :=
    ⟨⟨z.toArray⟩, rfl, by show z.toArray.size ≤ _; simpa using hz, fun y h => by rw [hy y h]⟩
  clear hy hr hz
  cases p
  all_goals
    go_enter Tryz.func184, Tryz.ntmps184
    go_wp2_with (go_at_call 186; refine h1.mono ?_; rintro e w' ⟨rfl, rfl⟩)
    go_wp2_with (go_at_call 187; refine h2.mono ?_; rintro e w' ⟨rfl, rfl⟩)
    go_wp2
    go_ret2
    exact ⟨by simpa using hf, rfl⟩
theorem between_yes (s : ByteArray) (a c y : List UInt8) (w : World) (hs : s.size ≤ maxLen) (h : betw s.data.toList a c = some y) :
    Calls Tryz.prog 184 #[.string s, .string ⟨a.toArray⟩, .string ⟨c.toArray⟩] w fun e w' => e = .returned (.tuple #[.string ⟨y.toArray⟩, .bool true]) ∧ w' = w := by
  refine (between_any s ⟨a.toArray⟩ ⟨c.toArray⟩ w hs).mono ?_
  rintro e w' ⟨⟨z, rfl, _, hz⟩, rfl⟩
  simp only [List.toList_toArray] at hz ⊢
  rw [h, hz y h]
  exact ⟨rfl, trivial⟩
theorem between_no (s : ByteArray) (a c : List UInt8) (w : World) (hs : s.size ≤ maxLen) (h : betw s.data.toList a c = none) :
    Calls Tryz.prog 184 #[.string s, .string ⟨a.toArray⟩, .string ⟨c.toArray⟩] w fun e w' => (∃ z, e = .returned (.tuple #[.string z, .bool false])) ∧ w' = w := by
  refine (between_any s ⟨a.toArray⟩ ⟨c.toArray⟩ w hs).mono ?_
  rintro e w' ⟨⟨z, rfl, _, hz⟩, rfl⟩
  simp only [List.toList_toArray]
  rw [h]
  exact ⟨⟨z, rfl⟩, trivial⟩
set_option maxRecDepth 100000 in
set_option maxHeartbeats 1000000 in
theorem element_no (s : ByteArray) (w : World) (hs : s.size ≤ maxLen) (h : elemT s.data.toList = none) :
    Calls Tryz.prog 182 #[.string s] w fun e w' => (∃ z, e = .returned (.tuple #[.string z, .bool false])) ∧ w' = w := by
  unfold elemT at h
  rcases e1 : betw s.data.toList [91] [93] with _ | y1
  · rw [e1] at h
    rcases e2 : betw s.data.toList [123, 105, 110, 116, 58] [125] with _ | y2
    · rw [e2] at h
      have h1 := between_no s _ _ w hs e1
      have h2 := between_no s _ _ w hs e2
      have h3 := between_no s _ _ w hs h
      clear e1 e2 h
      go_enter Tryz.func182, Tryz.ntmps182
      go_wp2_with fail
      refine h1.mono ?_
      rintro e w' ⟨⟨z1, rfl⟩, rfl⟩
      go_wp2_with fail
      refine h2.mono ?_
      rintro e w' ⟨⟨z2, rfl⟩, rfl⟩
      go_wp2_with fail
      refine h3.mono ?_
      rintro e w' ⟨⟨z3, rfl⟩, rfl⟩
      go_wp2
      go_ret2
      exact ⟨⟨z3, rfl⟩, rfl⟩
    · rw [e2] at h; cases h
  · rw [e1] at h; cases h
set_option maxRecDepth 100000 in
set_option maxHeartbeats 1000000 in
theorem element_yes (s : ByteArray) (y : List UInt8) (w : World) (hs : s.size ≤ maxLen) (h : elemT s.data.toList = some y) :
    Calls Tryz.prog 182 #[.string s] w fun e w' => e = .returned (.tuple #[.string ⟨y.toArray⟩, .bool true]) ∧ w' = w := by
  unfold elemT at h
  rcases e1 : betw s.data.toList [91] [93] with _ | y1
  · rw [e1] at h
    rcases e2 : betw s.data.toList [123, 105, 110, 116, 58] [125] with _ | y2
    · rw [e2] at h
      have h1 := between_no s _ _ w hs e1
      have h2 := between_no s _ _ w hs e2
      have h3 := between_yes s _ _ y w hs h
      clear e1 e2 h
      go_enter Tryz.func182, Tryz.ntmps182
      go_wp2_with fail
      refine h1.mono ?_
      rintro e w' ⟨⟨z1, rfl⟩, rfl⟩
      go_wp2_with fail
      refine h2.mono ?_
      rintro e w' ⟨⟨z2, rfl⟩, rfl⟩
      go_wp2_with fail
      refine h3.mono ?_
      rintro e w' ⟨rfl, rfl⟩
      go_wp2
      go_ret2
      exact ⟨rfl, rfl⟩
    · rw [e2] at h
      simp only [Option.some.injEq] at h
      subst h
      have h1 := between_no s _ _ w hs e1
      have h2 := between_yes s _ _ y2 w hs e2
      clear e1 e2
      go_enter Tryz.func182, Tryz.ntmps182
      go_wp2_with fail
      refine h1.mono ?_
      rintro e w' ⟨⟨z1, rfl⟩, rfl⟩
      go_wp2_with fail
      refine h2.mono ?_
      rintro e w' ⟨rfl, rfl⟩
      go_wp2
      go_ret2
      exact ⟨rfl, rfl⟩
  · rw [e1] at h
    simp only [Option.some.injEq] at h
    subst h
    have h1 := between_yes s _ _ y1 w hs e1
    clear e1
    go_enter Tryz.func182, Tryz.ntmps182
    go_wp2_with fail
    refine h1.mono ?_
    rintro e w' ⟨rfl, rfl⟩
    go_wp2
    go_ret2
    exact ⟨rfl, rfl⟩
theorem elem_len {s y : List UInt8} (h : elemT s = some y) : y.length ≤ s.length := by
  unfold elemT at h
  rcases e1 : betw s [91] [93] with _ | y1
  · rw [e1] at h
    rcases e2 : betw s [123, 105, 110, 116, 58] [125] with _ | y2
    · rw [e2] at h
      rw [(betw_iff _ _ _ _).1 h]; simp; omega
    · rw [e2] at h
      simp only [Option.some.injEq] at h
      subst h
      rw [(betw_iff _ _ _ _).1 e2]; simp; omega
  · rw [e1] at h
    simp only [Option.some.injEq] at h
    subst h
    rw [(betw_iff _ _ _ _).1 e1]; simp; omega
theorem bytes_of {s : ByteArray} {l : List UInt8} (h : s.data.toList = l) : s = ⟨l.toArray⟩ := by
  cases s; simp at h; subst h; simp
set_option maxRecDepth 100000 in
set_option maxHeartbeats 2000000 in
theorem istype_any : ∀ (f d : Nat), d + f = 5 → ∀ (s : ByteArray) (w : World), s.size ≤ maxLen →
    Calls Tryz.prog 179 #[.string s, .int .i64 d] w fun e w' => e = .returned (.bool (tyF f s.data.toList)) ∧ w' = w
  | 0, d, hd, s, w, hs => by
    have hdI : (4 : Int) < (d : Int) := by omega
    go_enter Tryz.func179, Tryz.ntmps179
    go_wp2
    go_ret
    exact ⟨rfl, rfl⟩
  | f + 1, d, hd, s, w, hs => by
    have hdI : ¬ (4 : Int) < (d : Int) := by omega
    have ih := istype_any f (d + 1) (by omega)
    rw [tyF]
    by_cases c1 : s.data.toList = [105, 110, 116] ∨ s.data.toList = [98, 111, 111, 108] ∨ s.data.toList = [116, 101, 120, 116]
    · rw [if_pos c1]
      have hl : s = ⟨#[105, 110, 116]⟩ ∨ s = ⟨#[98, 111, 111, 108]⟩ ∨ s = ⟨#[116, 101, 120, 116]⟩ := by
        rcases c1 with h | h | h
        · exact Or.inl (bytes_of h)
        · exact Or.inr (Or.inl (bytes_of h))
        · exact Or.inr (Or.inr (bytes_of h))
      clear c1 ih
      rcases hl with rfl | rfl | rfl
      all_goals
        go_enter Tryz.func179, Tryz.ntmps179
        go_wp2
        go_ret
        exact ⟨rfl, rfl⟩
    rw [if_neg c1]
    have q1 : (s.toList == [105, 110, 116]) = false := by rw [ByteArray.toList_eq]; simp; exact fun h => c1 (Or.inl h)
    have q2 : (s.toList == [98, 111, 111, 108]) = false := by rw [ByteArray.toList_eq]; simp; exact fun h => c1 (Or.inr (Or.inl h))
    have q3 : (s.toList == [116, 101, 120, 116]) = false := by rw [ByteArray.toList_eq]; simp; exact fun h => c1 (Or.inr (Or.inr h))
    clear c1
    rcases he : elemT s.data.toList with _ | y
    · have hE := element_no s w hs he
      go_enter Tryz.func179, Tryz.ntmps179
      go_wp2_with fail
      refine hE.mono ?_
      rintro e w' ⟨⟨z, rfl⟩, rfl⟩
      go_wp2
      go_ret
      exact ⟨rfl, rfl⟩
    · have hE := element_yes s y w hs he
      have hdI2 : (d : Int) + 1 ≤ 9223372036854775807 := by omega
      have hl := elem_len he
      have hI := ih ⟨y.toArray⟩ w (by show y.toArray.size ≤ _; have : s.data.toList.length = s.size := by simp
                                      simp; omega)
      simp only [List.toList_toArray, Int.natCast_add, Int.cast_ofNat_Int] at hI
      go_enter Tryz.func179, Tryz.ntmps179
      go_wp2_with fail
      refine hE.mono ?_
      rintro e w' ⟨rfl, rfl⟩
      go_wp2_with fail
      refine hI.mono ?_
      rintro e w' ⟨rfl, rfl⟩
      go_wp2
      go_ret
      exact ⟨rfl, rfl⟩
set_option maxRecDepth 100000 in
set_option maxHeartbeats 1000000 in
theorem stype_any (s : ByteArray) (w : World) (hs : s.size ≤ maxLen) :
    Calls Tryz.prog 173 #[.string s] w fun e w' => e = .returned (.bool (gType s.data.toList)) ∧ w' = w := by
  have h := istype_any 4 1 rfl s w hs
  rw [← gType_tyF] at h
  go_enter Tryz.func173, Tryz.ntmps173
  go_wp2_with (go_at_call 179; refine h.mono ?_; rintro e w' ⟨rfl, rfl⟩)
  go_ret
  exact ⟨rfl, rfl⟩
end Go.Proofs.YtnijcolomoobnaaGreatDoor
namespace Go.Proofs.YtnijcolomoobnaaGreatDoor
open Go.RowKit
set_option linter.unusedSimpArgs false
set_option linter.unusedVariables false

theorem ext_list (s : ByteArray) (i j : Nat) : (s.extract i j).data.toList = (s.data.toList.take j).drop i := by
  rw [ByteArray.data_extract]
  simp [Array.toList_extract, List.extract_eq_take_drop]
  rw [List.take_drop]
  by_cases h : i ≤ j
  · rw [Nat.add_sub_of_le h]
  · rw [List.drop_eq_nil_of_le (by simp; omega), List.drop_eq_nil_of_le (by simp; omega)]
end Go.Proofs.YtnijcolomoobnaaGreatDoor
namespace Go.Proofs.YtnijcolomoobnaaGreatDoor
open Go.RowKit
set_option linter.unusedVariables false
set_option linter.unusedSimpArgs false

theorem stype_l (l : List UInt8) (hl : l.length ≤ 9223372036854775807) (w : World) : Calls Tryz.prog 173 #[.string ⟨l.toArray⟩] w fun e w' => e = .returned (.bool (gType l)) ∧ w' = w := by
  have := stype_any ⟨l.toArray⟩ w (by show l.toArray.size ≤ maxLen; unfold maxLen; simpa using hl)
  simpa only [List.toList_toArray] using this
set_option maxRecDepth 100000 in
set_option maxHeartbeats 1000000 in
theorem kindOf_any (l : List UInt8) (hl : l.length ≤ 9223372036854775807) (w : World) : Calls Tryz.prog 164 #[.string ⟨l.toArray⟩] w fun e w' => e = .returned (.int .i64 (kdOf l)) ∧ w' = w := by
  have hT := stype_l l hl w
  unfold gType at hT
  rcases h : tyOf l with _ | T
  · rw [h] at hT
    have hk : Hid (kdOf l = 0) := by show _ = _; unfold kdOf; rw [h]
    clear h
    go_enter Tryz.func164, Tryz.ntmps164
    go_wp2_with (go_at_call 173; refine hT.mono ?_; rintro e w' ⟨rfl, rfl⟩)
    go_ret
    exact ⟨ret_int hk.out.symm, rfl⟩
  · rw [h] at hT
    have hk : Hid (kdOf l = kd T) := by show _ = _; unfold kdOf; rw [h]
    obtain ⟨h1, h2⟩ := (tyOf_iff _ _).1 h
    have hlen := tyT_len T
    clear h
    subst h1
    rcases T with _ | _ | _ | t | ⟨k, t⟩
    · go_enter Tryz.func164, Tryz.ntmps164
      go_wp2_with (go_at_call 173; refine hT.mono ?_; rintro e w' ⟨rfl, rfl⟩)
      go_ret
      exact ⟨ret_int hk.out.symm, rfl⟩
    · go_enter Tryz.func164, Tryz.ntmps164
      go_wp2_with (go_at_call 173; refine hT.mono ?_; rintro e w' ⟨rfl, rfl⟩)
      go_ret
      exact ⟨ret_int hk.out.symm, rfl⟩
    · go_enter Tryz.func164, Tryz.ntmps164
      go_wp2_with (go_at_call 173; refine hT.mono ?_; rintro e w' ⟨rfl, rfl⟩)
      go_ret
      exact ⟨ret_int hk.out.symm, rfl⟩
    · have e : tyT (.list t) = 91 :: (tyT t ++ [93]) := rfl
      rw [e] at hT hlen hk ⊢
      generalize tyT t ++ [93] = r at *
      simp only [List.length_cons] at hlen hl
      go_enter Tryz.func164, Tryz.ntmps164
      go_wp2_with (go_at_call 173; refine hT.mono ?_; rintro e w' ⟨rfl, rfl⟩)
      go_ret
      exact ⟨ret_int hk.out.symm, rfl⟩
    · have e : tyT (.map k t) = 123 :: (keyT k ++ ([58] ++ tyT t ++ [125])) := by simp [tyT]
      rw [e] at hT hlen hk ⊢
      generalize keyT k ++ ([58] ++ tyT t ++ [125]) = r at *
      simp only [List.length_cons] at hlen hl
      go_enter Tryz.func164, Tryz.ntmps164
      go_wp2_with (go_at_call 173; refine hT.mono ?_; rintro e w' ⟨rfl, rfl⟩)
      go_ret
      exact ⟨ret_int hk.out.symm, rfl⟩
end Go.Proofs.YtnijcolomoobnaaGreatDoor
namespace Go.Proofs.YtnijcolomoobnaaGreatDoor
open Go.RowKit
set_option linter.unusedVariables false
set_option linter.unusedSimpArgs false

theorem ba_eq {s : ByteArray} {l : List UInt8} (h : s.data.toList = l) : s = ⟨l.toArray⟩ := by
  cases s; simp at h; subst h; simp
set_option maxRecDepth 100000 in
set_option maxHeartbeats 1000000 in
theorem inside_l (a z : UInt8) (m : List UInt8) (hm : m.length ≤ 1000) (w : World) : Calls Tryz.prog 180 #[.string ⟨(a :: (m ++ [z])).toArray⟩] w fun e w' => e = .returned (.string ⟨m.toArray⟩) ∧ w' = w := by
  have hz : (⟨(a :: (m ++ [z])).toArray⟩ : ByteArray).size = m.length + 2 := by show (a :: (m ++ [z])).toArray.size = _; simp
  have he : (⟨(a :: (m ++ [z])).toArray⟩ : ByteArray).extract 1 (m.length + 2 - 1) = ⟨m.toArray⟩ := ba_eq (by rw [ext_list]; simp)
  generalize (⟨(a :: (m ++ [z])).toArray⟩ : ByteArray) = s at *
  go_enter Tryz.func180, Tryz.ntmps180
  go_wp2
  go_ret
  exact ⟨by first | rfl | exact congrArg (fun x => Ending.returned (.string x)) he, rfl⟩
set_option maxRecDepth 100000 in
set_option maxHeartbeats 1000000 in
theorem sclone_any (s : ByteArray) (w : World) (hs : s.size ≤ 281474976710656) : Calls Tryz.prog 67 #[.string s] w fun e w' => e = .returned (.string s) ∧ Below w.heap.size w w' := by
  go_enter Tryz.func67, Tryz.ntmps67
  go_wp2_with (go_at_call 102; refine (Tryz.stringslite_Clone s _ hs).mono ?_; rintro e w1 ⟨rfl, hb⟩)
  go_ret
  exact ⟨rfl, hb⟩
theorem sclone_l (l : List UInt8) (w : World) (hs : l.length ≤ 281474976710656) : Calls Tryz.prog 67 #[.string ⟨l.toArray⟩] w fun e w' => e = .returned (.string ⟨l.toArray⟩) ∧ Below w.heap.size w w' := sclone_any _ w (by show l.toArray.size ≤ _; simpa using hs)
set_option maxRecDepth 100000 in
set_option maxHeartbeats 1000000 in
theorem list_any (l : List UInt8) (hl : l.length ≤ 9223372036854775807) (w : World) : Calls Tryz.prog 174 #[.string ⟨l.toArray⟩] w fun e w' => e = .returned (.tuple #[.string ⟨(elT l).1.toArray⟩, .bool (elT l).2]) ∧ Below w.heap.size w w' := by
  have hK := kindOf_any l hl w
  rcases h : tyOf l with _ | T
  · have hk : kdOf l = 0 := by unfold kdOf; rw [h]
    have he : elT l = ([], false) := by unfold elT; rw [h]
    rw [hk] at hK; rw [he]
    clear h hk he
    go_enter Tryz.func174, Tryz.ntmps174
    go_wp2_with (go_at_call 164; refine hK.mono ?_; rintro e w' ⟨rfl, rfl⟩)
    go_ret2
    exact ⟨rfl, Below.refl _ _⟩
  · have hk : kdOf l = kd T := by unfold kdOf; rw [h]
    obtain ⟨h1, h2⟩ := (tyOf_iff _ _).1 h
    rw [hk] at hK
    by_cases h4 : kd T = 4
    · cases T with
      | list t =>
        have he : elT l = (tyT t, true) := by unfold elT; rw [h]
        rw [he]
        clear h hk he
        subst h1
        have hlen := tyT_len t
        simp only [Ty.dp] at h2
        have hI := inside_l 91 93 (tyT t) (by omega) w
        have hC := sclone_l (tyT t) w (by omega)
        have e : tyT (.list t) = 91 :: (tyT t ++ [93]) := rfl
        rw [← e] at hI
        have e4 : kd (.list t) = 4 := rfl
        rw [e4] at hK
        clear e e4 h4 hl
        generalize tyT (.list t) = z at *
        generalize tyT t = y at *
        clear hlen
        go_enter Tryz.func174, Tryz.ntmps174
        go_wp2_with fail
        refine hK.mono ?_
        rintro e w' ⟨rfl, rfl⟩
        go_wp2_with fail
        refine hI.mono ?_
        rintro e w' ⟨rfl, rfl⟩
        go_wp2_with fail
        refine hC.mono ?_
        rintro e w' ⟨rfl, hb⟩
        go_wp2
        go_ret2
        exact ⟨rfl, hb⟩
      | _ => exact absurd h4 (by simp [kd])
    · have he : elT l = ([], false) := by
        unfold elT; rw [h]
        cases T <;> first | rfl | exact absurd rfl h4
      rw [he]
      have h4' : (kd T != 4) = true := by simp [h4]
      clear h hk he h1
      generalize kd T = z at *
      go_enter Tryz.func174, Tryz.ntmps174
      go_wp2_with (go_at_call 164; refine hK.mono ?_; rintro e w' ⟨rfl, rfl⟩)
      go_ret2
      exact ⟨rfl, Below.refl _ _⟩
theorem ib_colon : ∀ (k : Bool) (y : List UInt8), Lib.indexByte (keyT k ++ 58 :: y) 58 = (keyT k).length := by
  intro k y
  cases k <;> simp [keyT, Lib.indexByte]
set_option maxRecDepth 100000 in
set_option maxHeartbeats 1000000 in
theorem lindex_l (k : Bool) (y : List UInt8) (w : World) (hy : y.length ≤ 1000) : Calls Tryz.prog 185 #[.string ⟨(keyT k ++ 58 :: y).toArray⟩, .string ⟨#[58]⟩] w fun e w' => e = .returned (.int .i64 (keyT k).length) ∧ w' = w := by
  have hI := Tryz.stringslite_IndexByte ⟨(keyT k ++ 58 :: y).toArray⟩ 58 w
  rw [show (⟨(keyT k ++ 58 :: y).toArray⟩ : ByteArray).data.toList = keyT k ++ 58 :: y from by simp, show (58 : Int).toNat.toUInt8 = 58 from by decide, ib_colon] at hI
  have hne : ((⟨#[58]⟩ : ByteArray).toList == (⟨(keyT k ++ 58 :: y).toArray⟩ : ByteArray).toList) = false := by
    rw [ByteArray.toList_eq, ByteArray.toList_eq]; cases k <;> simp [keyT]
  have hne2 : (keyT k ++ 58 :: y == [58]) = false := by cases k <;> simp [keyT]
  have hne3 : ([58] == keyT k ++ 58 :: y) = false := by cases k <;> simp [keyT]
  generalize keyT k ++ 58 :: y = z at *
  go_enter Tryz.func185, Tryz.ntmps185
  go_wp2_with fail
  refine hI.mono ?_
  rintro e w' ⟨rfl, rfl⟩
  go_wp2
  go_ret
  exact ⟨rfl, rfl⟩
end Go.Proofs.YtnijcolomoobnaaGreatDoor
