/- Texts of ours, joined: Erd, Ky. -/
import Derived.Test.YtndahpcjkcihlaaGreatG35
import Derived.Test.YtndahpcjkcihlaaGreatG28
import Derived.Test.YtndahpcjkcihlaaGreatG32
/- The reader: the document's. -/
namespace Go.Proofs.YtndahpcjkcihlaaGreat
open Go.RowKit
set_option linter.unusedVariables false
set_option linter.unusedSimpArgs false

/-- The document's reader, and what it has left; nothing: bad. -/
def RdD (w : World) (r : Nat) (st : RSt) : Prop := ∃ sl bs, w.heap[r]? = some (.cells #[sl, .bool st.isNone] 56 (0, 0)) ∧ IsB (fun j => j < r) w sl bs ∧ ∀ b, st = some b → bs = b
theorem RdD.keep {w w' : World} {r : Nat} {st : RSt} (h : RdD w r st) (hb : Below w.heap.size w w') : RdD w' r st := by
  obtain ⟨sl, bs, h1, h2, h3⟩ := h
  exact ⟨sl, bs, (hb.block r (Array.getElem?_eq_some_iff.1 h1).1).trans h1, h2.since (Since.of_below hb), h3⟩
theorem RdD.up {w w' : World} {r : Nat} {st : RSt} (h : RdD w r st) (hk : ∀ k, k ≤ r → w'.heap[k]? = w.heap[k]?) (hs : w.heap.size ≤ w'.heap.size) : RdD w' r st := by
  obtain ⟨sl, bs, h1, h2, h3⟩ := h
  exact ⟨sl, bs, (hk r (Nat.le_refl _)).trans h1, h2.since ⟨hs, fun k hk1 _ => hk k (Nat.le_of_lt hk1)⟩, h3⟩
theorem RdD.setCell {w : World} {r g : Nat} {st : RSt} (h : RdD w r st) (hg : r < g) (o : Nat) (x : Value) : RdD (w.setCell ⟨g, o, none⟩ x) r st := h.up (fun k hk => Below.heap_setCell _ _ _ _ (by show k ≠ g; omega)) (by simp [World.setCell])
theorem RdD.set4 {w : World} {r g : Nat} {st : RSt} (h : RdD w r st) (hg : r < g) (x0 x1 x2 x3 : Value) : RdD (Go.Proofs.YtndahpcjkcihlaaGreat.set4 w g x0 x1 x2 x3) r st := (((h.setCell hg 0 x0).setCell hg 1 x1).setCell hg 2 x2).setCell hg 3 x3
theorem RdD.low {r m : Nat} {w1 w2 : World} {st : RSt} (h : RdD w1 r st) (hb : Below m w1 w2) (hm : r < m) : RdD w2 r st := h.up (fun k hk => hb.block k (by omega)) hb.size
theorem RdD.lt {w : World} {r : Nat} {st : RSt} (h : RdD w r st) : r < w.heap.size := by
  obtain ⟨sl, bs, h1, _⟩ := h
  exact (Array.getElem?_eq_some_iff.1 h1).1
/-- It is marked as bad. -/
theorem RdD.bad {w : World} {r : Nat} {st : RSt} (h : RdD w r st) : RdD (w.setCell ⟨r, 1, none⟩ (.bool true)) r none ∧ Only r w (w.setCell ⟨r, 1, none⟩ (.bool true)) := by
  obtain ⟨sl, bs, h1, h2, h3⟩ := h
  exact ⟨⟨sl, bs, set2_1 h1 _, h2.since ((only_set 1 _).since (by simp)), fun b hb => by cases hb⟩, only_set 1 _⟩
theorem RdD.cells {w : World} {r : Nat} {st : RSt} (h : RdD w r st) : ∃ ao n cap, w.cell? ⟨r, 0, none⟩ = some (.slice ao n cap) ∧ w.cell? ⟨r, 1, none⟩ = some (.bool st.isNone) ∧ w.frozen? ⟨r, 0, none⟩ = false ∧ w.frozen? ⟨r, 1, none⟩ = false ∧ r < w.heap.size ∧ n ≤ 9223372036854775807 ∧ ∀ b, st = some b → n = b.length := by
  obtain ⟨sl, bs, h1, h2, h3⟩ := h
  obtain ⟨c0, c1, f0, f1⟩ := cells_of2 h1
  obtain ⟨ao, cap, rfl, hc1, hc2⟩ := h2.slice
  exact ⟨ao, bs.length, cap, c0, c1, f0, f1, (Array.getElem?_eq_some_iff.1 h1).1, by omega, fun b hb => by rw [h3 b hb]⟩
set_option maxRecDepth 100000 in
set_option maxHeartbeats 1000000 in
theorem numD_any {w : World} {r : Nat} {st : RSt} (h : RdD w r st) (hl : lft st ≤ 1000000) :
    Calls Tryz.prog 21 #[.pointer (some ⟨r, 0, none⟩)] w fun e w' => e = .returned (.int .i64 ((rdN st).1 : Nat)) ∧ RdD w' r (rdN st).2 ∧ Only r w w' := by
  have hrl := h.lt
  have hB := h.bad
  have h' := h
  obtain ⟨sl, bs, h1, h2, h3⟩ := h
  obtain ⟨c0, c1, f0, f1⟩ := cells_of2 h1
  rcases st with _ | b
  · have hR : Hid (rdN none = (0, none)) := rfl
    simp only [Option.isNone_none] at *
    clear hB h1 h2 h3 c0 f0
    go_enter Tryz.func21, Tryz.ntmps21
    go_wp2
    go_ret
    exact ⟨rfl, h', Only.refl _ _⟩
  · obtain rfl := h3 b rfl
    simp only [Option.isNone_some] at *
    have hT := rtake_any h2 (by simpa [lft] using hl)
    obtain ⟨ao, cap, rfl, hc1, hc2⟩ := h2.slice
    by_cases h0 : (tk bs).2 = 0
    · have hfin : Hid (rdN (some bs) = (0, none)) := by show _ = _; rw [rdN, if_pos h0]
      rw [h0] at hT
      generalize (tk bs).1 = X at *
      obtain ⟨w1, hW1⟩ : ∃ w1, w.setCell ⟨r, 1, none⟩ (.bool true) = w1 := ⟨_, rfl⟩
      rw [hW1] at hB
      clear h1 h2 h3 h' hl
      go_enter Tryz.func21, Tryz.ntmps21
      go_wp2_with fail
      refine hT.mono ?_
      rintro e w2 ⟨rfl, rfl⟩
      clear hT
      go_wp2
      go_ret
      exact ⟨by rw [hfin.out]; rfl, by rw [hfin.out]; exact hB.1, hB.2⟩
    · have h0b : (((tk bs).2 : Int) == 0) = false := by simp; omega
      obtain ⟨hk, hnum, hXb⟩ := tk_back (bs := bs) (X := (tk bs).1) (k := (tk bs).2) rfl (by omega)
      have hfin : Hid (rdN (some bs) = ((tk bs).1, some (bs.drop (tk bs).2))) := by show _ = _; rw [rdN, if_neg h0]
      have hcut := bcut_low ao bs.length cap (tk bs).2 hk
      have hdr := h2.drop hk
      generalize (tk bs).1 = X at *
      generalize (tk bs).2 = k at *
      obtain ⟨w1, hW1⟩ : ∃ w1, w.setCell ⟨r, 0, none⟩ (.slice (cutB ao k cap) (bs.length - k) (cap - k)) = w1 := ⟨_, rfl⟩
      have hres : RdD w1 r (some (bs.drop k)) ∧ Only r w w1 := by
        rw [← hW1]
        exact ⟨⟨_, _, set2_0 h1 _, hdr.since ((only_set 0 _).since (by simp)), fun b hb => Option.some.inj hb⟩, only_set 0 _⟩
      clear h2 hdr hnum h0 h' h3 hB h1 hl
      go_enter Tryz.func21, Tryz.ntmps21
      go_wp2_with fail
      refine hT.mono ?_
      rintro e w2 ⟨rfl, rfl⟩
      clear hT
      go_wp2
      go_ret
      exact ⟨by rw [hfin.out]; rfl, by rw [hfin.out]; exact hres.1, hres.2⟩
set_option maxRecDepth 100000 in
set_option maxHeartbeats 1000000 in
theorem bytD_any {w : World} {r : Nat} {st : RSt} (h : RdD w r st) {n : Nat} (hn : n ≤ 9223372036854775807) (hl : lft st ≤ 1000000) :
    Calls Tryz.prog 22 #[.pointer (some ⟨r, 0, none⟩), .int .i64 n] w fun e w' => (∃ sl', e = .returned sl' ∧ IsB (From w.heap.size) w' sl' (rdB n st).1) ∧ RdD w' r (rdB n st).2 ∧ Only r w w' := by
  have hrl := h.lt
  obtain ⟨w1, hW1⟩ : ∃ w1, w.setCell ⟨r, 1, none⟩ (.bool true) = w1 := ⟨_, rfl⟩
  have hB := h.bad
  rw [hW1] at hB
  have hn0 : ¬ (n : Int) < 0 := by omega
  obtain ⟨sl, bs, h1, h2, h3⟩ := h
  obtain ⟨c0, c1, f0, f1⟩ := cells_of2 h1
  rcases st with _ | b
  · simp only [Option.isNone_none] at *
    clear h1 h2 h3
    go_enter Tryz.func22, Tryz.ntmps22
    go_wp2
    go_ret
    exact ⟨⟨_, rfl, IsB.nil⟩, hB.1, hB.2⟩
  · obtain rfl := h3 b rfl
    simp only [Option.isNone_some] at *
    obtain ⟨ao, cap, rfl, hc1, hc2⟩ := h2.slice
    by_cases hlt : bs.length < n
    · have hI : (bs.length : Int) < (n : Int) := by omega
      have hfin : Hid (rdB n (some bs) = ([], none)) := by show _ = _; simp only [rdB]; rw [if_pos (Or.inr hI)]
      clear h1 h2 h3
      go_enter Tryz.func22, Tryz.ntmps22
      go_wp2
      go_ret
      rw [hfin.out]
      exact ⟨⟨_, rfl, IsB.nil⟩, hB.1, hB.2⟩
    · have hI : ¬ (bs.length : Int) < (n : Int) := by omega
      have hfin : Hid (rdB n (some bs) = (bs.take n, some (bs.drop n))) := by show _ = _; simp only [rdB]; rw [if_neg (by omega)]; simp
      have htl : (bs.take n).length = n := by simp; omega
      have htk := h2.take (k := n) (by omega)
      obtain ⟨wa, a1, c1', w2, hWa, hr, ho, hb⟩ := fresh8 (ao := ao) (cap := cap) (bs := bs.take n) (by rw [htl]; exact htk) (by have : bs.length ≤ 1000000 := hl; omega)
      have hba : Below w.heap.size w wa := by rw [← hWa]; exact (Below.refl _ _).alloc (Nat.le_refl _) _
      rw [htl] at hr
      have hq1 := bcut_high ao bs.length cap n (by omega)
      have hq2 := bcut_low ao bs.length cap n (by omega)
      have hdr := h2.drop (k := n) (by omega)
      have h12 : w2.heap[r]? = some (.cells #[.slice ao bs.length cap, .bool false] 56 (0, 0)) := (hb.block _ hrl).trans h1
      have h1a : wa.heap[r]? = some (.cells #[.slice ao bs.length cap, .bool false] 56 (0, 0)) := (hba.block _ hrl).trans h1
      obtain ⟨d0, d1, e0, e1⟩ := cells_of2 h1a
      obtain ⟨k0, k1, m0, m1⟩ := cells_of2 h12
      have hrl2 : r < w2.heap.size := (Array.getElem?_eq_some_iff.1 h12).1
      have hrla : r < wa.heap.size := (Array.getElem?_eq_some_iff.1 h1a).1
      obtain ⟨w3, hW3⟩ : ∃ w3, w2.setCell ⟨r, 0, none⟩ (.slice (cutB ao n cap) (bs.length - n) (cap - n)) = w3 := ⟨_, rfl⟩
      have hslB : IsB (From w.heap.size) w2 (.slice a1 n c1') (bs.take n) := by
        have := owns_b ho
        rw [htl] at this; exact this
      have hres : IsB (From w.heap.size) w3 (.slice a1 n c1') (bs.take n) ∧ RdD w3 r (some (bs.drop n)) ∧ Only r w w3 := by
        rw [← hW3]
        exact ⟨hslB.since ((only_set 0 _).since (by show ¬ (w.heap.size ≤ r); omega)), ⟨_, _, set2_0 h12 _, (hdr.since (Since.of_below hb)).since ((only_set 0 _).since (by simp)), fun b hb => Option.some.inj hb⟩, (Only.of_below hb).trans (only_set 0 _)⟩
      clear h2 hdr h3 hB h1 h12 h1a hslB ho htk htl hl hlt hba hb
      go_enter Tryz.func22, Tryz.ntmps22
      go_wp2_with (at_builtin; refine Lib.wpList_append_run _ rfl _ _ 26 26 rfl _ _ rfl rfl _ _ hr ?_)
      go_ret
      rw [hfin.out]
      exact ⟨⟨_, rfl, hres.1⟩, hres.2.1, hres.2.2⟩
end Go.Proofs.YtndahpcjkcihlaaGreat
/- What is read of bytes as a module: mathematics; what grows while a reader is turned. -/
namespace Go.Proofs.YtndahpcjkcihlaaGreat
open Go.RowKit
set_option linter.unusedVariables false
set_option linter.unusedSimpArgs false

/-- So many, until it is bad. -/
def rdG {α : Type} (f : RSt → α × RSt) : Nat → RSt → List α × RSt
  | 0, st => ([], st)
  | _ + 1, none => ([], none)
  | n + 1, some b => ((f (some b)).1 :: (rdG f n (f (some b)).2).1, (rdG f n (f (some b)).2).2)
theorem rdG_none {α : Type} (f : RSt → α × RSt) (n : Nat) : rdG f n none = ([], none) := by cases n <;> rfl
/-- A constant. -/
def rdC (st : RSt) : V × RSt :=
  if (rdN st).1 = 1 then (.mk 1 (if (rdN (rdN st).2).1 = 1 then -((rdN (rdN (rdN st).2).2).1 : Int) - 1 else ((rdN (rdN (rdN st).2).2).1 : Int)) [] [], (rdN (rdN (rdN st).2).2).2)
  else if (rdN st).1 = 3 then (.mk 3 0 (rdB (rdN (rdN st).2).1 (rdN (rdN st).2).2).1 [], (rdB (rdN (rdN st).2).1 (rdN (rdN st).2).2).2)
  else (.mk (rdN st).1 (rdN (rdN st).2).1 [] [], (rdN (rdN st).2).2)
/-- An instruction. -/
def rdX (st : RSt) : In × RSt := (⟨(rdN st).1, (rdN (rdN st).2).1⟩, (rdN (rdN st).2).2)
/-- A function, behind the first four numbers. -/
def rdXs (st : RSt) : List In × RSt := rdG rdX (rdN st).1 (rdN st).2
def rdF (st : RSt) : Fu × RSt :=
  (⟨(rdN st).1, (rdN (rdN st).2).1, (rdN (rdN (rdN st).2).2).1, (rdN (rdN (rdN (rdN st).2).2).2).1, (rdXs (rdN (rdN (rdN (rdN st).2).2).2).2).1⟩, (rdXs (rdN (rdN (rdN (rdN st).2).2).2).2).2)
/-- A module, and what is left. -/
def rdM (b : List UInt8) : Md × RSt :=
  (⟨(rdG rdC (rdN (some b)).1 (rdN (rdN (some b)).2).2).1, (rdG rdF (rdN (rdN (some b)).2).1 (rdG rdC (rdN (some b)).1 (rdN (rdN (some b)).2).2).2).1⟩, (rdG rdF (rdN (rdN (some b)).2).1 (rdG rdC (rdN (some b)).1 (rdN (rdN (some b)).2).2).2).2)
open Classical in
/-- What Decode answers. -/
noncomputable def decR (b : List UInt8) (states : Int) : Md × Int :=
  if (rdM b).2 ≠ some [] then (Md.no, 11) else if ¬ Run (rdM b).1 states then (Md.no, 40) else if encM (rdM b).1 ≠ b then (Md.no, 11) else ((rdM b).1, 0)
theorem rdN_cut {st : RSt} {b' : List UInt8} (h : (rdN st).2 = some b') : ∃ b, st = some b ∧ b'.length < b.length := by
  rcases st with _ | bs
  · simp [rdN] at h
  · refine ⟨bs, rfl, ?_⟩
    simp only [rdN] at h
    split at h
    · simp at h
    · rename_i h0
      obtain ⟨hk, -, -⟩ := tk_back (bs := bs) (X := (tk bs).1) (k := (tk bs).2) rfl (by omega)
      simp only [Option.some.injEq] at h
      rw [← h, List.length_drop]
      omega
theorem rdB_cut {n : Nat} {st : RSt} {b' : List UInt8} (h : (rdB n st).2 = some b') : ∃ b, st = some b ∧ (rdB n st).1.length + b'.length ≤ b.length := by
  rcases st with _ | bs
  · simp [rdB] at h
  · refine ⟨bs, rfl, ?_⟩
    simp only [rdB] at h ⊢
    split at h
    · simp at h
    · rename_i h0
      rw [if_neg h0]
      simp only [Option.some.injEq] at h
      rw [← h]
      simp
      omega
theorem rdC_cut {st : RSt} {b' : List UInt8} (h : (rdC st).2 = some b') : ∃ b, st = some b ∧ (1 + (rdC st).1.t.length + (rdC st).1.l.length) + b'.length ≤ b.length := by
  unfold rdC at h ⊢
  split
  · rename_i h1
    rw [if_pos h1] at h
    obtain ⟨b1, e1, l1⟩ := rdN_cut h
    obtain ⟨b2, e2, l2⟩ := rdN_cut e1
    obtain ⟨b3, e3, l3⟩ := rdN_cut e2
    exact ⟨b3, e3, by simp only [V.t, V.l, List.length_nil]; omega⟩
  · rename_i h1
    rw [if_neg h1] at h
    split
    · rename_i h2
      rw [if_pos h2] at h
      obtain ⟨b1, e1, l1⟩ := rdB_cut h
      obtain ⟨b2, e2, l2⟩ := rdN_cut e1
      obtain ⟨b3, e3, l3⟩ := rdN_cut e2
      refine ⟨b3, e3, ?_⟩
      simp only [V.t, V.l, List.length_nil]
      omega
    · rename_i h2
      rw [if_neg h2] at h
      obtain ⟨b2, e2, l2⟩ := rdN_cut h
      obtain ⟨b3, e3, l3⟩ := rdN_cut e2
      exact ⟨b3, e3, by simp only [V.t, V.l, List.length_nil]; omega⟩
theorem rdX_cut {st : RSt} {b' : List UInt8} (h : (rdX st).2 = some b') : ∃ b, st = some b ∧ 1 + b'.length ≤ b.length := by
  obtain ⟨b2, e2, l2⟩ := rdN_cut h
  obtain ⟨b3, e3, l3⟩ := rdN_cut e2
  exact ⟨b3, e3, by omega⟩
theorem rdG_cut {α : Type} {f : RSt → α × RSt} {s : α → Nat} (hf : ∀ st b', (f st).2 = some b' → ∃ b, st = some b ∧ s (f st).1 + b'.length ≤ b.length) : ∀ (n : Nat) (st : RSt) (b' : List UInt8), (rdG f n st).2 = some b' → ∃ b, st = some b ∧ ((rdG f n st).1.map s).sum + b'.length ≤ b.length
  | 0, st, b', h => ⟨b', h, by simp [rdG]⟩
  | n + 1, none, b', h => by simp [rdG] at h
  | n + 1, some b, b', h => by
    obtain ⟨b1, e1, l1⟩ := rdG_cut hf n _ b' h
    obtain ⟨b2, e2, l2⟩ := hf _ b1 e1
    cases e2
    refine ⟨b, rfl, ?_⟩
    simp only [rdG, List.map_cons, List.sum_cons]
    omega
theorem sum_one {α : Type} : ∀ l : List α, (l.map fun _ => 1).sum = l.length
  | [] => rfl
  | a :: r => by rw [List.map_cons, List.sum_cons, sum_one r, List.length_cons]; omega
theorem rdXs_cut {st : RSt} {b' : List UInt8} (h : (rdXs st).2 = some b') : ∃ b, st = some b ∧ (1 + (rdXs st).1.length) + b'.length ≤ b.length := by
  obtain ⟨b1, e1, l1⟩ := rdG_cut (f := rdX) (s := fun _ => 1) (fun st b' h => rdX_cut h) _ _ _ h
  obtain ⟨b2, e2, l2⟩ := rdN_cut e1
  rw [sum_one] at l1
  refine ⟨b2, e2, ?_⟩
  unfold rdXs
  omega
theorem rdF_cut {st : RSt} {b' : List UInt8} (h : (rdF st).2 = some b') : ∃ b, st = some b ∧ (1 + (rdF st).1.code.length) + b'.length ≤ b.length := by
  obtain ⟨b1, e1, l1⟩ := rdXs_cut h
  obtain ⟨b2, e2, l2⟩ := rdN_cut e1
  obtain ⟨b3, e3, l3⟩ := rdN_cut e2
  obtain ⟨b4, e4, l4⟩ := rdN_cut e3
  obtain ⟨b5, e5, l5⟩ := rdN_cut e4
  refine ⟨b5, e5, ?_⟩
  show 1 + (rdXs _).1.length + b'.length ≤ b5.length
  omega
theorem csz_sum : ∀ l : List V, csz l = (l.map fun v => 1 + v.t.length + v.l.length).sum
  | [] => rfl
  | a :: r => by rw [csz, csz_sum r, List.map_cons, List.sum_cons]
theorem fsz_sum : ∀ l : List Fu, fsz l = (l.map fun f => 1 + f.code.length).sum
  | [] => rfl
  | a :: r => by rw [fsz, fsz_sum r, List.map_cons, List.sum_cons]
/-- What is read is no larger than the bytes. -/
theorem rdM_sz {b r : List UInt8} (h : (rdM b).2 = some r) : csz (rdM b).1.consts + fsz (rdM b).1.funcs ≤ b.length := by
  obtain ⟨b1, e1, l1⟩ := rdG_cut (f := rdF) (s := fun f => 1 + f.code.length) (fun st b' h => rdF_cut h) _ _ _ h
  obtain ⟨b2, e2, l2⟩ := rdG_cut (f := rdC) (s := fun v => 1 + v.t.length + v.l.length) (fun st b' h => rdC_cut h) _ _ _ e1
  obtain ⟨b3, e3, l3⟩ := rdN_cut e2
  obtain ⟨b4, e4, l4⟩ := rdN_cut e3
  cases e4
  rw [← csz_sum] at l2
  rw [← fsz_sum] at l1
  show csz (rdG rdC _ _).1 + fsz (rdG rdF _ _).1 ≤ b.length
  omega
/-- A loop's state: what is gathered, and what is still to be read. -/
def Gath {α : Type} (f : RSt → α × RSt) (n : Nat) (st0 : RSt) (q : Nat) (acc : List α) (st : RSt) : Prop := q ≤ n ∧ acc.length = q ∧ acc ++ (rdG f (n - q) st).1 = (rdG f n st0).1 ∧ (rdG f (n - q) st).2 = (rdG f n st0).2 ∧ lft st ≤ lft st0 ∧ ∀ b, st = some b → q + b.length ≤ lft st0
theorem Gath.start {α : Type} (f : RSt → α × RSt) (n : Nat) (st0 : RSt) : Gath f n st0 0 [] st0 := ⟨Nat.zero_le _, rfl, by simp, by simp, Nat.le_refl _, fun b h => by rw [h]; simp [lft]⟩
theorem Gath.next {α : Type} {f : RSt → α × RSt} {n : Nat} {st0 : RSt} {q : Nat} {acc : List α} {b : List UInt8} (h : Gath f n st0 q acc (some b)) (hq : q < n) {s : α → Nat} (hs : ∀ x, 1 ≤ s x) (hf : ∀ st b', (f st).2 = some b' → ∃ b, st = some b ∧ s (f st).1 + b'.length ≤ b.length) : Gath f n st0 (q + 1) (acc ++ [(f (some b)).1]) (f (some b)).2 := by
  obtain ⟨h1, h2, h3, h4, h5, h6⟩ := h
  obtain ⟨d, hd⟩ : ∃ d, n - q = d + 1 := ⟨n - q - 1, by omega⟩
  have hd' : n - (q + 1) = d := by omega
  rw [hd, rdG] at h3 h4
  have hl : lft (some b) = b.length := rfl
  refine ⟨hq, by simp [h2], ?_, ?_, ?_, fun b' hb' => ?_⟩
  · rw [hd', ← h3]; simp
  · rw [hd']; exact h4
  · rcases h7 : (f (some b)).2 with _ | b'
    · simp [lft]
    · obtain ⟨b1, e1, l1⟩ := hf _ _ h7
      cases e1
      have : lft (some b') = b'.length := rfl
      omega
  · obtain ⟨b1, e1, l1⟩ := hf _ _ hb'
    cases e1
    have := hs (f (some b)).1
    have := h6 b rfl
    omega
theorem Gath.done {α : Type} {f : RSt → α × RSt} {n : Nat} {st0 : RSt} {q : Nat} {acc : List α} {st : RSt} (h : Gath f n st0 q acc st) (he : st = none ∨ q = n) : acc = (rdG f n st0).1 ∧ st = (rdG f n st0).2 := by
  obtain ⟨h1, h2, h3, h4, -, -⟩ := h
  rcases he with rfl | rfl
  · rw [rdG_none] at h3 h4
    exact ⟨by simpa using h3, h4⟩
  · rw [Nat.sub_self] at h3 h4
    exact ⟨by simpa [rdG] using h3, h4⟩
/-- The world as far as it reached before, with what has been turned since. -/
theorem World.cutTo (w : World) (n : Nat) (hn : n ≤ w.heap.size) : ∃ wT : World, wT.heap.size = n ∧ Below n wT w ∧ ∀ k, k < n → wT.heap[k]? = w.heap[k]? := by
  refine ⟨{ w with heap := w.heap.extract 0 n }, ?_, ⟨rfl, rfl, rfl, ?_, fun k hk => ?_⟩, fun k hk => ?_⟩
  · simp; omega
  · simp; omega
  · simp [Array.getElem?_extract]; omega
  · simp [Array.getElem?_extract]; omega
theorem Gath.len {α : Type} {f : RSt → α × RSt} {n : Nat} {st0 : RSt} {q : Nat} {acc : List α} {st : RSt} (h : Gath f n st0 q acc st) : acc.length = q := h.2.1
end Go.Proofs.YtndahpcjkcihlaaGreat
