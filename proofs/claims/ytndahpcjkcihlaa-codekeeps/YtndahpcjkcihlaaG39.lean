/- Texts of ours, joined: Et, Etk, Erd, Ky, Kz. -/
import Derived.Test.YtndahpcjkcihlaaG31
import Derived.Test.YtndahpcjkcihlaaG33
import Derived.Test.YtndahpcjkcihlaaG35
import Derived.Test.YtndahpcjkcihlaaG38
import Derived.Deep.CutBlock
/- Take and the reader: the document's. -/
namespace Go.Proofs.Ytndahpcjkcihlaa
open Go.RowKit
set_option linter.unusedVariables false
set_option linter.unusedSimpArgs false

/-- The number of these digits. -/
def dg : List UInt8 → Nat
  | [] => 0
  | c :: r => c.toNat % 128 + 128 * dg r
theorem dg_lt : ∀ l : List UInt8, dg l < 128 ^ l.length
  | [] => by simp [dg]
  | c :: r => by
    have := dg_lt r
    rw [dg, List.length_cons, pow_succ128]
    omega
theorem tkL_high : ∀ (bs : List UInt8) (i x : Nat), (∀ j c, bs[j]? = some c → i + j < 9 → 128 ≤ c.toNat) → tkL i x bs = (0, 0)
  | [], i, x, h => rfl
  | c :: r, i, x, h => by
    rw [tkL]
    by_cases h9 : 9 ≤ i
    · rw [if_pos h9]
    · rw [if_neg h9, if_pos (h 0 c rfl (by omega))]
      exact tkL_high r (i + 1) _ (fun j d hj hi => h (j + 1) d (by simpa using hj) (by omega))
theorem tkL_end : ∀ (q : Nat) (bs : List UInt8) (i x : Nat) (c : UInt8), (∀ j d, bs[j]? = some d → j < q → 128 ≤ d.toNat) → bs[q]? = some c → c.toNat < 128 → i + q ≤ 8 →
    tkL i x bs = if c.toNat = 0 ∧ 0 < i + q then (0, 0) else (x + dg (bs.take (q + 1)) * 128 ^ i, i + q + 1)
  | 0, [], i, x, c, _, h, _, _ => by simp at h
  | 0, d :: r, i, x, c, hl, h, hc, hi => by
    simp only [List.getElem?_cons_zero, Option.some.injEq] at h
    subst h
    rw [tkL, if_neg (by omega), if_neg (by omega)]
    simp [dg]
  | q + 1, [], i, x, c, _, h, _, _ => by simp at h
  | q + 1, d :: r, i, x, c, hl, h, hc, hi => by
    have ih := tkL_end q r (i + 1) (x + d.toNat % 128 * 128 ^ i) c (fun j e hj hq => hl (j + 1) e (by simpa using hj) (by omega)) (by simpa using h) hc (by omega)
    rw [tkL, if_neg (by omega), if_pos (hl 0 d rfl (by omega)), ih]
    have e1 : i + 1 + q = i + (q + 1) := by omega
    rw [e1]
    congr 1
    simp only [Prod.mk.injEq, and_true]
    rw [List.take_succ_cons, dg, pow_succ128, Nat.add_mul, Nat.mul_comm 128 (dg _), Nat.mul_assoc (dg _) 128, Nat.mul_comm 128 (128 ^ i)]
    omega
theorem tk_high {bs : List UInt8} (h : ∀ j c, bs[j]? = some c → j < 9 → 128 ≤ c.toNat) : tk bs = (0, 0) := tkL_high bs 0 0 (fun j c hj hi => h j c hj (by omega))
theorem tk_end {q : Nat} {bs : List UInt8} {c : UInt8} (h1 : ∀ j d, bs[j]? = some d → j < q → 128 ≤ d.toNat) (h2 : bs[q]? = some c) (h3 : c.toNat < 128) (h4 : q ≤ 8) : tk bs = if c.toNat = 0 ∧ 0 < q then (0, 0) else (dg (bs.take (q + 1)), q + 1) := by
  have := tkL_end q bs 0 0 c h1 h2 h3 (by omega)
  unfold tk
  rw [this]
  simp
theorem dg_drop {l : List UInt8} {p : Nat} {c : UInt8} (h : l[p]? = some c) : dg (l.drop p) = dg (l.drop (p + 1)) * 128 + c.toNat % 128 := by
  obtain ⟨hi, rfl⟩ := List.getElem?_eq_some_iff.1 h
  rw [List.drop_eq_getElem_cons hi, dg]; omega
end Go.Proofs.Ytndahpcjkcihlaa
/- Take: the document's. -/
namespace Go.Proofs.Ytndahpcjkcihlaa
open Go.RowKit
set_option linter.unusedVariables false
set_option linter.unusedSimpArgs false

end Go.Proofs.Ytndahpcjkcihlaa
/- The reader: the document's. -/
namespace Go.Proofs.Ytndahpcjkcihlaa
open Go.RowKit
set_option linter.unusedVariables false
set_option linter.unusedSimpArgs false

end Go.Proofs.Ytndahpcjkcihlaa
/- What is read of bytes as a module: mathematics; what grows while a reader is turned. -/
namespace Go.Proofs.Ytndahpcjkcihlaa
open Go.RowKit
set_option linter.unusedVariables false
set_option linter.unusedSimpArgs false

/-- So many, until it is bad. -/
def rdG {α : Type} (f : RSt → α × RSt) : Nat → RSt → List α × RSt
  | 0, st => ([], st)
  | _ + 1, none => ([], none)
  | n + 1, some b => ((f (some b)).1 :: (rdG f n (f (some b)).2).1, (rdG f n (f (some b)).2).2)
theorem rdG_none {α : Type} (f : RSt → α × RSt) (n : Nat) : rdG f n none = ([], none) := by cases n <;> rfl
/-- A constant. -/
def rdC (st : RSt) : V × RSt :=
  if (rdN st).1 = 1 then (.mk 1 (if (rdN (rdN st).2).1 = 1 then -((rdN (rdN (rdN st).2).2).1 : Int) - 1 else ((rdN (rdN (rdN st).2).2).1 : Int)) [] [], (rdN (rdN (rdN st).2).2).2)
  else if (rdN st).1 = 3 then (.mk 3 0 (rdB (rdN (rdN st).2).1 (rdN (rdN st).2).2).1 [], (rdB (rdN (rdN st).2).1 (rdN (rdN st).2).2).2)
  else (.mk (rdN st).1 (rdN (rdN st).2).1 [] [], (rdN (rdN st).2).2)
/-- An instruction. -/
def rdX (st : RSt) : In × RSt := (⟨(rdN st).1, (rdN (rdN st).2).1⟩, (rdN (rdN st).2).2)
/-- A function, behind the first four numbers. -/
def rdXs (st : RSt) : List In × RSt := rdG rdX (rdN st).1 (rdN st).2
def rdF (st : RSt) : Fu × RSt :=
  (⟨(rdN st).1, (rdN (rdN st).2).1, (rdN (rdN (rdN st).2).2).1, (rdN (rdN (rdN (rdN st).2).2).2).1, (rdXs (rdN (rdN (rdN (rdN st).2).2).2).2).1⟩, (rdXs (rdN (rdN (rdN (rdN st).2).2).2).2).2)
/-- A module, and what is left. -/
def rdM (b : List UInt8) : Md × RSt :=
  (⟨(rdG rdC (rdN (some b)).1 (rdN (rdN (some b)).2).2).1, (rdG rdF (rdN (rdN (some b)).2).1 (rdG rdC (rdN (some b)).1 (rdN (rdN (some b)).2).2).2).1⟩, (rdG rdF (rdN (rdN (some b)).2).1 (rdG rdC (rdN (some b)).1 (rdN (rdN (some b)).2).2).2).2)
open Classical in
/-- What Decode answers. -/
noncomputable def decR (b : List UInt8) (states : Int) : Md × Int :=
  if (rdM b).2 ≠ some [] then (Md.no, 11) else if ¬ Run (rdM b).1 states then (Md.no, 40) else if encM (rdM b).1 ≠ b then (Md.no, 11) else ((rdM b).1, 0)
theorem rdN_cut {st : RSt} {b' : List UInt8} (h : (rdN st).2 = some b') : ∃ b, st = some b ∧ b'.length < b.length := by
  rcases st with _ | bs
  · simp [rdN] at h
  · refine ⟨bs, rfl, ?_⟩
    simp only [rdN] at h
    split at h
    · simp at h
    · rename_i h0
      obtain ⟨hk, -, -⟩ := tk_back (bs := bs) (X := (tk bs).1) (k := (tk bs).2) rfl (by omega)
      simp only [Option.some.injEq] at h
      rw [← h, List.length_drop]
      omega
theorem rdB_cut {n : Nat} {st : RSt} {b' : List UInt8} (h : (rdB n st).2 = some b') : ∃ b, st = some b ∧ (rdB n st).1.length + b'.length ≤ b.length := by
  rcases st with _ | bs
  · simp [rdB] at h
  · refine ⟨bs, rfl, ?_⟩
    simp only [rdB] at h ⊢
    split at h
    · simp at h
    · rename_i h0
      rw [if_neg h0]
      simp only [Option.some.injEq] at h
      rw [← h]
      simp
      omega
theorem rdC_cut {st : RSt} {b' : List UInt8} (h : (rdC st).2 = some b') : ∃ b, st = some b ∧ (1 + (rdC st).1.t.length + (rdC st).1.l.length) + b'.length ≤ b.length := by
  unfold rdC at h ⊢
  split
  · rename_i h1
    rw [if_pos h1] at h
    obtain ⟨b1, e1, l1⟩ := rdN_cut h
    obtain ⟨b2, e2, l2⟩ := rdN_cut e1
    obtain ⟨b3, e3, l3⟩ := rdN_cut e2
    exact ⟨b3, e3, by simp only [V.t, V.l, List.length_nil]; omega⟩
  · rename_i h1
    rw [if_neg h1] at h
    split
    · rename_i h2
      rw [if_pos h2] at h
      obtain ⟨b1, e1, l1⟩ := rdB_cut h
      obtain ⟨b2, e2, l2⟩ := rdN_cut e1
      obtain ⟨b3, e3, l3⟩ := rdN_cut e2
      refine ⟨b3, e3, ?_⟩
      simp only [V.t, V.l, List.length_nil]
      omega
    · rename_i h2
      rw [if_neg h2] at h
      obtain ⟨b2, e2, l2⟩ := rdN_cut h
      obtain ⟨b3, e3, l3⟩ := rdN_cut e2
      exact ⟨b3, e3, by simp only [V.t, V.l, List.length_nil]; omega⟩
theorem rdX_cut {st : RSt} {b' : List UInt8} (h : (rdX st).2 = some b') : ∃ b, st = some b ∧ 1 + b'.length ≤ b.length := by
  obtain ⟨b2, e2, l2⟩ := rdN_cut h
  obtain ⟨b3, e3, l3⟩ := rdN_cut e2
  exact ⟨b3, e3, by omega⟩
theorem rdG_cut {α : Type} {f : RSt → α × RSt} {s : α → Nat} (hf : ∀ st b', (f st).2 = some b' → ∃ b, st = some b ∧ s (f st).1 + b'.length ≤ b.length) : ∀ (n : Nat) (st : RSt) (b' : List UInt8), (rdG f n st).2 = some b' → ∃ b, st = some b ∧ ((rdG f n st).1.map s).sum + b'.length ≤ b.length
  | 0, st, b', h => ⟨b', h, by simp [rdG]⟩
  | n + 1, none, b', h => by simp [rdG] at h
  | n + 1, some b, b', h => by
    obtain ⟨b1, e1, l1⟩ := rdG_cut hf n _ b' h
    obtain ⟨b2, e2, l2⟩ := hf _ b1 e1
    cases e2
    refine ⟨b, rfl, ?_⟩
    simp only [rdG, List.map_cons, List.sum_cons]
    omega
theorem sum_one {α : Type} : ∀ l : List α, (l.map fun _ => 1).sum = l.length
  | [] => rfl
  | a :: r => by rw [List.map_cons, List.sum_cons, sum_one r, List.length_cons]; omega
theorem rdXs_cut {st : RSt} {b' : List UInt8} (h : (rdXs st).2 = some b') : ∃ b, st = some b ∧ (1 + (rdXs st).1.length) + b'.length ≤ b.length := by
  obtain ⟨b1, e1, l1⟩ := rdG_cut (f := rdX) (s := fun _ => 1) (fun st b' h => rdX_cut h) _ _ _ h
  obtain ⟨b2, e2, l2⟩ := rdN_cut e1
  rw [sum_one] at l1
  refine ⟨b2, e2, ?_⟩
  unfold rdXs
  omega
theorem rdF_cut {st : RSt} {b' : List UInt8} (h : (rdF st).2 = some b') : ∃ b, st = some b ∧ (1 + (rdF st).1.code.length) + b'.length ≤ b.length := by
  obtain ⟨b1, e1, l1⟩ := rdXs_cut h
  obtain ⟨b2, e2, l2⟩ := rdN_cut e1
  obtain ⟨b3, e3, l3⟩ := rdN_cut e2
  obtain ⟨b4, e4, l4⟩ := rdN_cut e3
  obtain ⟨b5, e5, l5⟩ := rdN_cut e4
  refine ⟨b5, e5, ?_⟩
  show 1 + (rdXs _).1.length + b'.length ≤ b5.length
  omega
theorem csz_sum : ∀ l : List V, csz l = (l.map fun v => 1 + v.t.length + v.l.length).sum
  | [] => rfl
  | a :: r => by rw [csz, csz_sum r, List.map_cons, List.sum_cons]
theorem fsz_sum : ∀ l : List Fu, fsz l = (l.map fun f => 1 + f.code.length).sum
  | [] => rfl
  | a :: r => by rw [fsz, fsz_sum r, List.map_cons, List.sum_cons]
/-- What is read is no larger than the bytes. -/
theorem rdM_sz {b r : List UInt8} (h : (rdM b).2 = some r) : csz (rdM b).1.consts + fsz (rdM b).1.funcs ≤ b.length := by
  obtain ⟨b1, e1, l1⟩ := rdG_cut (f := rdF) (s := fun f => 1 + f.code.length) (fun st b' h => rdF_cut h) _ _ _ h
  obtain ⟨b2, e2, l2⟩ := rdG_cut (f := rdC) (s := fun v => 1 + v.t.length + v.l.length) (fun st b' h => rdC_cut h) _ _ _ e1
  obtain ⟨b3, e3, l3⟩ := rdN_cut e2
  obtain ⟨b4, e4, l4⟩ := rdN_cut e3
  cases e4
  rw [← csz_sum] at l2
  rw [← fsz_sum] at l1
  show csz (rdG rdC _ _).1 + fsz (rdG rdF _ _).1 ≤ b.length
  omega
/-- A loop's state: what is gathered, and what is still to be read. -/
def Gath {α : Type} (f : RSt → α × RSt) (n : Nat) (st0 : RSt) (q : Nat) (acc : List α) (st : RSt) : Prop := q ≤ n ∧ acc.length = q ∧ acc ++ (rdG f (n - q) st).1 = (rdG f n st0).1 ∧ (rdG f (n - q) st).2 = (rdG f n st0).2 ∧ lft st ≤ lft st0 ∧ ∀ b, st = some b → q + b.length ≤ lft st0
theorem Gath.start {α : Type} (f : RSt → α × RSt) (n : Nat) (st0 : RSt) : Gath f n st0 0 [] st0 := ⟨Nat.zero_le _, rfl, by simp, by simp, Nat.le_refl _, fun b h => by rw [h]; simp [lft]⟩
theorem Gath.next {α : Type} {f : RSt → α × RSt} {n : Nat} {st0 : RSt} {q : Nat} {acc : List α} {b : List UInt8} (h : Gath f n st0 q acc (some b)) (hq : q < n) {s : α → Nat} (hs : ∀ x, 1 ≤ s x) (hf : ∀ st b', (f st).2 = some b' → ∃ b, st = some b ∧ s (f st).1 + b'.length ≤ b.length) : Gath f n st0 (q + 1) (acc ++ [(f (some b)).1]) (f (some b)).2 := by
  obtain ⟨h1, h2, h3, h4, h5, h6⟩ := h
  obtain ⟨d, hd⟩ : ∃ d, n - q = d + 1 := ⟨n - q - 1, by omega⟩
  have hd' : n - (q + 1) = d := by omega
  rw [hd, rdG] at h3 h4
  have hl : lft (some b) = b.length := rfl
  refine ⟨hq, by simp [h2], ?_, ?_, ?_, fun b' hb' => ?_⟩
  · rw [hd', ← h3]; simp
  · rw [hd']; exact h4
  · rcases h7 : (f (some b)).2 with _ | b'
    · simp [lft]
    · obtain ⟨b1, e1, l1⟩ := hf _ _ h7
      cases e1
      have : lft (some b') = b'.length := rfl
      omega
  · obtain ⟨b1, e1, l1⟩ := hf _ _ hb'
    cases e1
    have := hs (f (some b)).1
    have := h6 b rfl
    omega
theorem Gath.done {α : Type} {f : RSt → α × RSt} {n : Nat} {st0 : RSt} {q : Nat} {acc : List α} {st : RSt} (h : Gath f n st0 q acc st) (he : st = none ∨ q = n) : acc = (rdG f n st0).1 ∧ st = (rdG f n st0).2 := by
  obtain ⟨h1, h2, h3, h4, -, -⟩ := h
  rcases he with rfl | rfl
  · rw [rdG_none] at h3 h4
    exact ⟨by simpa using h3, h4⟩
  · rw [Nat.sub_self] at h3 h4
    exact ⟨by simpa [rdG] using h3, h4⟩
/-- The world as far as it reached before, with what has been turned since. -/
theorem World.cutTo (w : World) (n : Nat) (hn : n ≤ w.heap.size) : ∃ wT : World, wT.heap.size = n ∧ Below n wT w ∧ ∀ k, k < n → wT.heap[k]? = w.heap[k]? := by
  refine ⟨{ w with heap := w.heap.extract 0 n }, ?_, ⟨rfl, rfl, rfl, ?_, fun k hk => ?_⟩, fun k hk => ?_⟩
  · simp; omega
  · simp; omega
  · simp [Array.getElem?_extract]; omega
  · simp [Array.getElem?_extract]; omega
theorem Gath.len {α : Type} {f : RSt → α × RSt} {n : Nat} {st0 : RSt} {q : Nat} {acc : List α} {st : RSt} (h : Gath f n st0 q acc st) : acc.length = q := h.2.1
end Go.Proofs.Ytndahpcjkcihlaa
/- Decode: the document's. -/
namespace Go.Proofs.Ytndahpcjkcihlaa
open Go.RowKit
set_option linter.unusedVariables false
set_option linter.unusedSimpArgs false
attribute [local go_sem ↓] Go.wp_at_zero Go.wp_at_succ

theorem rdC_eq (st : RSt) : rdC st = if (rdN st).1 = 1 then (.mk 1 (if (rdN (rdN st).2).1 = 1 then -((rdN (rdN (rdN st).2).2).1 : Int) - 1 else ((rdN (rdN (rdN st).2).2).1 : Int)) [] [], (rdN (rdN (rdN st).2).2).2)
  else if (rdN st).1 = 3 then (.mk 3 0 (rdB (rdN (rdN st).2).1 (rdN (rdN st).2).2).1 [], (rdB (rdN (rdN st).2).1 (rdN (rdN st).2).2).2)
  else (.mk (rdN st).1 (rdN (rdN st).2).1 [] [], (rdN (rdN st).2).2) := rfl
theorem rdF_eq (st : RSt) : rdF st = (⟨(rdN st).1, (rdN (rdN st).2).1, (rdN (rdN (rdN st).2).2).1, (rdN (rdN (rdN (rdN st).2).2).2).1, (rdG rdX (rdN (rdN (rdN (rdN (rdN st).2).2).2).2).1 (rdN (rdN (rdN (rdN (rdN st).2).2).2).2).2).1⟩, (rdG rdX (rdN (rdN (rdN (rdN (rdN st).2).2).2).2).1 (rdN (rdN (rdN (rdN (rdN st).2).2).2).2).2).2) := rfl
theorem rdM_eq (b : List UInt8) : rdM b = (⟨(rdG rdC (rdN (some b)).1 (rdN (rdN (some b)).2).2).1, (rdG rdF (rdN (rdN (some b)).2).1 (rdG rdC (rdN (some b)).1 (rdN (rdN (some b)).2).2).2).1⟩, (rdG rdF (rdN (rdN (some b)).2).1 (rdG rdC (rdN (some b)).1 (rdN (rdN (some b)).2).2).2).2) := rfl
theorem wt_nil {v : V} (h : v.l = []) : wt v = 1 + v.t.length := by
  obtain ⟨k, n, t, l⟩ := v
  have hl' : l = [] := h
  subst hl'
  simp [wt, wts, V.t]
theorem mem_csz : ∀ {l : List V} {v : V}, v ∈ l → 1 + v.t.length ≤ csz l
  | [], v, h => by simp at h
  | a :: r, v, h => by
    rw [csz]
    rcases List.mem_cons.1 h with rfl | h
    · omega
    · have := mem_csz h
      omega
theorem resW {w wq : World} (hx : wq.heap[w.heap.size]? = some (.cells #[.slice none 0 0, .slice none 0 0] 25 (0, 0))) (hb : Below w.heap.size w wq) (x0 x1 : Value) : ∃ wN, (wq.setCell ⟨w.heap.size, 0, none⟩ x0).setCell ⟨w.heap.size, 1, none⟩ x1 = wN ∧ wN.heap[w.heap.size]? = some (.cells #[x0, x1] 25 (0, 0)) ∧ Below w.heap.size w wN ∧ wN.heap.size = wq.heap.size ∧ ∀ k, k ≠ w.heap.size → wN.heap[k]? = wq.heap[k]? := by
  refine ⟨_, rfl, ?_, (hb.setCell (p := ⟨w.heap.size, 0, none⟩) (Nat.le_refl _) x0).setCell (p := ⟨w.heap.size, 1, none⟩) (Nat.le_refl _) x1, by simp [World.setCell], fun k hk => ?_⟩
  · simp [World.setCell, Array.getElem?_modify, hx]
  · rw [Below.heap_setCell _ _ _ _ hk, Below.heap_setCell _ _ _ _ hk]
/-- It answers a module in new memory, and a number. -/
def OutD (w : World) (x : Md × Int) (e : Ending) (w' : World) : Prop := (∃ a c fa fc n1, e = .returned (.tuple #[.agg #[.slice a x.1.consts.length c, .slice fa x.1.funcs.length fc], .int .i64 x.2]) ∧ Gv (fun k => w.heap.size ≤ k ∧ k < n1) w' (.slice a x.1.consts.length c) x.1.consts ∧ GF n1 w' (.slice fa x.1.funcs.length fc) x.1.funcs ∧ w.heap.size ≤ n1 ∧ n1 ≤ w'.heap.size) ∧ Below w.heap.size w w'
theorem inR_neg {n : Nat} (h : n ≤ 9223372036854775807) : InR (-(n : Int) - 1) := by unfold InR; omega
theorem inR_nat {n : Nat} (h : n ≤ 9223372036854775807) : InR (n : Int) := by unfold InR; omega
theorem rdC_ok (st : RSt) : (rdC st).1.t.length ≤ maxLen ∧ InR (rdC st).1.k ∧ InR (rdC st).1.n ∧ (rdC st).1.l = [] := by
  have h1 := rdN_le st
  have h2 := rdN_le (rdN st).2
  have h3 := rdN_le (rdN (rdN st).2).2
  have h4 := rdB_len (rdN (rdN st).2).1 (rdN (rdN st).2).2
  have i1 : InR 1 := by constructor <;> decide
  have i3 : InR 3 := by constructor <;> decide
  have i0 : InR 0 := by constructor <;> decide
  rw [rdC_eq]
  split
  · refine ⟨Nat.zero_le _, i1, ?_, rfl⟩
    show InR (if _ then _ else _)
    split
    · exact inR_neg h3
    · exact inR_nat h3
  · split
    · exact ⟨by show (rdB _ _).1.length ≤ maxLen; unfold maxLen; omega, i3, i0, rfl⟩
    · exact ⟨Nat.zero_le _, by show InR ((rdN st).1 : Int); unfold InR; omega, by show InR ((rdN (rdN st).2).1 : Int); unfold InR; omega, rfl⟩
theorem rdX_ok (st : RSt) : InR (rdX st).1.op ∧ InR (rdX st).1.a := by
  have h1 := rdN_le st
  have h2 := rdN_le (rdN st).2
  exact ⟨by show InR ((rdN st).1 : Int); unfold InR; omega, by show InR ((rdN (rdN st).2).1 : Int); unfold InR; omega⟩
theorem rdG_all {α : Type} {f : RSt → α × RSt} {P : α → Prop} (h : ∀ st, P (f st).1) : ∀ (n : Nat) (st : RSt), ∀ x ∈ (rdG f n st).1, P x
  | 0, st => by simp [rdG]
  | n + 1, none => by simp [rdG]
  | n + 1, some b => by
    have ih := rdG_all h n (f (some b)).2
    intro x hx
    rw [rdG] at hx
    rcases List.mem_cons.1 hx with rfl | hx
    · exact h _
    · exact ih x hx
theorem zbox2 (w : World) (u0 u1 x0 x1 : Value) (T : TypeId) : ∃ wz w4, w.alloc (.cells #[u0, u1] T) = wz ∧ (wz.setCell ⟨w.heap.size, 0, none⟩ x0).setCell ⟨w.heap.size, 1, none⟩ x1 = w4 ∧ Below w.heap.size w w4 ∧ w4.heap.size = w.heap.size + 1 ∧ w4.heap[w.heap.size]? = some (.cells #[x0, x1] T (0, 0)) ∧ wz.heap[w.heap.size]? = some (.cells #[u0, u1] T (0, 0)) := by
  have hb : Below w.heap.size w (w.alloc (.cells #[u0, u1] T)) := (Below.refl _ _).alloc (Nat.le_refl _) _
  have hz : (w.alloc (.cells #[u0, u1] T)).heap[w.heap.size]? = some (.cells #[u0, u1] T (0, 0)) := heap_new _ _
  refine ⟨_, _, rfl, rfl, (hb.setCell (p := ⟨w.heap.size, 0, none⟩) (Nat.le_refl _) x0).setCell (p := ⟨w.heap.size, 1, none⟩) (Nat.le_refl _) x1, by simp [World.setCell], ?_, hz⟩
  generalize w.alloc (.cells #[u0, u1] T) = wz at *
  simp [World.setCell, Array.getElem?_modify, hz]
theorem set2_1' {w : World} {g : Nat} {y0 y1 : Value} {T : TypeId} (h : w.heap[g]? = some (.cells #[y0, y1] T (0, 0))) (x : Value) : (w.setCell ⟨g, 1, none⟩ x).heap[g]? = some (.cells #[y0, x] T (0, 0)) := by simp [World.setCell, Array.getElem?_modify, h]
theorem set5_1 {w : World} {g : Nat} {y0 y1 y2 y3 y4 : Value} {T : TypeId} (h : w.heap[g]? = some (.cells #[y0, y1, y2, y3, y4] T (0, 0))) (x : Value) : (w.setCell ⟨g, 1, none⟩ x).heap[g]? = some (.cells #[y0, x, y2, y3, y4] T (0, 0)) := by simp [World.setCell, Array.getElem?_modify, h]
theorem set5_2 {w : World} {g : Nat} {y0 y1 y2 y3 y4 : Value} {T : TypeId} (h : w.heap[g]? = some (.cells #[y0, y1, y2, y3, y4] T (0, 0))) (x : Value) : (w.setCell ⟨g, 2, none⟩ x).heap[g]? = some (.cells #[y0, y1, x, y3, y4] T (0, 0)) := by simp [World.setCell, Array.getElem?_modify, h]
theorem set5_3 {w : World} {g : Nat} {y0 y1 y2 y3 y4 : Value} {T : TypeId} (h : w.heap[g]? = some (.cells #[y0, y1, y2, y3, y4] T (0, 0))) (x : Value) : (w.setCell ⟨g, 3, none⟩ x).heap[g]? = some (.cells #[y0, y1, y2, x, y4] T (0, 0)) := by simp [World.setCell, Array.getElem?_modify, h]
theorem set5_4 {w : World} {g : Nat} {y0 y1 y2 y3 y4 : Value} {T : TypeId} (h : w.heap[g]? = some (.cells #[y0, y1, y2, y3, y4] T (0, 0))) (x : Value) : (w.setCell ⟨g, 4, none⟩ x).heap[g]? = some (.cells #[y0, y1, y2, y3, x] T (0, 0)) := by simp [World.setCell, Array.getElem?_modify, h]
/-- One instruction more. -/
theorem OwnI.push {w : World} {base q : Nat} {ka : Option Addr} {kc : Nat} {acc : List In} (h : OwnI w base (.slice ka q kc) acc) (hq : acc.length = q) {i : In} {g0 : Nat} (hg : w.heap[g0]? = some (.cells #[.int .i64 i.op, .int .i64 i.a] 46 (0, 0))) (hn : q + 1 ≤ 1000000) (hbase : base ≤ w.heap.size) :
    ∃ a2 c2 w', (Builtin.append_ #[42, 42] 42 #[.slice ka q kc, .slice (some ⟨g0, 0, none⟩) 1 1]).run Try.prog w = .ok (.slice a2 (q + 1) c2) w' ∧ OwnI w' base (.slice a2 (q + 1) c2) (acc ++ [i]) ∧ Below base w w' := by
  subst hq
  have hnews : ∀ b, (some ⟨g0, 0, none⟩ : Option Addr) = some b → ∀ (j : Nat) (u : Value), (inCells i)[j]? = some u → w.cell? (b.add j) = some u := by
    intro b hb' j u hj
    cases hb'
    have hc : w.cell? ⟨g0, j, none⟩ = (inCells i)[j]? := by simp [World.cell?, hg, inCells]
    by_cases hj0 : j = 0
    · subst hj0; simpa [Addr.add] using hc.trans hj
    · simpa [Addr.add, hj0] using hc.trans hj
  obtain ⟨a2, c2, w', hr, ho, hb, _⟩ := app_run Try.underlying42 instrInfo rfl (by decide) 42 (news := inCells i) (m := 1) (c := 1) h (fun e => by cases e) rfl hnews (fun u hu => inCells_one [i] u (by simpa using hu)) (by omega) (by decide) hbase
  refine ⟨a2, c2, w', hr, ?_, hb⟩
  show w'.ownsRow base _ 2 _ (acc ++ [i]).length ((acc ++ [i]).flatMap inCells)
  rw [List.flatMap_append, List.length_append]
  simpa using ho
theorem outD_no {w w' : World} {e : Int} (hb : Below w.heap.size w w') : OutD w (Md.no, e) (.returned (.tuple #[.agg #[.slice none 0 0, .slice none 0 0], .int .i64 e])) w' := ⟨⟨none, 0, none, 0, w.heap.size, rfl, Gv.nil _ _, GF.nil _ _, Nat.le_refl _, hb.size⟩, hb⟩
end Go.Proofs.Ytndahpcjkcihlaa
