/- Texts of ours, joined: Kz. -/
import Derived.Test.YtndahpcjkcihlaaGreatG36
import Derived.Deep.CutBlock
/- Decode: the document's. -/
namespace Go.Proofs.YtndahpcjkcihlaaGreat
open Go.RowKit
set_option linter.unusedVariables false
set_option linter.unusedSimpArgs false
attribute [local go_sem ↓] Go.wp_at_zero Go.wp_at_succ

theorem rdC_eq (st : RSt) : rdC st = if (rdN st).1 = 1 then (.mk 1 (if (rdN (rdN st).2).1 = 1 then -((rdN (rdN (rdN st).2).2).1 : Int) - 1 else ((rdN (rdN (rdN st).2).2).1 : Int)) [] [], (rdN (rdN (rdN st).2).2).2)
  else if (rdN st).1 = 3 then (.mk 3 0 (rdB (rdN (rdN st).2).1 (rdN (rdN st).2).2).1 [], (rdB (rdN (rdN st).2).1 (rdN (rdN st).2).2).2)
  else (.mk (rdN st).1 (rdN (rdN st).2).1 [] [], (rdN (rdN st).2).2) := rfl
theorem rdF_eq (st : RSt) : rdF st = (⟨(rdN st).1, (rdN (rdN st).2).1, (rdN (rdN (rdN st).2).2).1, (rdN (rdN (rdN (rdN st).2).2).2).1, (rdG rdX (rdN (rdN (rdN (rdN (rdN st).2).2).2).2).1 (rdN (rdN (rdN (rdN (rdN st).2).2).2).2).2).1⟩, (rdG rdX (rdN (rdN (rdN (rdN (rdN st).2).2).2).2).1 (rdN (rdN (rdN (rdN (rdN st).2).2).2).2).2).2) := rfl
theorem rdM_eq (b : List UInt8) : rdM b = (⟨(rdG rdC (rdN (some b)).1 (rdN (rdN (some b)).2).2).1, (rdG rdF (rdN (rdN (some b)).2).1 (rdG rdC (rdN (some b)).1 (rdN (rdN (some b)).2).2).2).1⟩, (rdG rdF (rdN (rdN (some b)).2).1 (rdG rdC (rdN (some b)).1 (rdN (rdN (some b)).2).2).2).2) := rfl
theorem wt_nil {v : V} (h : v.l = []) : wt v = 1 + v.t.length := by
  obtain ⟨k, n, t, l⟩ := v
  have hl' : l = [] := h
  subst hl'
  simp [wt, wts, V.t]
theorem mem_csz : ∀ {l : List V} {v : V}, v ∈ l → 1 + v.t.length ≤ csz l
  | [], v, h => by simp at h
  | a :: r, v, h => by
    rw [csz]
    rcases List.mem_cons.1 h with rfl | h
    · omega
    · have := mem_csz h
      omega
theorem resW {w wq : World} (hx : wq.heap[w.heap.size]? = some (.cells #[.slice none 0 0, .slice none 0 0] 25 (0, 0))) (hb : Below w.heap.size w wq) (x0 x1 : Value) : ∃ wN, (wq.setCell ⟨w.heap.size, 0, none⟩ x0).setCell ⟨w.heap.size, 1, none⟩ x1 = wN ∧ wN.heap[w.heap.size]? = some (.cells #[x0, x1] 25 (0, 0)) ∧ Below w.heap.size w wN ∧ wN.heap.size = wq.heap.size ∧ ∀ k, k ≠ w.heap.size → wN.heap[k]? = wq.heap[k]? := by
  refine ⟨_, rfl, ?_, (hb.setCell (p := ⟨w.heap.size, 0, none⟩) (Nat.le_refl _) x0).setCell (p := ⟨w.heap.size, 1, none⟩) (Nat.le_refl _) x1, by simp [World.setCell], fun k hk => ?_⟩
  · simp [World.setCell, Array.getElem?_modify, hx]
  · rw [Below.heap_setCell _ _ _ _ hk, Below.heap_setCell _ _ _ _ hk]
/-- It answers a module in new memory, and a number. -/
def OutD (w : World) (x : Md × Int) (e : Ending) (w' : World) : Prop := (∃ a c fa fc n1, e = .returned (.tuple #[.agg #[.slice a x.1.consts.length c, .slice fa x.1.funcs.length fc], .int .i64 x.2]) ∧ Gv (fun k => w.heap.size ≤ k ∧ k < n1) w' (.slice a x.1.consts.length c) x.1.consts ∧ GF n1 w' (.slice fa x.1.funcs.length fc) x.1.funcs ∧ w.heap.size ≤ n1 ∧ n1 ≤ w'.heap.size) ∧ Below w.heap.size w w'
/-- The constants are being read. -/
structure I1 (w w3 : World) (r M : Nat) (wr : World) (sa : Option Addr) (q sc : Nat) (acc : List V) (st : RSt) : Prop where
  bel : Below w.heap.size w wr
  siz : w3.heap.size ≤ wr.heap.size
  rd : RdD wr r st
  box : wr.heap[M]? = some (.cells #[.slice sa q sc, .slice none 0 0] 25 (0, 0))
  res : wr.heap[w.heap.size]? = some (.cells #[.slice none 0 0, .slice none 0 0] 25 (0, 0))
  row : Gv (From w3.heap.size) wr (.slice sa q sc) acc
theorem I1.turn {w w3 : World} {r M : Nat} {wr : World} {sa : Option Addr} {q sc : Nat} {acc : List V} {st : RSt} (h : I1 w w3 r M wr sa q sc acc st) (h1 : w.heap.size < r) (h2 : r < M) (h3 : M < w3.heap.size) {w' : World} {st' : RSt} (ho : Only r wr w') (hr : RdD w' r st') : I1 w w3 r M w' sa q sc acc st' :=
  ⟨h.bel.trans (ho.below h.bel.size (by omega)), Nat.le_trans h.siz ho.size, hr, (ho.block _ (by have := h.siz; omega) (by omega)).trans h.box, (ho.block _ (by have := h.siz; omega) (by omega)).trans h.res, h.row.since (ho.since (by show ¬ (w3.heap.size ≤ r); omega))⟩
theorem inR_neg {n : Nat} (h : n ≤ 9223372036854775807) : InR (-(n : Int) - 1) := by unfold InR; omega
theorem inR_nat {n : Nat} (h : n ≤ 9223372036854775807) : InR (n : Int) := by unfold InR; omega
theorem rdC_ok (st : RSt) : (rdC st).1.t.length ≤ maxLen ∧ InR (rdC st).1.k ∧ InR (rdC st).1.n ∧ (rdC st).1.l = [] := by
  have h1 := rdN_le st
  have h2 := rdN_le (rdN st).2
  have h3 := rdN_le (rdN (rdN st).2).2
  have h4 := rdB_len (rdN (rdN st).2).1 (rdN (rdN st).2).2
  have i1 : InR 1 := by constructor <;> decide
  have i3 : InR 3 := by constructor <;> decide
  have i0 : InR 0 := by constructor <;> decide
  rw [rdC_eq]
  split
  · refine ⟨Nat.zero_le _, i1, ?_, rfl⟩
    show InR (if _ then _ else _)
    split
    · exact inR_neg h3
    · exact inR_nat h3
  · split
    · exact ⟨by show (rdB _ _).1.length ≤ maxLen; unfold maxLen; omega, i3, i0, rfl⟩
    · exact ⟨Nat.zero_le _, by show InR ((rdN st).1 : Int); unfold InR; omega, by show InR ((rdN (rdN st).2).1 : Int); unfold InR; omega, rfl⟩
theorem rdX_ok (st : RSt) : InR (rdX st).1.op ∧ InR (rdX st).1.a := by
  have h1 := rdN_le st
  have h2 := rdN_le (rdN st).2
  exact ⟨by show InR ((rdN st).1 : Int); unfold InR; omega, by show InR ((rdN (rdN st).2).1 : Int); unfold InR; omega⟩
theorem rdG_all {α : Type} {f : RSt → α × RSt} {P : α → Prop} (h : ∀ st, P (f st).1) : ∀ (n : Nat) (st : RSt), ∀ x ∈ (rdG f n st).1, P x
  | 0, st => by simp [rdG]
  | n + 1, none => by simp [rdG]
  | n + 1, some b => by
    have ih := rdG_all h n (f (some b)).2
    intro x hx
    rw [rdG] at hx
    rcases List.mem_cons.1 hx with rfl | hx
    · exact h _
    · exact ih x hx
/-- The functions are being read. -/
structure I2 (w w3 wc : World) (r M : Nat) (cs : List V) (sa : Option Addr) (sc : Nat) (wr : World) (fa : Option Addr) (q fc : Nat) (acc : List Fu) (st : RSt) : Prop where
  bel : Below w.heap.size w wr
  siz : wc.heap.size ≤ wr.heap.size
  rd : RdD wr r st
  box : wr.heap[M]? = some (.cells #[.slice sa cs.length sc, .slice fa q fc] 25 (0, 0))
  res : wr.heap[w.heap.size]? = some (.cells #[.slice none 0 0, .slice none 0 0] 25 (0, 0))
  con : Gv (fun k => w3.heap.size ≤ k ∧ k < wc.heap.size) wr (.slice sa cs.length sc) cs
  row : GF wc.heap.size wr (.slice fa q fc) acc
/-- A function's code is being read. -/
structure I3 (wr wS : World) (r F : Nat) (x0 x1 x2 x3 : Int) (wx : World) (ka : Option Addr) (q kc : Nat) (acc : List In) (st : RSt) : Prop where
  only : Only r wr wx
  siz : wS.heap.size ≤ wx.heap.size
  rd : RdD wx r st
  box : wx.heap[F]? = some (.cells #[.int .i64 x0, .int .i64 x1, .int .i64 x2, .int .i64 x3, .slice ka q kc] 42 (0, 0))
  row : OwnI wx wS.heap.size (.slice ka q kc) acc
theorem I3.turn {wr wS : World} {r F : Nat} {x0 x1 x2 x3 : Int} {wx : World} {ka : Option Addr} {q kc : Nat} {acc : List In} {st : RSt} (h : I3 wr wS r F x0 x1 x2 x3 wx ka q kc acc st) (h1 : r < F) (h2 : F < wS.heap.size) {w' : World} {st' : RSt} (ho : Only r wx w') (hr : RdD w' r st') : I3 wr wS r F x0 x1 x2 x3 w' ka q kc acc st' :=
  ⟨h.only.trans ho, Nat.le_trans h.siz ho.size, hr, (ho.block _ (by have := h.siz; omega) (by omega)).trans h.box, h.row.since (fun j hj => by have := World.ownsRow.lt h.row j hj; exact ho.block j this.2 (by omega))⟩
theorem zbox2 (w : World) (u0 u1 x0 x1 : Value) (T : TypeId) : ∃ wz w4, w.alloc (.cells #[u0, u1] T) = wz ∧ (wz.setCell ⟨w.heap.size, 0, none⟩ x0).setCell ⟨w.heap.size, 1, none⟩ x1 = w4 ∧ Below w.heap.size w w4 ∧ w4.heap.size = w.heap.size + 1 ∧ w4.heap[w.heap.size]? = some (.cells #[x0, x1] T (0, 0)) ∧ wz.heap[w.heap.size]? = some (.cells #[u0, u1] T (0, 0)) := by
  have hb : Below w.heap.size w (w.alloc (.cells #[u0, u1] T)) := (Below.refl _ _).alloc (Nat.le_refl _) _
  have hz : (w.alloc (.cells #[u0, u1] T)).heap[w.heap.size]? = some (.cells #[u0, u1] T (0, 0)) := heap_new _ _
  refine ⟨_, _, rfl, rfl, (hb.setCell (p := ⟨w.heap.size, 0, none⟩) (Nat.le_refl _) x0).setCell (p := ⟨w.heap.size, 1, none⟩) (Nat.le_refl _) x1, by simp [World.setCell], ?_, hz⟩
  generalize w.alloc (.cells #[u0, u1] T) = wz at *
  simp [World.setCell, Array.getElem?_modify, hz]
theorem set2_1' {w : World} {g : Nat} {y0 y1 : Value} {T : TypeId} (h : w.heap[g]? = some (.cells #[y0, y1] T (0, 0))) (x : Value) : (w.setCell ⟨g, 1, none⟩ x).heap[g]? = some (.cells #[y0, x] T (0, 0)) := by simp [World.setCell, Array.getElem?_modify, h]
theorem set5_1 {w : World} {g : Nat} {y0 y1 y2 y3 y4 : Value} {T : TypeId} (h : w.heap[g]? = some (.cells #[y0, y1, y2, y3, y4] T (0, 0))) (x : Value) : (w.setCell ⟨g, 1, none⟩ x).heap[g]? = some (.cells #[y0, x, y2, y3, y4] T (0, 0)) := by simp [World.setCell, Array.getElem?_modify, h]
theorem set5_2 {w : World} {g : Nat} {y0 y1 y2 y3 y4 : Value} {T : TypeId} (h : w.heap[g]? = some (.cells #[y0, y1, y2, y3, y4] T (0, 0))) (x : Value) : (w.setCell ⟨g, 2, none⟩ x).heap[g]? = some (.cells #[y0, y1, x, y3, y4] T (0, 0)) := by simp [World.setCell, Array.getElem?_modify, h]
theorem set5_3 {w : World} {g : Nat} {y0 y1 y2 y3 y4 : Value} {T : TypeId} (h : w.heap[g]? = some (.cells #[y0, y1, y2, y3, y4] T (0, 0))) (x : Value) : (w.setCell ⟨g, 3, none⟩ x).heap[g]? = some (.cells #[y0, y1, y2, x, y4] T (0, 0)) := by simp [World.setCell, Array.getElem?_modify, h]
theorem set5_4 {w : World} {g : Nat} {y0 y1 y2 y3 y4 : Value} {T : TypeId} (h : w.heap[g]? = some (.cells #[y0, y1, y2, y3, y4] T (0, 0))) (x : Value) : (w.setCell ⟨g, 4, none⟩ x).heap[g]? = some (.cells #[y0, y1, y2, y3, x] T (0, 0)) := by simp [World.setCell, Array.getElem?_modify, h]
/-- One instruction more. -/
theorem OwnI.push {w : World} {base q : Nat} {ka : Option Addr} {kc : Nat} {acc : List In} (h : OwnI w base (.slice ka q kc) acc) (hq : acc.length = q) {i : In} {g0 : Nat} (hg : w.heap[g0]? = some (.cells #[.int .i64 i.op, .int .i64 i.a] 38 (0, 0))) (hn : q + 1 ≤ 1000000) (hbase : base ≤ w.heap.size) :
    ∃ a2 c2 w', (Builtin.append_ #[40, 40] 40 #[.slice ka q kc, .slice (some ⟨g0, 0, none⟩) 1 1]).run Tryz.prog w = .ok (.slice a2 (q + 1) c2) w' ∧ OwnI w' base (.slice a2 (q + 1) c2) (acc ++ [i]) ∧ Below base w w' := by
  subst hq
  have hnews : ∀ b, (some ⟨g0, 0, none⟩ : Option Addr) = some b → ∀ (j : Nat) (u : Value), (inCells i)[j]? = some u → w.cell? (b.add j) = some u := by
    intro b hb' j u hj
    cases hb'
    have hc : w.cell? ⟨g0, j, none⟩ = (inCells i)[j]? := by simp [World.cell?, hg, inCells]
    by_cases hj0 : j = 0
    · subst hj0; simpa [Addr.add] using hc.trans hj
    · simpa [Addr.add, hj0] using hc.trans hj
  obtain ⟨a2, c2, w', hr, ho, hb, _⟩ := app_run Tryz.underlying40 instrInfo rfl (by decide) 40 (news := inCells i) (m := 1) (c := 1) h (fun e => by cases e) rfl hnews (fun u hu => inCells_one [i] u (by simpa using hu)) (by omega) (by decide) hbase
  refine ⟨a2, c2, w', hr, ?_, hb⟩
  show w'.ownsRow base _ 2 _ (acc ++ [i]).length ((acc ++ [i]).flatMap inCells)
  rw [List.flatMap_append, List.length_append]
  simpa using ho
theorem outD_no {w w' : World} {e : Int} (hb : Below w.heap.size w w') : OutD w (Md.no, e) (.returned (.tuple #[.agg #[.slice none 0 0, .slice none 0 0], .int .i64 e])) w' := ⟨⟨none, 0, none, 0, w.heap.size, rfl, Gv.nil _ _, GF.nil _ _, Nat.le_refl _, hb.size⟩, hb⟩
set_option maxRecDepth 100000 in
set_option maxHeartbeats 8000000 in
theorem decode13_any {B : Nat → Prop} {w : World} {ab : Option Addr} {cb : Nat} {b : List UInt8} (hb : IsB B w (.slice ab b.length cb) b) (hl : b.length ≤ 10000) (states : Int) :
    Calls Tryz.prog 9 #[.slice ab b.length cb, .int .i64 states] w fun e w' => OutD w (decR b states) e w' := by
  obtain ⟨w0, hW0, hb0, hs0, hx0⟩ := box2 w (.slice none 0 0) (.slice none 0 0) 25
  obtain ⟨wa, a1, c1, w1, hWa, hr1, ho1, hb1⟩ := fresh8 (hb.since (Since.of_below hb0)) (by omega)
  have hsl1 := owns_b ho1
  obtain ⟨w2, hW2, hb2, hs2, hx2⟩ := box2 w1 (.slice a1 b.length c1) (.bool false) 56
  have hrd2 : RdD w2 w1.heap.size (some b) := ⟨_, b, hx2, (hsl1.base (B' := fun k => k < w1.heap.size) (fun k hk hl => hl)).since (Since.of_below hb2), fun b' h => Option.some.inj h⟩
  obtain ⟨wz, w3, hWz, hW3, hbz, hb3, hs3, hx3, hz⟩ := zmbox w2 (.slice none 0 0) (.slice none 0 0)
  obtain ⟨z0, z1, y0, y1, hlz⟩ := cells_k2 hz
  have hs1 := hb1.size
  have hr0 : w.heap.size < w1.heap.size := by omega
  have hr1' : w1.heap.size < w2.heap.size := by omega
  have hr2 : w2.heap.size < w3.heap.size := by omega
  have hB3 : Below w.heap.size w w3 := hb0.trans ((hb1.mono (by omega)).trans ((hb2.mono (by omega)).trans (hb3.mono (by omega))))
  have hI3 : I1 w w3 w1.heap.size w2.heap.size w3 none 0 0 [] (some b) := ⟨hB3, Nat.le_refl _, hrd2.keep hb3, hx3, (hb3.block _ (by omega)).trans ((hb2.block _ (by omega)).trans ((hb1.block _ (by omega)).trans hx0)), Gv.nil _ _⟩
  have hlf : lft (some b) ≤ 10000 := hl
  have hN1 := numD_any hI3.rd (by omega)
  have hle1 := rdN_le (some b)
  have hlf1 : lft (rdN (some b)).2 ≤ 10000 := Nat.le_trans (rdN_lft _) hlf
  have hdec : Hid (decR b states = decR b states) := rfl
  clear hb2 hb3 hb1 hsl1 ho1 hrd2 hz hB3 hbz hs0 hs1 hs2 hs3
  go_enter Tryz.func9, Tryz.ntmps9
  go_wp2_with (at_builtin; refine Lib.wpList_append_run _ rfl _ _ 26 26 rfl _ _ rfl rfl _ _ hr1 ?_)
  refine hN1.mono ?_
  rintro e w4 ⟨rfl, hrd4, ho4⟩
  have hI4 := hI3.turn hr0 hr1' hr2 ho4 hrd4
  have hN2 := numD_any hI4.rd (by omega)
  have hle2 := rdN_le (rdN (some b)).2
  have hlf2 : lft (rdN (rdN (some b)).2).2 ≤ 10000 := Nat.le_trans (rdN_lft _) hlf1
  clear hN1 hWa hW0 hW2 hWz hW3 z0 z1 y0 y1 hlz hr1 hI3 hrd4 ho4
  go_wp2_with fail
  refine hN2.mono ?_
  rintro e w5 ⟨rfl, hrd5, ho5⟩
  have hI5 := hI4.turn hr0 hr1' hr2 ho5 hrd5
  clear hN2 hI4 hrd5 ho5 hx0 hx2 hx3 hb0
  generalize w1.heap.size = r at *
  generalize w2.heap.size = M at *
  obtain ⟨nc, HC⟩ : ∃ nc, Hid ((rdN (some b)).1 = nc) := ⟨_, rfl⟩
  obtain ⟨nf, HF⟩ : ∃ nf, Hid ((rdN (rdN (some b)).2).1 = nf) := ⟨_, rfl⟩
  obtain ⟨st5, HS⟩ : ∃ s, Hid ((rdN (rdN (some b)).2).2 = s) := ⟨_, rfl⟩
  rw [HC.out] at hle1
  rw [HF.out] at hle2
  rw [HS.out] at hI5 hlf2
  simp only [HC.out, HF.out]
  go_upto_block 0 with fail
  go_cut [10, 11, 12] from 28 to 75 (fun s10 s11 s12 wc => ∃ sa sc, I1 w w3 r M wc sa (rdG rdC nc st5).1.length sc (rdG rdC nc st5).1 (rdG rdC nc st5).2)
  case first =>
    clear HC HF HS hlf hlf1 hb hl hle2
    go_wp2_with fail
    go_loopg [10] nc (fun g i wr => ∃ (q : Nat) (sa : Option Addr) (sc : Nat) (acc : List V) (st : RSt), q ≤ nc ∧ g = nc - q ∧ i = .int .i64 q ∧ Hid (I1 w w3 r M wr sa q sc acc st ∧ Gath rdC nc st5 q acc st))
    case atStart => exact ⟨0, none, 0, [], st5, Nat.zero_le _, rfl, rfl, hI5, Gath.start _ _ _⟩
    case round =>
      obtain ⟨q, sa, sc, acc, st, hq, rfl, rfl, HI⟩ := hrel
      obtain ⟨hI, hG⟩ := HI.out
      clear HI hI5
      have hfin : Hid (st = none ∨ q = nc → ∃ sa sc, I1 w w3 r M wr sa (rdG rdC nc st5).1.length sc (rdG rdC nc st5).1 (rdG rdC nc st5).2) := fun he => by
        obtain ⟨e1, e2⟩ := hG.done he
        rw [← e1, ← e2, hG.len]
        exact ⟨_, _, hI⟩
      obtain ⟨ba, bn, bc, j0, j1, j2, j3, j4, -, -⟩ := hI.rd.cells
      by_cases hlt : q < nc
      rotate_left
      · have hltI : ¬ (q : Int) < (nc : Int) := by omega
        have hfin' := hfin.out (Or.inr (by omega))
        clear hI hG hfin
        go_wp2_with fail
        go_meet
        exact hfin'
      have hltI : (q : Int) < (nc : Int) := by omega
      rcases st with _ | bs
      · have hfin' := hfin.out (Or.inl rfl)
        simp only [Option.isNone_none] at j1
        clear hI hG hfin
        go_wp2_with fail
        go_meet
        exact hfin'
      simp only [Option.isNone_some] at j1
      clear hfin
      have hlf : lft (some bs) ≤ 10000 := Nat.le_trans hG.2.2.2.2.1 hlf2
      have hN := numD_any hI.rd (by omega)
      have hle := rdN_le (some bs)
      have hlfA : lft (rdN (some bs)).2 ≤ 10000 := Nat.le_trans (rdN_lft _) hlf
      have hV : Hid (rdC (some bs) = _) := rdC_eq (some bs)
      obtain ⟨k, Hk⟩ : ∃ k, Hid ((rdN (some bs)).1 = k) := ⟨_, rfl⟩
      obtain ⟨st1, H1⟩ : ∃ s, Hid ((rdN (some bs)).2 = s) := ⟨_, rfl⟩
      rw [Hk.out] at hN hle hV
      rw [H1.out] at hN hlfA hV
      have hII : Hid (I1 w w3 r M wr sa q sc acc (some bs)) := hI
      have hGG : Hid (Gath rdC nc st5 q acc (some bs)) := hG
      have hszr : w3.heap.size ≤ wr.heap.size := hI.siz
      clear Hk H1 hI hG
      go_wp2_with fail
      refine hN.mono ?_
      rintro e wA ⟨rfl, hrdA, hoA⟩
      clear hN j0 j1 j2 j3 j4
      obtain ⟨wz, wB, hWz, hWB, hbB, hsB, -, hblkB, ⟨y0, y1, y2, y3⟩, ⟨z0, z1, z2, z3⟩⟩ := rdbox wA (.int .i64 k) (.int .i64 0) (.string ⟨#[]⟩) (.slice none 0 0)
      have hrdB := hrdA.keep hbB
      have hoB : Only r wr wB := hoA.trans (Only.of_below hbB)
      have hgw : wr.heap.size ≤ wA.heap.size := hoA.size
      have hgB : wA.heap.size < wB.heap.size := by omega
      obtain ⟨q0, q1, q2, q3, -⟩ := cells_of4 hblkB
      clear hsB hbB hrdA hoA
      go_upto_if 45 with fail
      clear hWz hWB y0 y1 y2 y3 z0 z1 z2 z3
      go_cut [12] from 28 to 75 (fun s12 wc => Only r wr wc ∧ RdD wc r (rdC (some bs)).2 ∧ wc.heap[wA.heap.size]? = some (.cells #[.int .i64 (rdC (some bs)).1.k, .int .i64 (rdC (some bs)).1.n, .string ⟨(rdC (some bs)).1.t.toArray⟩, .slice none 0 0] 44))
      case first =>
        clear hII hGG
        have hN := numD_any hrdB (by omega)
        have hle2 := rdN_le st1
        have hlf3 : lft (rdN st1).2 ≤ 10000 := Nat.le_trans (rdN_lft _) hlfA
        obtain ⟨p1, Hp1⟩ : ∃ k, Hid ((rdN st1).1 = k) := ⟨_, rfl⟩
        obtain ⟨st2, H2⟩ : ∃ s, Hid ((rdN st1).2 = s) := ⟨_, rfl⟩
        rw [Hp1.out] at hN hle2 hV
        rw [H2.out] at hN hlf3 hV
        clear Hp1 H2 hrdB
        by_cases hk1 : k = 1
        · have hkb : ((k : Int) == 1) = true := by simp [hk1]
          rw [if_pos hk1] at hV
          have hk1' : Hid (k = 1) := hk1
          clear hk1
          go_wp2_with fail
          refine hN.mono ?_
          rintro e wC ⟨rfl, hrdC, hoC⟩
          have hblkC := hoC.cells hgB (by omega) hblkB
          have hoC' := hoB.trans hoC
          have hgC : wA.heap.size < wC.heap.size := Nat.lt_of_lt_of_le hgB hoC.size
          clear hN q0 q1 q2 q3 hblkB hoB hoC
          have hN := numD_any hrdC (by omega)
          have hle3 := rdN_le st2
          obtain ⟨p2, Hp2⟩ : ∃ k, Hid ((rdN st2).1 = k) := ⟨_, rfl⟩
          obtain ⟨st3, H3⟩ : ∃ s, Hid ((rdN st2).2 = s) := ⟨_, rfl⟩
          rw [Hp2.out] at hN hle3 hV
          rw [H3.out] at hN hV
          clear Hp2 H3 hrdC
          go_wp2_with fail
          refine hN.mono ?_
          rintro e wD ⟨rfl, hrdD, hoD⟩
          have hblkD := hoD.cells hgC (by omega) hblkC
          have hoD' := hoC'.trans hoD
          have hgD : wA.heap.size < wD.heap.size := Nat.lt_of_lt_of_le hgC hoD.size
          obtain ⟨v0, v1, v2, v3, n0, n1, n2, n3⟩ := cells_of4 hblkD
          clear hN hblkC hoC' hoD
          obtain ⟨wE, hWE⟩ : ∃ wE, wD.setCell ⟨wA.heap.size, 1, none⟩ (.int .i64 p2) = wE := ⟨_, rfl⟩
          have hblkE : wE.heap[wA.heap.size]? = some (.cells #[.int .i64 k, .int .i64 p2, .string ⟨#[]⟩, .slice none 0 0] 44 (0, 0)) := by rw [← hWE]; exact set_1 hblkD _
          have hrdE : RdD wE r st3 := by rw [← hWE]; exact hrdD.setCell (by omega) _ _
          have hoE : Only r wr wE := by rw [← hWE]; exact hoD'.setCell (by omega) _ _
          obtain ⟨m0, m1, m2, m3, l0, l1, l2, l3⟩ := cells_of4 hblkE
          have hgE : wA.heap.size < wE.heap.size := (Array.getElem?_eq_some_iff.1 hblkE).1
          clear hblkD hrdD hoD'
          by_cases hp1 : p1 = 1
          · have hpb : ((p1 : Int) == 1) = true := by simp [hp1]
            rw [if_pos hp1] at hV
            have hp1' : Hid (p1 = 1) := hp1
            clear hp1
            have hw1 : IntKind.i64.wrap (-(p2 : Int)) = -(p2 : Int) := by rw [IntKind.wrap_i64]; omega
            have hw2 : IntKind.i64.wrap (-(p2 : Int) - 1) = -(p2 : Int) - 1 := by rw [IntKind.wrap_i64]; omega
            obtain ⟨wF, hWF⟩ : ∃ wF, wE.setCell ⟨wA.heap.size, 1, none⟩ (.int .i64 (-(p2 : Int) - 1)) = wF := ⟨_, rfl⟩
            have hres : Only r wr wF ∧ RdD wF r (rdC (some bs)).2 ∧ wF.heap[wA.heap.size]? = some (.cells #[.int .i64 (rdC (some bs)).1.k, .int .i64 (rdC (some bs)).1.n, .string ⟨(rdC (some bs)).1.t.toArray⟩, .slice none 0 0] 44) := by
              rw [hV.out]
              refine ⟨by rw [← hWF]; exact hoE.setCell (by omega) _ _, by rw [← hWF]; exact hrdE.setCell (by omega) _ _, ?_⟩
              rw [← hWF, set_1 hblkE, hk1'.out]
              rfl
            clear hV hrdE hoE hblkE
            go_wp2_with fail
            go_meet
            exact hres
          · have hpb : ((p1 : Int) == 1) = false := by simp; omega
            rw [if_neg hp1] at hV
            have hres : Only r wr wE ∧ RdD wE r (rdC (some bs)).2 ∧ wE.heap[wA.heap.size]? = some (.cells #[.int .i64 (rdC (some bs)).1.k, .int .i64 (rdC (some bs)).1.n, .string ⟨(rdC (some bs)).1.t.toArray⟩, .slice none 0 0] 44) := by
              rw [hV.out]
              refine ⟨hoE, hrdE, ?_⟩
              rw [hblkE, hk1'.out]
              rfl
            clear hV hrdE hoE hblkE hp1
            go_wp2_with fail
            go_meet
            exact hres
        have hkb : ((k : Int) == 1) = false := by simp; omega
        rw [if_neg hk1] at hV
        by_cases hk3 : k = 3
        · have hkc : ((k : Int) == 3) = true := by simp [hk3]
          rw [if_pos hk3] at hV
          have hk3' : Hid (k = 3) := hk3
          clear hk1 hk3
          go_wp2_with fail
          refine hN.mono ?_
          rintro e wC ⟨rfl, hrdC, hoC⟩
          have hblkC := hoC.cells hgB (by omega) hblkB
          have hoC' := hoB.trans hoC
          have hgC : wA.heap.size < wC.heap.size := Nat.lt_of_lt_of_le hgB hoC.size
          clear hN q0 q1 q2 q3 hblkB hoB hoC
          have hN := bytD_any hrdC (n := p1) hle2 (by omega)
          obtain ⟨t, Ht⟩ : ∃ k, Hid ((rdB (p1 : Nat) st2).1 = k) := ⟨_, rfl⟩
          obtain ⟨st3, H3⟩ : ∃ s, Hid ((rdB (p1 : Nat) st2).2 = s) := ⟨_, rfl⟩
          rw [Ht.out] at hN hV
          rw [H3.out] at hN hV
          clear Ht H3 hrdC
          go_wp2_with fail
          refine hN.mono ?_
          rintro e wD ⟨⟨sl6, rfl, hsl6⟩, hrdD, hoD⟩
          obtain ⟨a6, c6, rfl, -, -⟩ := hsl6.slice
          have hcv : (convert 26 9 (.slice a6 t.length c6)).run Tryz.prog wD = .ok (.string ⟨t.toArray⟩) wD := str_b hsl6
          have hblkD := hoD.cells hgC (by omega) hblkC
          have hoD' := hoC'.trans hoD
          have hgD : wA.heap.size < wD.heap.size := Nat.lt_of_lt_of_le hgC hoD.size
          obtain ⟨v0, v1, v2, v3, n0, n1, n2, n3⟩ := cells_of4 hblkD
          clear hN hblkC hoC' hoD hsl6
          obtain ⟨wE, hWE⟩ : ∃ wE, wD.setCell ⟨wA.heap.size, 2, none⟩ (.string ⟨t.toArray⟩) = wE := ⟨_, rfl⟩
          have hres : Only r wr wE ∧ RdD wE r (rdC (some bs)).2 ∧ wE.heap[wA.heap.size]? = some (.cells #[.int .i64 (rdC (some bs)).1.k, .int .i64 (rdC (some bs)).1.n, .string ⟨(rdC (some bs)).1.t.toArray⟩, .slice none 0 0] 44) := by
            rw [hV.out]
            refine ⟨by rw [← hWE]; exact hoD'.setCell (by omega) _ _, by rw [← hWE]; exact hrdD.setCell (by omega) _ _, ?_⟩
            rw [← hWE, set_2 hblkD, hk3'.out]
            rfl
          clear hV hrdD hoD' hblkD
          go_wp2_with fail
          go_meet
          exact hres
        · have hkc : ((k : Int) == 3) = false := by simp; omega
          rw [if_neg hk3] at hV
          clear hk1 hk3
          go_wp2_with fail
          refine hN.mono ?_
          rintro e wD ⟨rfl, hrdD, hoD⟩
          have hblkD := hoD.cells hgB (by omega) hblkB
          have hoD' := hoB.trans hoD
          have hgD : wA.heap.size < wD.heap.size := Nat.lt_of_lt_of_le hgB hoD.size
          obtain ⟨v0, v1, v2, v3, n0, n1, n2, n3⟩ := cells_of4 hblkD
          clear hN q0 q1 q2 q3 hblkB hoB hoD
          obtain ⟨wE, hWE⟩ : ∃ wE, wD.setCell ⟨wA.heap.size, 1, none⟩ (.int .i64 p1) = wE := ⟨_, rfl⟩
          have hres : Only r wr wE ∧ RdD wE r (rdC (some bs)).2 ∧ wE.heap[wA.heap.size]? = some (.cells #[.int .i64 (rdC (some bs)).1.k, .int .i64 (rdC (some bs)).1.n, .string ⟨(rdC (some bs)).1.t.toArray⟩, .slice none 0 0] 44) := by
            rw [hV.out]
            refine ⟨by rw [← hWE]; exact hoD'.setCell (by omega) _ _, by rw [← hWE]; exact hrdD.setCell (by omega) _ _, ?_⟩
            rw [← hWE, set_1 hblkD]
            rfl
          clear hV hrdD hoD' hblkD
          go_wp2_with fail
          go_meet
          exact hres
      case rest =>
        obtain ⟨hoW, hrdW, hblkW⟩ := hcut
        have hok := rdC_ok (some bs)
        have hGn := hGG.out.next hlt (s := fun v => 1 + v.t.length + v.l.length) (fun v => by omega) (fun st b' h => rdC_cut h)
        have hIw := hII.out.turn hr0 hr1' hr2 hoW hrdW
        have hlq := hGG.out.len
        have hq1 : q ≤ 10000 := by have := hGG.out.2.2.2.2.2 bs rfl; omega
        obtain ⟨x, Hx⟩ : ∃ x, Hid (rdC (some bs) = x) := ⟨_, rfl⟩
        rw [Hx.out] at hok hGn hIw hblkW
        clear Hx hoW hrdW hII hGG hV hrdB hoB hblkB q0 q1 q2 q3 hle hlfA
        obtain ⟨i1, i2, i3, i4⟩ := hok
        obtain ⟨x0, x1, fx0, fx1, hlx⟩ := cells_k2 hIw.box
        obtain ⟨v0, v1, v2, v3, -⟩ := cells_of4 hblkW
        have hlv : wA.heap.size < wc.heap.size := (Array.getElem?_eq_some_iff.1 hblkW).1
        have hszc := hIw.siz
        obtain ⟨wb, hWb⟩ : ∃ wb, wc.alloc (.cells #[.int .i64 x.1.k, .int .i64 x.1.n, .string ⟨x.1.t.toArray⟩, .slice none 0 0] 44) = wb := ⟨_, rfl⟩
        have hbb : Below wc.heap.size wc wb := by rw [← hWb]; exact (Below.refl _ _).alloc (Nat.le_refl _) _
        have hblkb : wb.heap[wc.heap.size]? = some (.cells #[.int .i64 x.1.k, .int .i64 x.1.n, .string ⟨x.1.t.toArray⟩, .slice none 0 0] 44) := by rw [← hWb]; exact heap_new _ _
        have hsbb := hbb.size
        obtain ⟨g, c7, w7, hr7, hG7, hb7, -, -⟩ := (hIw.row.below hbb).push (l2 := [x.1]) (ad := ⟨wc.heap.size, 0, none⟩) (by simp) (by simp) (World.news_of_block hblkb) (AllV.one (isV_iff.2 ⟨_, rfl, i1, i2, i3, by rw [i4]; exact IsVs.nil⟩)) (by rw [hlq]; simp; omega) (fun k hk => by show w3.heap.size ≤ k; omega) 1 22
        replace hb7 : Below w3.heap.size wb w7 := hb7 _ (by omega) (fun k hk => hk)
        rw [hlq] at hr7 hG7
        simp only [List.length_cons, List.length_nil, Nat.zero_add] at hr7 hG7
        have hx7 : w7.heap[M]? = some (.cells #[.slice sa q sc, .slice none 0 0] 25 (0, 0)) := (hb7.block _ hr2).trans ((hbb.block _ (by omega)).trans hIw.box)
        have hres7 : w7.heap[w.heap.size]? = some (.cells #[.slice none 0 0, .slice none 0 0] 25 (0, 0)) := (hb7.block _ (by omega)).trans ((hbb.block _ (by omega)).trans hIw.res)
        obtain ⟨t0, t1, ft0, ft1, hlt7⟩ := cells_k2 hx7
        obtain ⟨w8, hW8⟩ : ∃ w8, w7.setCell ⟨M, 0, none⟩ (.slice (some ⟨g, 0, none⟩) (q + 1) c7) = w8 := ⟨_, rfl⟩
        have hnew : Hid (I1 w w3 r M w8 (some ⟨g, 0, none⟩) (q + 1) c7 (acc ++ [x.1]) x.2 ∧ Gath rdC nc st5 (q + 1) (acc ++ [x.1]) x.2) := by
          refine ⟨?_, hGn⟩
          have hs7 := hb7.size
          rw [← hW8]
          refine ⟨?_, ?_, ?_, set2_0 hx7 _, ?_, ?_⟩
          · exact ((hIw.bel.trans (hbb.mono (by omega))).trans (hb7.mono (by omega))).setCell (p := ⟨M, 0, none⟩) (by show w.heap.size ≤ M; omega) _
          · have : (w7.setCell ⟨M, 0, none⟩ (.slice (some ⟨g, 0, none⟩) (q + 1) c7)).heap.size = w7.heap.size := by simp [World.setCell]
            omega
          · exact ((hIw.rd.low hbb (by omega)).low hb7 (by omega)).setCell (by omega) _ _
          · rw [Below.heap_setCell _ _ _ _ (by show w.heap.size ≠ M; omega)]; exact hres7
          · refine Gv.since hG7 ⟨by simp [World.setCell], fun k h1 _ => Below.heap_setCell _ _ _ _ ?_⟩
            show k ≠ M
            have : w3.heap.size ≤ k := h1
            omega
        clear hGn hIw hblkW hblkb hG7 hb7 hbb hx7 hres7 i1 i2 i3 i4 hsbb
        go_wp2_with (at_builtin; refine Lib.wpList_append_run _ rfl _ _ 22 22 rfl _ _ rfl rfl _ _ hr7 ?_; clear hr7)
        go_roundg (nc - (q + 1))
        case measure => omega
        case rel => exact ⟨q + 1, _, c7, _, x.2, by omega, rfl, by go_num, hnew⟩
  case rest =>
    obtain ⟨sa, sc, hI1⟩ := hcut
    obtain ⟨wL, hwL⟩ : ∃ wL, wL = wc := ⟨_, rfl⟩
    subst hwL
    have hlf7 : lft (rdG rdC nc st5).2 ≤ 10000 := by
      rcases h7 : (rdG rdC nc st5).2 with _ | b7
      · simp [lft]
      · obtain ⟨b8, e8, l8⟩ := rdG_cut (f := rdC) (s := fun v => 1 + v.t.length + v.l.length) (fun st b' h => rdC_cut h) _ _ _ h7
        rw [e8] at hlf2
        have h1 : lft (some b8) = b8.length := rfl
        have h2 : lft (some b7) = b7.length := rfl
        omega
    obtain ⟨cs, HCS⟩ : ∃ x, Hid ((rdG rdC nc st5).1 = x) := ⟨_, rfl⟩
    obtain ⟨st7, HS7⟩ : ∃ x, Hid ((rdG rdC nc st5).2 = x) := ⟨_, rfl⟩
    rw [HCS.out, HS7.out] at hI1
    rw [HS7.out] at hlf7
    have hsz7 := hI1.siz
    have hI7 : I2 w w3 wL r M cs sa sc wL none 0 0 [] st7 := ⟨hI1.bel, Nat.le_refl _, hI1.rd, hI1.box, hI1.res, hI1.row.base (fun k hk hl => ⟨hk, hl⟩), GF.nil _ _⟩
    clear hI5 hI1 hle1 hlf2
    go_upto_block 2 with fail
    go_cut [13, 14, 15, 16, 17] from 76 to 131 (fun s13 s14 s15 s16 s17 wd => ∃ fa fc, I2 w w3 wL r M cs sa sc wd fa (rdG rdF nf st7).1.length fc (rdG rdF nf st7).1 (rdG rdF nf st7).2)
    case first =>
      clear HC HF HS HCS HS7 hlf hlf1 hb hl
      go_wp2_with fail
      go_loopg [13] nf (fun g i wr => ∃ (q : Nat) (fa : Option Addr) (fc : Nat) (acc : List Fu) (st : RSt), q ≤ nf ∧ g = nf - q ∧ i = .int .i64 q ∧ Hid (I2 w w3 wL r M cs sa sc wr fa q fc acc st ∧ Gath rdF nf st7 q acc st))
      case atStart => exact ⟨0, none, 0, [], st7, Nat.zero_le _, rfl, rfl, hI7, Gath.start _ _ _⟩
      case round =>
        obtain ⟨q, fa, fc, acc, st, hq, rfl, rfl, HI⟩ := hrel
        obtain ⟨hI, hG⟩ := HI.out
        clear HI hI7
        have hfin : Hid (st = none ∨ q = nf → ∃ fa fc, I2 w w3 wL r M cs sa sc wr fa (rdG rdF nf st7).1.length fc (rdG rdF nf st7).1 (rdG rdF nf st7).2) := fun he => by
          obtain ⟨e1, e2⟩ := hG.done he
          rw [← e1, ← e2, hG.len]
          exact ⟨_, _, hI⟩
        obtain ⟨ba, bn, bc, j0, j1, j2, j3, j4, -, -⟩ := hI.rd.cells
        by_cases hlt : q < nf
        rotate_left
        · have hltI : ¬ (q : Int) < (nf : Int) := by omega
          have hfin' := hfin.out (Or.inr (by omega))
          clear hI hG hfin
          go_wp2_with fail
          go_meet
          exact hfin'
        have hltI : (q : Int) < (nf : Int) := by omega
        rcases st with _ | bs
        · have hfin' := hfin.out (Or.inl rfl)
          simp only [Option.isNone_none] at j1
          clear hI hG hfin
          go_wp2_with fail
          go_meet
          exact hfin'
        simp only [Option.isNone_some] at j1
        clear hfin
        obtain ⟨wo, hwo⟩ : ∃ wo, wo = wr := ⟨_, rfl⟩
        subst hwo
        have hlf : lft (some bs) ≤ 10000 := Nat.le_trans hG.2.2.2.2.1 hlf7
        have hN := numD_any hI.rd (by omega)
        have hlA := rdN_le (some bs)
        have hlfA : lft (rdN (some bs)).2 ≤ 10000 := Nat.le_trans (rdN_lft _) hlf
        have hV : Hid (rdF (some bs) = _) := rdF_eq (some bs)
        obtain ⟨x0, Hk⟩ : ∃ k, Hid ((rdN (some bs)).1 = k) := ⟨_, rfl⟩
        obtain ⟨s1, H1⟩ : ∃ s, Hid ((rdN (some bs)).2 = s) := ⟨_, rfl⟩
        rw [Hk.out] at hN hlA hV
        rw [H1.out] at hN hlfA hV
        have hII : Hid (I2 w w3 wL r M cs sa sc wo fa q fc acc (some bs)) := hI
        have hGG : Hid (Gath rdF nf st7 q acc (some bs)) := hG
        have hszr : wL.heap.size ≤ wo.heap.size := hI.siz
        clear Hk H1 hI hG
        go_wp2_with fail
        refine hN.mono ?_
        rintro e wA ⟨rfl, hrdA, hoA⟩
        clear hN j0 j1 j2 j3 j4
        obtain ⟨wz, wB, hWz, hWB, -, hbB, hsB, hblkB, hz⟩ := fbox wA (.int .i64 x0) (.int .i64 0) (.int .i64 0) (.int .i64 0) (.slice none 0 0)
        obtain ⟨z0, z1, z2, z3, z4, y0, y1, y2, y3, y4, hlz⟩ := cells_k5 hz
        have hrdB := hrdA.keep hbB
        have hoB : Only r wo wB := hoA.trans (Only.of_below hbB)
        have hgw : wo.heap.size ≤ wA.heap.size := hoA.size
        have hgB : wA.heap.size < wB.heap.size := by omega
        have hN := numD_any hrdB (by omega)
        have hlB := rdN_le s1
        have hlfB : lft (rdN s1).2 ≤ 10000 := Nat.le_trans (rdN_lft _) hlfA
        obtain ⟨x1, Hk⟩ : ∃ k, Hid ((rdN s1).1 = k) := ⟨_, rfl⟩
        obtain ⟨s2, H1⟩ : ∃ s, Hid ((rdN s1).2 = s) := ⟨_, rfl⟩
        rw [Hk.out] at hN hlB hV
        rw [H1.out] at hN hlfB hV
        clear hsB hbB hrdA hoA hz Hk H1 hrdB
        go_wp2_with fail
        refine hN.mono ?_
        rintro e wC ⟨rfl, hrdC, hoC⟩
        clear hN z0 z1 z2 z3 z4 y0 y1 y2 y3 y4 hlz hWz hWB
        have hblkC := hoC.cells hgB (by omega) hblkB
        have hoC' := hoB.trans hoC
        have hgC : wA.heap.size < wC.heap.size := Nat.lt_of_lt_of_le hgB hoC.size
        obtain ⟨v0, v1, v2, v3, v4, n0, n1, n2, n3, n4, -⟩ := cells_k5 hblkC
        obtain ⟨wD, hWD⟩ : ∃ w', wC.setCell ⟨wA.heap.size, 1, none⟩ (.int .i64 x1) = w' := ⟨_, rfl⟩
        have hblkD : wD.heap[wA.heap.size]? = some (.cells #[.int .i64 x0, .int .i64 x1, .int .i64 0, .int .i64 0, .slice none 0 0] 42 (0, 0)) := by rw [← hWD]; exact set5_1 hblkC _
        have hrdD : RdD wD r s2 := by rw [← hWD]; exact hrdC.setCell (by omega) _ _
        have hoD : Only r wo wD := by rw [← hWD]; exact hoC'.setCell (by omega) _ _
        have hgD : wA.heap.size < wD.heap.size := (Array.getElem?_eq_some_iff.1 hblkD).1
        clear hblkC hrdC hoC hoC' hblkB hoB
        have hN := numD_any hrdD (by omega)
        have hlD := rdN_le s2
        have hlfD : lft (rdN s2).2 ≤ 10000 := Nat.le_trans (rdN_lft _) (by assumption)
        obtain ⟨x2, Hk⟩ : ∃ k, Hid ((rdN s2).1 = k) := ⟨_, rfl⟩
        obtain ⟨s3, H1⟩ : ∃ s, Hid ((rdN s2).2 = s) := ⟨_, rfl⟩
        rw [Hk.out] at hN hlD hV
        rw [H1.out] at hN hlfD hV
        clear Hk H1 hrdD
        go_wp2_with fail
        refine hN.mono ?_
        rintro e wE ⟨rfl, hrdE, hoE⟩
        clear hN v0 v1 v2 v3 v4 n0 n1 n2 n3 n4 hWD
        have hblkE := hoE.cells hgD (by omega) hblkD
        have hoE' := hoD.trans hoE
        have hgE : wA.heap.size < wE.heap.size := Nat.lt_of_lt_of_le hgD hoE.size
        obtain ⟨v0, v1, v2, v3, v4, n0, n1, n2, n3, n4, -⟩ := cells_k5 hblkE
        obtain ⟨wG, hWG⟩ : ∃ w', wE.setCell ⟨wA.heap.size, 2, none⟩ (.int .i64 x2) = w' := ⟨_, rfl⟩
        have hblkG : wG.heap[wA.heap.size]? = some (.cells #[.int .i64 x0, .int .i64 x1, .int .i64 x2, .int .i64 0, .slice none 0 0] 42 (0, 0)) := by rw [← hWG]; exact set5_2 hblkE _
        have hrdG : RdD wG r s3 := by rw [← hWG]; exact hrdE.setCell (by omega) _ _
        have hoG : Only r wo wG := by rw [← hWG]; exact hoE'.setCell (by omega) _ _
        have hgG : wA.heap.size < wG.heap.size := (Array.getElem?_eq_some_iff.1 hblkG).1
        clear hblkE hrdE hoE hoE' hblkD hoD
        have hN := numD_any hrdG (by omega)
        have hlG := rdN_le s3
        have hlfG : lft (rdN s3).2 ≤ 10000 := Nat.le_trans (rdN_lft _) (by assumption)
        obtain ⟨x3, Hk⟩ : ∃ k, Hid ((rdN s3).1 = k) := ⟨_, rfl⟩
        obtain ⟨s4, H1⟩ : ∃ s, Hid ((rdN s3).2 = s) := ⟨_, rfl⟩
        rw [Hk.out] at hN hlG hV
        rw [H1.out] at hN hlfG hV
        clear Hk H1 hrdG
        go_wp2_with fail
        refine hN.mono ?_
        rintro e wH ⟨rfl, hrdH, hoH⟩
        clear hN v0 v1 v2 v3 v4 n0 n1 n2 n3 n4 hWG
        have hblkH := hoH.cells hgG (by omega) hblkG
        have hoH' := hoG.trans hoH
        have hgH : wA.heap.size < wH.heap.size := Nat.lt_of_lt_of_le hgG hoH.size
        obtain ⟨v0, v1, v2, v3, v4, n0, n1, n2, n3, n4, -⟩ := cells_k5 hblkH
        obtain ⟨wJ, hWJ⟩ : ∃ w', wH.setCell ⟨wA.heap.size, 3, none⟩ (.int .i64 x3) = w' := ⟨_, rfl⟩
        have hblkJ : wJ.heap[wA.heap.size]? = some (.cells #[.int .i64 x0, .int .i64 x1, .int .i64 x2, .int .i64 x3, .slice none 0 0] 42 (0, 0)) := by rw [← hWJ]; exact set5_3 hblkH _
        have hrdJ : RdD wJ r s4 := by rw [← hWJ]; exact hrdH.setCell (by omega) _ _
        have hoJ : Only r wo wJ := by rw [← hWJ]; exact hoH'.setCell (by omega) _ _
        have hgJ : wA.heap.size < wJ.heap.size := (Array.getElem?_eq_some_iff.1 hblkJ).1
        clear hblkH hrdH hoH hoH' hblkG hoG
        have hN := numD_any hrdJ (by omega)
        have hlJ := rdN_le s4
        have hlfJ : lft (rdN s4).2 ≤ 10000 := Nat.le_trans (rdN_lft _) (by assumption)
        obtain ⟨nk, Hk⟩ : ∃ k, Hid ((rdN s4).1 = k) := ⟨_, rfl⟩
        obtain ⟨s5, H1⟩ : ∃ s, Hid ((rdN s4).2 = s) := ⟨_, rfl⟩
        rw [Hk.out] at hN hlJ hV
        rw [H1.out] at hN hlfJ hV
        clear Hk H1 hrdJ
        go_wp2_with fail
        refine hN.mono ?_
        rintro e wS ⟨rfl, hrdS, hoS⟩
        clear hN v0 v1 v2 v3 v4 n0 n1 n2 n3 n4 hWJ
        have hblkS := hoS.cells hgJ (by omega) hblkJ
        have hoS' : Only r wo wS := hoJ.trans hoS
        have hgS : wA.heap.size < wS.heap.size := Nat.lt_of_lt_of_le hgJ hoS.size
        have hI3 : I3 wo wS r wA.heap.size x0 x1 x2 x3 wS none 0 0 [] s5 := ⟨hoS', Nat.le_refl _, hrdS, hblkS, ⟨rfl, Or.inl ⟨rfl, rfl⟩⟩⟩
        clear hblkJ hoJ hoS hrdS hblkS hoS'
        go_upto_block 4 with fail
        go_cut [16, 17] from 102 to 125 (fun s16 s17 we => ∃ ka kc, I3 wo wS r wA.heap.size x0 x1 x2 x3 we ka (rdG rdX nk s5).1.length kc (rdG rdX nk s5).1 (rdG rdX nk s5).2)
        case first =>
          clear hII hGG hV
          go_wp2_with fail
          go_loopg [16] nk (fun g i wx => ∃ (p : Nat) (ka : Option Addr) (kc : Nat) (ac3 : List In) (st : RSt), p ≤ nk ∧ g = nk - p ∧ i = .int .i64 p ∧ Hid (I3 wo wS r wA.heap.size x0 x1 x2 x3 wx ka p kc ac3 st ∧ Gath rdX nk s5 p ac3 st))
          case atStart => exact ⟨0, none, 0, [], s5, Nat.zero_le _, rfl, rfl, hI3, Gath.start _ _ _⟩
          case round =>
            obtain ⟨p, ka, kc, ac3, st, hp, rfl, rfl, HI⟩ := hrel
            obtain ⟨hI, hG⟩ := HI.out
            clear HI hI3
            have hfin : Hid (st = none ∨ p = nk → ∃ ka kc, I3 wo wS r wA.heap.size x0 x1 x2 x3 wr ka (rdG rdX nk s5).1.length kc (rdG rdX nk s5).1 (rdG rdX nk s5).2) := fun he => by
              obtain ⟨e1, e2⟩ := hG.done he
              rw [← e1, ← e2, hG.len]
              exact ⟨_, _, hI⟩
            obtain ⟨ba, bn, bc, j0, j1, j2, j3, j4, -, -⟩ := hI.rd.cells
            by_cases hpt : p < nk
            rotate_left
            · have hptI : ¬ (p : Int) < (nk : Int) := by omega
              have hfin' := hfin.out (Or.inr (by omega))
              clear hI hG hfin
              go_wp2_with fail
              go_meet
              exact hfin'
            have hptI : (p : Int) < (nk : Int) := by omega
            rcases st with _ | bx
            · have hfin' := hfin.out (Or.inl rfl)
              simp only [Option.isNone_none] at j1
              clear hI hG hfin
              go_wp2_with fail
              go_meet
              exact hfin'
            simp only [Option.isNone_some] at j1
            clear hfin
            have hlfx : lft (some bx) ≤ 10000 := Nat.le_trans hG.2.2.2.2.1 (by assumption)
            have hN := numD_any hI.rd (by omega)
            have hlX := rdN_le (some bx)
            have hlfX : lft (rdN (some bx)).2 ≤ 10000 := Nat.le_trans (rdN_lft _) hlfx
            have hGn := hG.next hpt (s := fun _ => 1) (fun v => Nat.le_refl _) (fun st b' h => rdX_cut h)
            have hlp := hG.len
            have hp1 : p ≤ 10000 := by have := hG.2.2.2.2.2 bx rfl; have h9 : lft s5 ≤ 10000 := (by assumption); omega
            have hV : Hid (rdX (some bx) = (⟨(rdN (some bx)).1, (rdN (rdN (some bx)).2).1⟩, (rdN (rdN (some bx)).2).2)) := rfl
            obtain ⟨op, Hk⟩ : ∃ k, Hid ((rdN (some bx)).1 = k) := ⟨_, rfl⟩
            obtain ⟨t1, H1⟩ : ∃ s, Hid ((rdN (some bx)).2 = s) := ⟨_, rfl⟩
            rw [Hk.out] at hN hlX hV
            rw [H1.out] at hN hlfX hV
            have hII : Hid (I3 wo wS r wA.heap.size x0 x1 x2 x3 wr ka p kc ac3 (some bx)) := hI
            have hszx : wS.heap.size ≤ wr.heap.size := hI.siz
            have hGnn : Hid (Gath rdX nk s5 (p + 1) (ac3 ++ [(rdX (some bx)).1]) (rdX (some bx)).2) := hGn
            clear Hk H1 hI hG hGn
            go_wp2_with fail
            refine hN.mono ?_
            rintro e wU ⟨rfl, hrdU, hoU⟩
            clear hN j0 j1 j2 j3 j4
            obtain ⟨wz, wV, hWz, hWV, hbV, hsV, hblkV, hz⟩ := zbox2 wU (.int .i64 0) (.int .i64 0) (.int .i64 op) (.int .i64 0) 38
            obtain ⟨z0, z1, y0, y1, hlz⟩ := cells_k2 hz
            have hrdV := hrdU.keep hbV
            have hoV : Only r wr wV := hoU.trans (Only.of_below hbV)
            have hgU : wr.heap.size ≤ wU.heap.size := hoU.size
            have hgV : wU.heap.size < wV.heap.size := by omega
            have hN := numD_any hrdV (by omega)
            have hlY := rdN_le t1
            obtain ⟨ar, Hk⟩ : ∃ k, Hid ((rdN t1).1 = k) := ⟨_, rfl⟩
            obtain ⟨t2, H1⟩ : ∃ s, Hid ((rdN t1).2 = s) := ⟨_, rfl⟩
            rw [Hk.out] at hN hlY hV
            rw [H1.out] at hN hV
            clear hsV hbV hrdU hoU hz Hk H1 hrdV
            go_wp2_with fail
            refine hN.mono ?_
            rintro e wW ⟨rfl, hrdW, hoW⟩
            clear hN z0 z1 y0 y1 hlz hWz hWV
            have hblkW := hoW.cells hgV (by omega) hblkV
            have hoW' := hoV.trans hoW
            have hgW : wU.heap.size < wW.heap.size := Nat.lt_of_lt_of_le hgV hoW.size
            obtain ⟨v0, v1, n0, n1, -⟩ := cells_k2 hblkW
            obtain ⟨wX, hWX⟩ : ∃ w', wW.setCell ⟨wU.heap.size, 1, none⟩ (.int .i64 ar) = w' := ⟨_, rfl⟩
            have hblkX : wX.heap[wU.heap.size]? = some (.cells #[.int .i64 op, .int .i64 ar] 38 (0, 0)) := by rw [← hWX]; exact set2_1' hblkW _
            have hrdX : RdD wX r t2 := by rw [← hWX]; exact hrdW.setCell (by omega) _ _
            have hoX : Only r wr wX := by rw [← hWX]; exact hoW'.setCell (by omega) _ _
            have hgX : wU.heap.size < wX.heap.size := (Array.getElem?_eq_some_iff.1 hblkX).1
            obtain ⟨u0, u1, -, -, -⟩ := cells_k2 hblkX
            have hIX := hII.out.turn (by omega) hgS hoX hrdX
            obtain ⟨k0, k1, k2, k3, k4, -, -, -, -, -, hlk⟩ := cells_k5 hIX.box
            have hszX := hIX.siz
            obtain ⟨wY, hWY⟩ : ∃ w', wX.alloc (.cells #[.int .i64 op, .int .i64 ar] 38) = w' := ⟨_, rfl⟩
            have hbY : Below wX.heap.size wX wY := by rw [← hWY]; exact (Below.refl _ _).alloc (Nat.le_refl _) _
            have hblkY : wY.heap[wX.heap.size]? = some (.cells #[.int .i64 op, .int .i64 ar] 38 (0, 0)) := by rw [← hWY]; exact heap_new _ _
            have hsY := hbY.size
            obtain ⟨a7, c7, w7, hr7, hO7, hb7⟩ := OwnI.push (w := wY) (i := ⟨op, ar⟩) (hIX.row.since (fun j hj => hbY.block j (World.ownsRow.lt hIX.row j hj).2)) hlp hblkY (by omega) (by omega)
            have hx7 := (hb7.block _ hgS).trans ((hbY.block _ (by omega)).trans hIX.box)
            obtain ⟨m0, m1, m2, m3, m4, fm0, fm1, fm2, fm3, fm4, hlm⟩ := cells_k5 hx7
            obtain ⟨w8, hW8⟩ : ∃ w8, w7.setCell ⟨wA.heap.size, 4, none⟩ (.slice a7 (p + 1) c7) = w8 := ⟨_, rfl⟩
            have hnew : Hid (I3 wo wS r wA.heap.size x0 x1 x2 x3 w8 a7 (p + 1) c7 (ac3 ++ [⟨op, ar⟩]) t2 ∧ Gath rdX nk s5 (p + 1) (ac3 ++ [⟨op, ar⟩]) t2) := by
              have hg := hGnn.out
              rw [hV.out] at hg
              refine ⟨?_, hg⟩
              have hs7 := hb7.size
              rw [← hW8]
              refine ⟨?_, ?_, ?_, set5_4 hx7 _, ?_⟩
              · exact ((hIX.only.low hbY (by have := hIX.only.size; omega)).low hb7 (by omega)).setCell (by omega) _ _
              · have : (w7.setCell ⟨wA.heap.size, 4, none⟩ (.slice a7 (p + 1) c7)).heap.size = w7.heap.size := by simp [World.setCell]
                omega
              · exact ((hIX.rd.low hbY (by omega)).low hb7 (by omega)).setCell (by omega) _ _
              · exact hO7.since (fun j hj => Below.heap_setCell _ _ _ _ (by show j ≠ wA.heap.size; have := World.ownsRow.lt hO7 j hj; omega))
            clear hGnn hII hIX hblkW hblkX hblkY hO7 hb7 hbY hx7 hV hrdX hoX hrdW hoW hoW' hoV hblkV hsY
            go_wp2_with (at_builtin; refine Lib.wpList_append_run _ rfl _ _ 40 40 rfl _ _ rfl rfl _ _ hr7 ?_; clear hr7)
            go_roundg (nk - (p + 1))
            case measure => omega
            case rel => exact ⟨p + 1, _, c7, _, t2, by omega, rfl, by go_num, hnew⟩
        case rest =>
          obtain ⟨ka, kc, hI3'⟩ := hcut
          have hGn := hGG.out.next hlt (s := fun f => 1 + f.code.length) (fun v => by omega) (fun st b' h => rdF_cut h)
          have hlq := hGG.out.len
          have hq1 : q ≤ 10000 := by have := hGG.out.2.2.2.2.2 bs rfl; omega
          have hall := rdG_all (f := rdX) (P := fun i => InR i.op ∧ InR i.a) (fun st => rdX_ok st) nk s5
          obtain ⟨kl, Hkl⟩ : ∃ x, Hid ((rdG rdX nk s5).1 = x) := ⟨_, rfl⟩
          obtain ⟨s6, H6⟩ : ∃ x, Hid ((rdG rdX nk s5).2 = x) := ⟨_, rfl⟩
          rw [Hkl.out] at hall
          rw [Hkl.out, H6.out] at hI3' hV
          rw [hV.out] at hGn
          have hRI := hII.out
          clear hI3 hV Hkl H6 hII hGG
          obtain ⟨k0, k1, k2, k3, k4, -, -, -, -, -, hlk⟩ := cells_k5 hI3'.box
          have hxM := (hI3'.only.block M (by omega) (by omega)).trans hRI.box
          have hxR := (hI3'.only.block w.heap.size (by omega) (by omega)).trans hRI.res
          obtain ⟨m0, m1, -, -, hlm⟩ := cells_k2 hxM
          have hszS : wS.heap.size ≤ wc.heap.size := hI3'.siz
          obtain ⟨wb, hWb⟩ : ∃ wb, wc.alloc (.cells #[.int .i64 x0, .int .i64 x1, .int .i64 x2, .int .i64 x3, .slice ka kl.length kc] 42) = wb := ⟨_, rfl⟩
          have hbb : Below wc.heap.size wc wb := by rw [← hWb]; exact (Below.refl _ _).alloc (Nat.le_refl _) _
          have hblkb : wb.heap[wc.heap.size]? = some (.cells #[.int .i64 x0, .int .i64 x1, .int .i64 x2, .int .i64 x3, .slice ka kl.length kc] 42 (0, 0)) := by rw [← hWb]; exact heap_new _ _
          have hsbb := hbb.size
          have hOb : OwnI wb wS.heap.size (.slice ka kl.length kc) kl := hI3'.row.since (fun j hj => hbb.block j (World.ownsRow.lt hI3'.row j hj).2)
          obtain ⟨wT, hsT, hbT, hkT⟩ := World.cutTo wc wo.heap.size (by omega)
          have hGT : GF wL.heap.size wT (.slice fa q fc) acc := hRI.row.since (by omega) (fun j hj hl => (hkT j hl).trans (hI3'.only.block j hl (by omega)))
          have hbTb : Below wT.heap.size wT wb := by rw [hsT]; exact hbT.trans (hbb.mono (by omega))
          have hfn : IsFn (From wT.heap.size) wb ⟨x0, x1, x2, x3, kl⟩ (.slice ka kl.length kc) := ⟨inR_nat (by assumption), inR_nat (by assumption), inR_nat (by assumption), inR_nat (by assumption), hOb.is hall (fun k hk => by have := World.ownsRow.lt hOb k hk; show wT.heap.size ≤ k; omega)⟩
          obtain ⟨a9, c9, w9, hr9, hG9, hb9, hgr9⟩ := GF.push (n1 := 0) hGT hbTb (f := ⟨x0, x1, x2, x3, kl⟩) (hOb.low (by omega)) hfn hblkb (by omega) (by rw [hlq]; omega) 1
          rw [hlq] at hr9 hG9
          have hx9 := (hb9.block M (by omega)).trans ((hbb.block M (by omega)).trans hxM)
          have hxR9 := (hb9.block w.heap.size (by omega)).trans ((hbb.block w.heap.size (by omega)).trans hxR)
          obtain ⟨t0, t1, ft0, ft1, hlt9⟩ := cells_k2 hx9
          obtain ⟨w8, hW8⟩ : ∃ w8, w9.setCell ⟨M, 1, none⟩ (.slice a9 (q + 1) c9) = w8 := ⟨_, rfl⟩
          have hnew : Hid (I2 w w3 wL r M cs sa sc w8 a9 (q + 1) c9 (acc ++ [⟨x0, x1, x2, x3, kl⟩]) s6 ∧ Gath rdF nf st7 (q + 1) (acc ++ [⟨x0, x1, x2, x3, kl⟩]) s6) := by
            refine ⟨?_, hGn⟩
            have hs9 := hb9.size
            rw [← hW8]
            refine ⟨?_, ?_, ?_, set2_1' hx9 _, ?_, ?_, ?_⟩
            · exact (((hRI.bel.trans (hI3'.only.below hRI.bel.size (by omega))).trans (hbb.mono (by omega))).trans (hb9.mono (by omega))).setCell (p := ⟨M, 1, none⟩) (by show w.heap.size ≤ M; omega) _
            · have : (w9.setCell ⟨M, 1, none⟩ (.slice a9 (q + 1) c9)).heap.size = w9.heap.size := by simp [World.setCell]
              omega
            · exact ((hI3'.rd.low hbb (by omega)).low hb9 (by omega)).setCell (by omega) _ _
            · rw [Below.heap_setCell _ _ _ _ (by show w.heap.size ≠ M; omega)]; exact hxR9
            · refine hRI.con.since ⟨by simp [World.setCell]; omega, fun k hk hl => ?_⟩
              rw [Below.heap_setCell _ _ _ _ (by show k ≠ M; omega), hb9.block k (by omega), hbb.block k (by omega)]
              exact hI3'.only.block k (by omega) (by omega)
            · exact hG9.since (by simp [World.setCell]) (fun k hk hl => Below.heap_setCell _ _ _ _ (by show k ≠ M; omega))
          clear hGn hRI hI3' hxM hxR hblkb hOb hGT hbTb hfn hG9 hb9 hgr9 hx9 hxR9 hall hbT hkT hbb hsbb hsT
          go_wp2_with (at_builtin; refine Lib.wpList_append_run _ rfl _ _ 23 23 rfl _ _ rfl rfl _ _ hr9 ?_; clear hr9)
          go_roundg (nf - (q + 1))
          case measure => omega
          case rel => exact ⟨q + 1, _, c9, _, s6, by omega, rfl, by go_num, hnew⟩
    case rest =>
      obtain ⟨fa, fc, hI2⟩ := hcut
      have hrM : Hid (rdM b = (⟨cs, (rdG rdF nf st7).1⟩, (rdG rdF nf st7).2)) := by show _ = _; rw [rdM_eq, HC.out, HF.out, HS.out, HCS.out, HS7.out]
      have hall : Hid (∀ v ∈ cs, v.l = []) := fun v hv => rdG_all (f := rdC) (P := fun v => v.l = []) (fun st => (rdC_ok st).2.2.2) nc st5 v (by rw [HCS.out]; exact hv)
      obtain ⟨fs, HFS⟩ : ∃ x, Hid ((rdG rdF nf st7).1 = x) := ⟨_, rfl⟩
      obtain ⟨st9, HS9⟩ : ∃ x, Hid ((rdG rdF nf st7).2 = x) := ⟨_, rfl⟩
      rw [HFS.out, HS9.out] at hI2 hrM
      have hmd : Hid (IsMd (From w3.heap.size) wc ⟨cs, fs⟩ (.slice sa cs.length sc) (.slice fa fs.length fc)) := ⟨hI2.con.vs.base (fun k hk _ => hk.1), hI2.row.fus.base (fun k hk _ => by show w3.heap.size ≤ k; have : wL.heap.size ≤ k := hk; omega)⟩
      have hbW : Hid (IsB B wc (.slice ab b.length cb) b) := hb.since (Since.of_below hI2.bel)
      have hII : Hid (I2 w w3 wL r M cs sa sc wc fa fs.length fc fs st9) := hI2
      have hszc := hI2.siz
      obtain ⟨m0, m1, -, -, hlm⟩ := cells_k2 hI2.box
      obtain ⟨ra, rn, rc, g0, g1, g2, g3, g4, g5, g6⟩ := hI2.rd.cells
      have hR11 := resW hI2.res hI2.bel (.slice none 0 0) (.slice none 0 0)
      obtain ⟨wN, hWN, hxN, hbN, -, -⟩ := hR11
      obtain ⟨r0, r1, s0, s1, hlr⟩ := cells_k2 hI2.res
      obtain ⟨t0, t1, -, -, hlN⟩ := cells_k2 hxN
      clear hI7 hb HC HF HS HCS HS7 HFS HS9 hI2 hxN
      by_cases hst : st9 ≠ some []
      · have hD : decR b states = (Md.no, 11) := by unfold decR; rw [hrM.out, if_pos hst]
        have hpost := outD_no (e := 11) hbN
        rw [← hD] at hpost
        clear hD hmd hbW hrM hall hbN
        rcases st9 with _ | l
        · simp only [Option.isNone_none] at g1
          clear g6 hst hII
          go_wp2_with fail
          exact bodyPost_ret (v := .tuple #[.agg #[.slice none 0 0, .slice none 0 0], .int .i64 11]) (by simp [results, Tryz.results9, go_sem, hlN, t0, t1]) rfl hpost
        · simp only [Option.isNone_some] at g1
          have hrn := g6 l rfl
          have hl0 : l ≠ [] := fun h => hst (by rw [h])
          have hn0 : (0 : Int) < (rn : Int) := by have := List.length_pos_iff.2 hl0; omega
          clear g6 hst hII hrn hl0
          go_wp2_with fail
          exact bodyPost_ret (v := .tuple #[.agg #[.slice none 0 0, .slice none 0 0], .int .i64 11]) (by simp [results, Tryz.results9, go_sem, hlN, t0, t1]) rfl hpost
      have hst' : st9 = some [] := Classical.byContradiction hst
      subst hst'
      simp only [Option.isNone_some] at g1
      have hn0 : ¬ (0 : Int) < (rn : Int) := by rw [g6 [] rfl]; simp
      have hsz : csz cs + fsz fs ≤ 10000 := by
        have h := rdM_sz (b := b) (r := []) (by rw [hrM.out])
        rw [hrM.out] at h
        exact Nat.le_trans h hl
      have hwt : ∀ v ∈ (Md.mk cs fs).consts, wt v ≤ 4611686018427387904 := fun v hv => by
        rw [wt_nil (hall.out v hv)]
        have := mem_csz hv
        have : csz (Md.mk cs fs).consts = csz cs := rfl
        omega
      have hVf := verify13_any hmd.out hwt states
      clear g6 hst hwt hWN hbN t0 t1 hlN r0 r1 s0 s1 hlr
      go_wp2_with fail
      refine hVf.mono ?_
      rintro e w6 ⟨rfl, hb6⟩
      have hres6 := (hb6.block _ (by omega)).trans hII.out.res
      have hbel6 : Below w.heap.size w w6 := hII.out.bel.trans (hb6.mono hII.out.bel.size)
      obtain ⟨r0, r1, s0, s1, hlr⟩ := cells_k2 hres6
      clear hVf m0 m1 g0 g1 g2 g3 g4 g5 hn0 hlm
      by_cases hr : Run ⟨cs, fs⟩ states
      rotate_left
      · have hD : decR b states = (Md.no, 40) := by unfold decR; rw [hrM.out, if_neg (by simp), if_pos hr]
        rw [vfy_no hr]
        obtain ⟨wN, hWN, hxN, hbN, -, -⟩ := resW hres6 hbel6 (.slice none 0 0) (.slice none 0 0)
        obtain ⟨t0, t1, -, -, hlN⟩ := cells_k2 hxN
        have hpost := outD_no (e := 40) hbN
        rw [← hD] at hpost
        clear hD hmd hbW hrM hall hbN hr hII hres6 hbel6 hxN
        go_wp2_with fail
        exact bodyPost_ret (v := .tuple #[.agg #[.slice none 0 0, .slice none 0 0], .int .i64 40]) (by simp [results, Tryz.results9, go_sem, hlN, t0, t1]) rfl hpost
      rw [vfy_ok hr]
      have hm6 := hmd.out.below hb6
      have hlen : (encM ⟨cs, fs⟩).length ≤ 800000 := encM_len hr (okVs_w hmd.out.con hall.out) (by show csz cs ≤ 10000; omega) (by show fsz fs ≤ 10000; omega)
      have hBy : Calls Tryz.prog 18 #[.agg #[.slice sa cs.length sc, .slice fa fs.length fc]] w6.drew fun e w' => OutN w6.drew (encM ⟨cs, fs⟩) e w' := bytes13_any (m := ⟨cs, fs⟩) (hm6.below (Below.refl _ _).drew) hr hlen
      have hcv : ∀ w', Below w6.heap.size w6 w' → (convert 26 9 (.slice ab b.length cb)).run Tryz.prog w' = .ok (.string ⟨b.toArray⟩) w' := fun w' h => str_b ((hbW.out.since (Since.of_below hb6)).since (Since.of_below h))
      have hxM6 := (hb6.block M (by omega)).trans hII.out.box
      have hII6 : Hid (I2 w w3 wL r M cs sa sc wc fa fs.length fc fs (some [])) := hII
      clear hII hmd hbW hall hlen hm6
      obtain ⟨m0, m1, -, -, hlm⟩ := cells_k2 hxM6
      have hT0 : ∀ w', Below w6.heap.size w6 w' → w'.cell? ⟨M, 0, none⟩ = some (.slice sa cs.length sc) ∧ w'.cell? ⟨M, 1, none⟩ = some (.slice fa fs.length fc) ∧ (convert 26 9 (.slice ab b.length cb)).run Tryz.prog w' = .ok (.string ⟨b.toArray⟩) w' := fun w' h => by
        obtain ⟨a0, a1, -, -, -⟩ := cells_k2 ((h.block M hlm).trans hxM6)
        exact ⟨a0, a1, hcv w' h⟩
      clear m0 m1 hcv
      go_wp2_with fail
      refine wpE_begin (S := fun w' => w'.cell? ⟨M, 0, none⟩ = some (.slice sa cs.length sc) ∧ w'.cell? ⟨M, 1, none⟩ = some (.slice fa fs.length fc) ∧ (convert 26 9 (.slice ab b.length cb)).run Tryz.prog w' = .ok (.string ⟨b.toArray⟩) w') (N := fun _ => true) (by kernel_rfl) ?_
      have hS0 := hT0 w6.drew (Below.refl _ _).drew
      refine wpE_takeX (some 150) (fun j => [1, 2, 5].contains j) (i := 0) (v := .agg #[.slice sa cs.length sc, .slice fa fs.length fc]) rfl rfl (by kernel_rfl) (by kernel_rfl) (by kernel_rfl) (by kernel_rfl) (fun j hj => by simp at hj; show j < 6; omega) (fun _ _ _ h => h) rfl (fun w' hS => by obtain ⟨g0, g1, -⟩ := hS; go_simp) hS0 ?_
      try simp only [Act.put, List.setIfInBounds_toArray, List.set_cons_zero, List.set_cons_succ]
      refine wpE_takeX (some 153) (fun j => [4, 5].contains j) (i := 3) (v := .slice ab b.length cb) rfl rfl (by kernel_rfl) (by kernel_rfl) (by kernel_rfl) (by kernel_rfl) (fun j hj => by simp at hj; show j < 6; omega) (fun _ _ _ h => h) rfl (fun w' hS => by go_simp) hS0 ?_
      try simp only [Act.put, List.setIfInBounds_toArray, List.set_cons_zero, List.set_cons_succ]
      refine wpE_takeX (some 154) (fun j => [5].contains j) (i := 4) (v := .string ⟨b.toArray⟩) rfl rfl (by kernel_rfl) (by kernel_rfl) (by kernel_rfl) (by kernel_rfl) (fun j hj => by simp at hj; show j < 6; omega) (fun _ _ _ h => h) rfl (fun w' hS => by obtain ⟨-, -, g2⟩ := hS; go_simp) hS0 ?_
      try simp only [Act.put, List.setIfInBounds_toArray, List.set_cons_zero, List.set_cons_succ]
      refine wpE_one (i := 1) (by kernel_rfl) rfl rfl (fun K hK => ?_)
      go_simp
      refine hBy.mono ?_
      rintro e wQ ⟨⟨aQ, NQ, cQ, rfl, hOQ⟩, hbQ'⟩
      have hbQ : Below w6.heap.size w6 wQ := (Below.refl _ _).drew.trans hbQ'
      refine hK _ _ (fun _ => hT0 wQ hbQ) ?_
      clear hK K
      try simp only [Act.put, List.setIfInBounds_toArray, List.set_cons_zero, List.set_cons_succ]
      have hcQ : (convert 26 9 (.slice aQ NQ cQ)).run Tryz.prog wQ = .ok (.string ⟨(encM ⟨cs, fs⟩).toArray⟩) wQ := by rw [hOQ.1]; exact str_b (owns_b hOQ.2)
      refine wpE_one (i := 2) (by kernel_rfl) rfl rfl (fun K hK => ?_)
      go_simp
      refine hK _ _ (fun _ => hT0 wQ hbQ) ?_
      clear hK K
      try simp only [Act.put, List.setIfInBounds_toArray, List.set_cons_zero, List.set_cons_succ]
      refine wpE_one (i := 5) (by kernel_rfl) rfl rfl (fun K hK => ?_)
      go_simp
      refine hK _ _ (fun _ => hT0 wQ hbQ) ?_
      clear hK K
      try simp only [Act.put, List.setIfInBounds_toArray, List.set_cons_zero, List.set_cons_succ]
      refine wpE_done (by kernel_rfl) ?_
      simp only [Exit.then]
      refine ‹∀ (a : Act) (w : World), _ → _› _ _ ?_
      have hresQ := (hbQ.block _ (by omega)).trans hres6
      have hbelQ : Below w.heap.size w wQ := hbel6.trans (hbQ.mono hbel6.size)
      have hsQ : w6.heap.size ≤ wQ.heap.size := hbQ.size
      obtain ⟨p0, p1, o0, o1, hlp⟩ := cells_k2 hresQ
      obtain ⟨e0, e1, -, -, hle⟩ := cells_k2 ((hbQ.block M hlm).trans hxM6)
      clear r0 r1 s0 s1 hlr hcQ hBy hS0 hOQ hbQ'
      obtain ⟨X, HX⟩ : ∃ X, Hid (encM ⟨cs, fs⟩ = X) := ⟨_, rfl⟩
      simp only [HX.out]
      by_cases hX : X = b
      rotate_left
      · have hD : decR b states = (Md.no, 11) := by unfold decR; rw [hrM.out, if_neg (by simp), if_neg (by simpa using hr), if_pos (by show encM ⟨cs, fs⟩ ≠ b; rw [HX.out]; exact hX)]
        obtain ⟨wN, hWN, hxN, hbN, -, -⟩ := resW hresQ hbelQ (.slice none 0 0) (.slice none 0 0)
        obtain ⟨t0, t1, -, -, hlN⟩ := cells_k2 hxN
        have hpost := outD_no (e := 11) hbN
        rw [← hD] at hpost
        have hXH : Hid (X ≠ b) := hX
        clear hD hrM hbN hr hII6 hres6 hbel6 hxN hresQ hbelQ hX HX hT0 hbQ
        go_wp2_with fail
        · exact bodyPost_ret (v := .tuple #[.agg #[.slice none 0 0, .slice none 0 0], .int .i64 11]) (by simp [results, Tryz.results9, go_sem, hlN, t0, t1]) rfl hpost
        · rename_i hc
          exact absurd (by simpa using hc) hXH.out
      · subst hX
        have hD : decR X states = (⟨cs, fs⟩, 0) := by unfold decR; rw [hrM.out, if_neg (by simp), if_neg (by simpa using hr), if_neg (by show ¬ encM ⟨cs, fs⟩ ≠ X; rw [HX.out]; simp)]
        obtain ⟨wN, hWN, hxN, hbN, hsN, hkN⟩ := resW hresQ hbelQ (.slice sa cs.length sc) (.slice fa fs.length fc)
        obtain ⟨t0, t1, -, -, hlN⟩ := cells_k2 hxN
        have hpost : OutD w (⟨cs, fs⟩, 0) (.returned (.tuple #[.agg #[.slice sa cs.length sc, .slice fa fs.length fc], .int .i64 0])) wN := by
          have hs6 := hb6.size
          have hkk : ∀ k, w3.heap.size ≤ k → k < wc.heap.size → wN.heap[k]? = wc.heap[k]? := fun k hk hl => by rw [hkN k (by omega), hbQ.block k (by omega), hb6.block k hl]
          refine ⟨⟨sa, sc, fa, fc, wL.heap.size, rfl, ?_, ?_, by omega, by omega⟩, hbN⟩
          · exact (hII6.out.con.since ⟨by omega, fun k hk hl => hkk k hk.1 hl⟩).base (fun k hk hl => ⟨by omega, hk.2⟩)
          · exact hII6.out.row.since (by omega) (fun k hk hl => hkk k (by omega) hl)
        rw [← hD] at hpost
        clear hD hrM hbN hr hII6 hres6 hbel6 hxN hresQ hbelQ HX hT0 hbQ hkN hsN hb6
        go_wp2_with fail
        · rename_i hc
          simp at hc
        · exact bodyPost_ret (v := .tuple #[.agg #[.slice sa cs.length sc, .slice fa fs.length fc], .int .i64 0]) (by simp [results, Tryz.results9, go_sem, hlN, t0, t1]) rfl hpost
end Go.Proofs.YtndahpcjkcihlaaGreat
