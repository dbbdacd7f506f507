/- Texts of ours, joined: Pc, St, Pa. -/
import Derived.Test.YtnijcolomoobnaaGreatDoorK30
import Derived.Test.YtnijcolomoobnaaGreatDoorK03
import Derived.Test.YtnijcolomoobnaaGreatDoorK39
import Derived.Test.YtnijcolomoobnaaGreatDoorK33
namespace Go.Proofs.YtnijcolomoobnaaGreatDoor
open Go.RowKit
set_option linter.unusedVariables false
set_option linter.unusedSimpArgs false
attribute [local go_sem ↓] Go.wp_at_zero Go.wp_at_succ

theorem resW15 {w wq : World} (hx : wq.heap[w.heap.size]? = some (.cells #[.slice none 0 0, .slice none 0 0] 25 (0, 0))) (hb : Below w.heap.size w wq) (x0 x1 : Value) : ∃ wN, (wq.setCell ⟨w.heap.size, 0, none⟩ x0).setCell ⟨w.heap.size, 1, none⟩ x1 = wN ∧ wN.heap[w.heap.size]? = some (.cells #[x0, x1] 25 (0, 0)) ∧ Below w.heap.size w wN ∧ wN.heap.size = wq.heap.size ∧ ∀ k, k ≠ w.heap.size → wN.heap[k]? = wq.heap[k]? := by
  refine ⟨_, rfl, ?_, (hb.setCell (p := ⟨w.heap.size, 0, none⟩) (Nat.le_refl _) x0).setCell (p := ⟨w.heap.size, 1, none⟩) (Nat.le_refl _) x1, by simp [World.setCell], fun k hk => ?_⟩
  · simp [World.setCell, Array.getElem?_modify, hx]
  · rw [Below.heap_setCell _ _ _ _ hk, Below.heap_setCell _ _ _ _ hk]
theorem inRow15_len : ∀ l : List In, (l.flatMap inCells).length = l.length * 2
  | [] => rfl
  | a :: r => by
    have := inRow15_len r
    simp only [List.flatMap_cons, List.length_append, this, List.length_cons, inCells, List.length_nil]
    omega
def xM15 (l : List In) : Md := ⟨[.mk 1 7 [] []], [⟨0, 0, 0, 1, l⟩]⟩
theorem x15_con : ctype (.mk 1 7 [] []) ≠ [] := by
  have h : fitS (tyT .int) (.mk 1 7 [] []) = true := by
    unfold fitS
    rw [shpS_ty (by decide), shpB_iff.2 (by rw [Shp]; exact ⟨rfl, rfl, rfl⟩)]
    simp [wt, wts]
  have ht : tys = tyT .int :: tys.tail := rfl
  unfold ctype
  rw [if_pos (show (V.mk 1 7 [] []).l = [] from rfl), ht, List.find?_cons_of_pos (p := fun t => fitS t (.mk 1 7 [] [])) h]
  decide
theorem x15_fun {l : List In} {n : Nat} {f : Fu} (h : (xM15 l).funcs[n]? = some f) : n = 0 ∧ f = ⟨0, 0, 0, 1, l⟩ := by
  rcases n with _ | n
  · exact ⟨rfl, (Option.some.inj h).symm⟩
  · simp [xM15] at h
theorem x15_run : Run (xM15 [⟨1, 0⟩, ⟨10, 0⟩]) 0 := by
  refine ⟨⟨by decide, by decide⟩, ⟨by decide, by decide⟩, fun v hv => ?_, fun n f hf => ?_⟩
  · simp only [xM15, List.mem_cons, List.not_mem_nil, or_false] at hv
    subst hv
    exact x15_con
  · obtain ⟨rfl, rfl⟩ := x15_fun hf
    refine ⟨by unfold NumOk; simp [xM15], fun i hi => ?_, ⟨fun p => if p = 0 then some 0 else if p = 1 then some 1 else none, rfl, fun p x hx => ?_⟩⟩
    · simp only [List.mem_cons, List.not_mem_nil, or_false] at hi
      rcases hi with rfl | rfl <;> rfl
    · rcases p with _ | _ | p
      · obtain rfl : (0 : Int) = x := Option.some.inj hx
        exact ⟨_, rfl, by decide, by decide, fun q hq => by
          have : q ∈ [1] := hq
          simp only [List.mem_cons, List.not_mem_nil, or_false] at this
          subst this
          rfl⟩
      · obtain rfl : (1 : Int) = x := Option.some.inj hx
        exact ⟨_, rfl, by decide, by decide, fun q hq => by
          have : q ∈ ([] : List Nat) := hq
          simp at this⟩
      · simp at hx
theorem slrow15 {w : World} {g : Nat} {arr : List Value} {T : TypeId} {n sz : Nat} (h : w.heap[g]? = some (.cells arr.toArray T (0, 0))) (hl : arr.length = n * sz) (hn : n ≤ maxLen) : SlRow (fun _ => True) w sz (.slice (some ⟨g, 0, none⟩) n n) n arr :=
  ⟨hl, Or.inr ⟨g, 0, n, rfl, Nat.le_refl _, hn, trivial, (Array.getElem?_eq_some_iff.1 h).1, fun j u hj => by
    rw [Nat.zero_add]
    simpa [World.cell?, h] using hj⟩⟩
def ExPost15 (l : List In) (w : World) (e : Ending) (w' : World) : Prop := (∃ a1 a2, e = .returned (.agg #[.slice a1 1 1, .slice a2 1 1]) ∧ IsMd (fun _ => True) w' (xM15 l) (.slice a1 1 1) (.slice a2 1 1)) ∧ Below w.heap.size w w'
set_option maxRecDepth 100000 in
set_option maxHeartbeats 4000000 in
theorem small15_any {w : World} {l : List In} {a : Option Addr} {c N : Nat} (hN : l.length = N) (hi : IsIs (fun _ => True) w l (.slice a N c)) :
    Calls Tryz.prog 19 #[.slice a N c] w fun e w' => ExPost15 l w e w' := by
  obtain ⟨w0, hW0, hb0, -, hx0⟩ := box2 w (.slice none 0 0) (.slice none 0 0) 25
  obtain ⟨w1, hW1⟩ : ∃ w1, w0.alloc (.cells #[.int .i64 1, .int .i64 7, .string ⟨#[]⟩, .slice none 0 0] 31) = w1 := ⟨_, rfl⟩
  have hb1 : Below w0.heap.size w0 w1 := by rw [← hW1]; exact (Below.refl _ _).alloc (Nat.le_refl _) _
  have hx1 : w1.heap[w0.heap.size]? = some (.cells #[.int .i64 1, .int .i64 7, .string ⟨#[]⟩, .slice none 0 0] 31 (0, 0)) := by rw [← hW1]; exact heap_new _ _
  obtain ⟨w2, hW2⟩ : ∃ w2, w1.alloc (.cells #[.int .i64 0, .int .i64 0, .int .i64 0, .int .i64 1, .slice a N c] 52) = w2 := ⟨_, rfl⟩
  have hb2 : Below w1.heap.size w1 w2 := by rw [← hW2]; exact (Below.refl _ _).alloc (Nat.le_refl _) _
  have hx2 : w2.heap[w1.heap.size]? = some (.cells #[.int .i64 0, .int .i64 0, .int .i64 0, .int .i64 1, .slice a N c] 52 (0, 0)) := by rw [← hW2]; exact heap_new _ _
  have hl0 : w.heap.size < w0.heap.size := (Array.getElem?_eq_some_iff.1 hx0).1
  have hl1 : w0.heap.size < w1.heap.size := (Array.getElem?_eq_some_iff.1 hx1).1
  have hl2 : w1.heap.size < w2.heap.size := (Array.getElem?_eq_some_iff.1 hx2).1
  have hB2 : Below w.heap.size w w2 := hb0.trans ((hb1.mono hb0.size).trans (hb2.mono (by omega)))
  have hxr := (hb2.block _ (by omega)).trans ((hb1.block _ hl0).trans hx0)
  obtain ⟨p0, p1, o0, o1, hlp⟩ := cells_k2 hxr
  obtain ⟨w3, hW3, hx3, hB3, hs3, hk3⟩ := resW15 hxr hB2 (.slice (some ⟨w0.heap.size, 0, none⟩) 1 1) (.slice (some ⟨w1.heap.size, 0, none⟩) 1 1)
  obtain ⟨t0, t1, -, -, hlt⟩ := cells_k2 hx3
  have hy1 := (hk3 _ (by omega)).trans ((hb2.block _ hl1).trans hx1)
  have hy2 := (hk3 _ (by omega)).trans hx2
  have hpost : ExPost15 l w (.returned (.agg #[.slice (some ⟨w0.heap.size, 0, none⟩) 1 1, .slice (some ⟨w1.heap.size, 0, none⟩) 1 1])) w3 := by
    have i0 : InR 0 := by constructor <;> decide
    have i1 : InR 1 := by constructor <;> decide
    have i7 : InR 7 := by constructor <;> decide
    have hi3 : IsIs (fun _ => True) w3 l (.slice a N c) := (hi.base (B' := fun k => k < w.heap.size) (fun k _ h => h)).since ⟨hB3.size, fun k hk _ => hB3.block k hk⟩ |>.base (fun _ _ _ => trivial)
    refine ⟨⟨_, _, rfl, ⟨_, slrow15 (arr := [.int .i64 1, .int .i64 7, .string ⟨#[]⟩, .slice none 0 0]) hy1 rfl (by unfold maxLen; omega), ?_⟩, ⟨_, slrow15 (arr := [.int .i64 0, .int .i64 0, .int .i64 0, .int .i64 1, .slice a N c]) hy2 rfl (by unfold maxLen; omega), ?_⟩⟩, hB3⟩
    · exact AllV.one (isV_iff.2 ⟨_, rfl, Nat.zero_le _, i1, i7, IsVs.nil⟩)
    · refine ⟨_, [], (List.append_nil _).symm, ⟨a, c, ?_, i0, i0, i0, i1, ?_⟩, rfl⟩
      · simp [hN]
      · show IsIs _ w3 l (.slice a l.length c)
        rw [hN]; exact hi3
  clear hi hb0 hb1 hb2 hx0 hx1 hx2 hB2 hxr hx3 hB3 hs3 hk3 hy1 hy2
  go_enter Tryz.func19, Tryz.ntmps19
  go_wp2_with fail
  exact bodyPost_ret (v := .agg #[.slice (some ⟨w0.heap.size, 0, none⟩) 1 1, .slice (some ⟨w1.heap.size, 0, none⟩) 1 1]) (by simp [results, Tryz.results19, go_sem, hlt, t0, t1]) rfl hpost
theorem is15_new {w : World} {l : List In} (hr : ∀ i ∈ l, InR i.op ∧ InR i.a) {n : Nat} (hn : l.length = n) (hl : n ≤ 100) : IsIs (fun _ => True) (w.alloc (.cells (l.flatMap inCells).toArray 48)) l (.slice (some ⟨w.heap.size, 0, none⟩) n n) := by
  subst hn
  exact ⟨slrow15 (heap_new _ _) (inRow15_len l) (by unfold maxLen; omega), hr⟩

theorem x15_jump : Run (xM15 [⟨7, 0⟩]) 0 := by
  refine ⟨⟨by decide, by decide⟩, ⟨by decide, by decide⟩, fun v hv => ?_, fun n f hf => ?_⟩
  · simp only [xM15, List.mem_cons, List.not_mem_nil, or_false] at hv
    subst hv
    exact x15_con
  · obtain ⟨rfl, rfl⟩ := x15_fun hf
    refine ⟨by unfold NumOk; simp [xM15], fun i hi => ?_, ⟨fun p => if p = 0 then some 0 else none, rfl, fun p x hx => ?_⟩⟩
    · simp only [List.mem_cons, List.not_mem_nil, or_false] at hi
      subst hi; rfl
    · rcases p with _ | p
      · obtain rfl : (0 : Int) = x := Option.some.inj hx
        exact ⟨_, rfl, by decide, by decide, fun q hq => by
          have : q ∈ [0] := hq
          simp only [List.mem_cons, List.not_mem_nil, or_false] at this
          subst this
          rfl⟩
      · simp at hx
theorem x15_not : Run (xM15 [⟨1, 0⟩, ⟨14, 0⟩, ⟨10, 0⟩]) 0 := by
  refine ⟨⟨by decide, by decide⟩, ⟨by decide, by decide⟩, fun v hv => ?_, fun n f hf => ?_⟩
  · simp only [xM15, List.mem_cons, List.not_mem_nil, or_false] at hv
    subst hv
    exact x15_con
  · obtain ⟨rfl, rfl⟩ := x15_fun hf
    refine ⟨by unfold NumOk; simp [xM15], fun i hi => ?_, ⟨fun p => if p = 0 then some 0 else if p = 1 then some 1 else if p = 2 then some 1 else none, rfl, fun p x hx => ?_⟩⟩
    · simp only [List.mem_cons, List.not_mem_nil, or_false] at hi
      rcases hi with rfl | rfl | rfl <;> rfl
    · rcases p with _ | _ | _ | p
      · obtain rfl : (0 : Int) = x := Option.some.inj hx
        exact ⟨_, rfl, by decide, by decide, fun q hq => by
          have : q ∈ [1] := hq
          simp only [List.mem_cons, List.not_mem_nil, or_false] at this
          subst this
          rfl⟩
      · obtain rfl : (1 : Int) = x := Option.some.inj hx
        exact ⟨_, rfl, by decide, by decide, fun q hq => by
          have : q ∈ [2] := hq
          simp only [List.mem_cons, List.not_mem_nil, or_false] at this
          subst this
          rfl⟩
      · obtain rfl : (1 : Int) = x := Option.some.inj hx
        exact ⟨_, rfl, by decide, by decide, fun q hq => by
          have : q ∈ ([] : List Nat) := hq
          simp at this⟩
      · simp at hx
theorem x15_ok {l : List In} (h : Run (xM15 l) 0) : VOk (xM15 l) [] 0 [] :=
  ⟨h, Int.le_refl _, by simp [xM15], fun f hf => by obtain ⟨-, rfl⟩ := x15_fun (n := 0) hf; rfl, fun x hx => by simp at hx, fun x hx => by simp at hx⟩
theorem x15_seven {S : List V} {v : V} {e fl : Int} (h : RunIs (xM15 [⟨1, 0⟩, ⟨10, 0⟩]) [] 0 [] 9 S v e fl) : v = nV 7 ∧ e = 0 ∧ fl = 9 := by
  have h' : RunIs (xM15 [⟨1, 0⟩, ⟨10, 0⟩]) [] 0 [] 9 [] (nV 7) 0 9 := Or.inr ⟨x15_ok x15_run, _, 2, ⟨nV 7, [], 9, 0⟩, rfl, by simp [vmRun, vmN, vmI, xM15, popN, pop1, pop2, loc0, cl15], Or.inr ⟨rfl, rfl, rfl, rfl, rfl⟩⟩
  obtain ⟨-, a, b, c⟩ := h.one h'
  exact ⟨a, b, c⟩
theorem x15_wrong {S : List V} {v : V} {e fl : Int} (h : RunIs (xM15 [⟨1, 0⟩, ⟨14, 0⟩, ⟨10, 0⟩]) [] 0 [] 9 S v e fl) : e = 40 ∧ fl = 9 := by
  have h' : RunIs (xM15 [⟨1, 0⟩, ⟨14, 0⟩, ⟨10, 0⟩]) [] 0 [] 9 [] V.zero 40 9 := Or.inr ⟨x15_ok x15_not, _, 2, ⟨zV, [], 9, 40⟩, rfl, by simp [vmRun, vmN, vmI, xM15, popN, pop1, pop2, loc0, cl15, opV, V.k], Or.inl ⟨by simp, rfl, rfl, rfl, rfl⟩⟩
  obtain ⟨-, a, b, c⟩ := h.one h'
  exact ⟨b, c⟩
theorem x15_ever {S : List V} {v : V} {e fl : Int} (h : RunIs (xM15 [⟨7, 0⟩]) [] 0 [] 9 S v e fl) : e = 54 ∧ fl = 0 := by
  have h' : RunIs (xM15 [⟨7, 0⟩]) [] 0 [] 9 [] V.zero 54 0 := Or.inr ⟨x15_ok x15_jump, _, 10, ⟨zV, [], 0, 54⟩, rfl, by simp [vmRun, vmN, vmI, xM15, popN, pop1, pop2, loc0, cl15], Or.inl ⟨by simp, rfl, rfl, rfl, rfl⟩⟩
  obtain ⟨-, a, b, c⟩ := h.one h'
  exact ⟨b, c⟩
end Go.Proofs.YtnijcolomoobnaaGreatDoor
namespace Go.Proofs.YtnijcolomoobnaaGreatDoor
open Go.RowKit
set_option linter.unusedVariables false
set_option linter.unusedSimpArgs false
attribute [local go_sem ↓] Go.wp_at_zero Go.wp_at_succ

theorem Tb15.at {w w' : World} (h : Tb15 w.heap.size w) (k : Below w.heap.size w w') : Tb15 w'.heap.size w' := fun w2 h2 => h w2 (k.trans (h2.mono k.size))
theorem obox6 (w : World) (x0 x1 x2 x3 x4 x5 : Value) : ∃ wz wN, w.alloc (.cells #[.int .i64 0, .int .i64 0, .string ⟨#[]⟩, .slice none 0 0, .int .i64 0, .int .i64 0] 35) = wz ∧ (((((wz.setCell ⟨w.heap.size, 0, none⟩ x0).setCell ⟨w.heap.size, 1, none⟩ x1).setCell ⟨w.heap.size, 2, none⟩ x2).setCell ⟨w.heap.size, 3, none⟩ x3).setCell ⟨w.heap.size, 4, none⟩ x4).setCell ⟨w.heap.size, 5, none⟩ x5 = wN ∧ wN.heap[w.heap.size]? = some (ouO x0 x1 x2 x3 x4 x5) ∧ Below w.heap.size w wN ∧ w.heap.size < wN.heap.size ∧ wz.heap[w.heap.size]? = some (ouO (.int .i64 0) (.int .i64 0) (.string ⟨#[]⟩) (.slice none 0 0) (.int .i64 0) (.int .i64 0)) := by
  obtain ⟨wz, hW, hb, hl, hx⟩ := obox w
  obtain ⟨wN, e1, e2, e3, e4⟩ := res6 hx (Nat.le_refl _) hb x0 x1 x2 x3 x4 x5
  exact ⟨wz, wN, hW, e1, e2, e3, by have := e4.size; omega, hx⟩
theorem ex15_any {l : List In} {a1 a2 : Option Addr} {w : World} (hm : IsMd (fun _ => True) w (xM15 l) (.slice a1 1 1) (.slice a2 1 1)) (hl : l.length ≤ 100) (ht : Tb15 w.heap.size w) : Calls Tryz.prog 11 #[.agg #[.slice a1 1 1, .slice a2 1 1], .slice none 0 0, .int .i64 0, .slice none 0 0, .int .i64 9] w (RunPostW (xM15 l) [] 0 [] 9 w) :=
  vrun_any (m := xM15 l) (states := []) (args := []) (B := fun _ => True) hm ⟨fun v hv => by
    simp only [xM15, List.mem_cons, List.not_mem_nil, or_false] at hv
    subst hv
    simp [wt, wts], by simp [xM15], by simp [xM15], fun f hf => by
    simp only [xM15, List.mem_cons, List.not_mem_nil, or_false] at hf
    subst hf
    show l.length ≤ _
    omega⟩ IsVs.nil IsVs.nil (fun v hv => by simp at hv) (fun v hv => by simp at hv) (by simp) ht
set_option maxRecDepth 100000 in
set_option maxHeartbeats 8000000 in
theorem wakes15_any {w : World} (ht : Tb15 w.heap.size w) : Calls Tryz.prog 7 #[] w fun e w' => e = .returned (.bool true) ∧ Below w.heap.size w w' := by
  have i0 : InR 0 := by constructor <;> decide
  have i1 : InR 1 := by constructor <;> decide
  have i7 : InR 7 := by constructor <;> decide
  have i10 : InR 10 := by constructor <;> decide
  have i14 : InR 14 := by constructor <;> decide
  have hB0 : Below w.heap.size w w := Below.refl _ _
  have Ht : Hid (Tb15 w.heap.size w) := ht
  clear ht
  obtain ⟨w11, hW11⟩ : ∃ w', w.alloc (.cells #[.int .i64 1, .int .i64 0, .int .i64 10, .int .i64 0] 48) = w' := ⟨_, rfl⟩
  have hb11 : Below w.heap.size w w11 := by rw [← hW11]; exact (Below.refl _ _).alloc (Nat.le_refl _) _
  have hI1 : IsIs (fun _ => True) w11 [⟨1, 0⟩, ⟨10, 0⟩] (.slice (some ⟨w.heap.size, 0, none⟩) 2 2) := by
    rw [← hW11]
    exact is15_new (l := [⟨1, 0⟩, ⟨10, 0⟩]) (by simp [i0, i1, i7, i10, i14]) rfl (by omega)
  have hX1 := small15_any rfl hI1
  have hB11 : Below w.heap.size w w11 := hB0.trans (hb11.mono hB0.size)
  have hD11 : Below w.heap.size w w11 := hb11
  clear hI1 hb11
  go_enter Tryz.func7, Tryz.ntmps7
  go_wp2_with fail
  refine hX1.mono ?_
  rintro e w12 ⟨⟨a1, a2, rfl, hm⟩, hb⟩
  have hB12 : Below w.heap.size w w12 := hB11.trans (hb.mono hB11.size)
  have hD12 : Below w.heap.size w w12 := hD11.trans (hb.mono hD11.size)
  have hR1 := ex15_any hm (by decide) (Ht.out.at hB12)
  clear hX1 hW11 hm hb
  go_wp2_with fail
  refine hR1.mono ?_
  rintro e w13 ⟨S, v1, e, fl, a', c', av1, cv1, mid, rfl, hIs, -, -, -, -, -, -, hb⟩
  have hB13 : Below w.heap.size w w13 := hB12.trans (hb.mono hB12.size)
  have hD13 : Below w.heap.size w w13 := hD12.trans (hb.mono hD12.size)
  obtain ⟨rfl, rfl, rfl⟩ := x15_seven hIs
  obtain ⟨wz, w14, hWz, hW14, hx1, hb4, hl1, hz⟩ := obox6 w13 (.int .i64 (nV 7).k) (.int .i64 (nV 7).n) (.string ⟨(nV 7).t.toArray⟩) (.slice av1 (nV 7).l.length cv1) (.int .i64 0) (.int .i64 9)
  have hB14 : Below w.heap.size w w14 := hB13.trans (hb4.mono hB13.size)
  have hD14 : Below w.heap.size w w14 := hD13.trans (hb4.mono hD13.size)
  obtain ⟨z0, z1, z2, z3, z4, z5, zl⟩ := cells_k6 hz
  obtain ⟨f0, f1, f2, f3, f4, f5⟩ := fz6 hz
  have Hx11 : Hid (w14.heap[w13.heap.size]? = some (ouO (.int .i64 (nV 7).k) (.int .i64 (nV 7).n) (.string ⟨(nV 7).t.toArray⟩) (.slice av1 (nV 7).l.length cv1) (.int .i64 0) (.int .i64 9))) := hx1
  clear hR1 hIs hz hb hb4 hx1 hD11 hD12 hD13 hD14
  obtain ⟨w21, hW21⟩ : ∃ w', w14.alloc (.cells #[.int .i64 7, .int .i64 0] 48) = w' := ⟨_, rfl⟩
  have hb21 : Below w14.heap.size w14 w21 := by rw [← hW21]; exact (Below.refl _ _).alloc (Nat.le_refl _) _
  have hI2 : IsIs (fun _ => True) w21 [⟨7, 0⟩] (.slice (some ⟨w14.heap.size, 0, none⟩) 1 1) := by
    rw [← hW21]
    exact is15_new (l := [⟨7, 0⟩]) (by simp [i0, i1, i7, i10, i14]) rfl (by omega)
  have hX2 := small15_any rfl hI2
  have hB21 : Below w.heap.size w w21 := hB14.trans (hb21.mono hB14.size)
  have hD21 : Below w14.heap.size w14 w21 := hb21
  clear hI2 hb21
  go_wp2_with fail
  clear hWz hW14 z0 z1 z2 z3 z4 z5 zl f0 f1 f2 f3 f4 f5
  refine hX2.mono ?_
  rintro e w22 ⟨⟨a1, a2, rfl, hm⟩, hb⟩
  have hB22 : Below w.heap.size w w22 := hB21.trans (hb.mono hB21.size)
  have hD22 : Below w14.heap.size w14 w22 := hD21.trans (hb.mono hD21.size)
  have hR2 := ex15_any hm (by decide) (Ht.out.at hB22)
  clear hX2 hW21 hm hb
  go_wp2_with fail
  refine hR2.mono ?_
  rintro e w23 ⟨S, v2, e, fl, a', c', av2, cv2, mid, rfl, hIs, -, -, -, -, -, -, hb⟩
  have hB23 : Below w.heap.size w w23 := hB22.trans (hb.mono hB22.size)
  have hD23 : Below w14.heap.size w14 w23 := hD22.trans (hb.mono hD22.size)
  obtain ⟨rfl, rfl⟩ := x15_ever hIs
  obtain ⟨wz, w24, hWz, hW24, hx2, hb4, hl2, hz⟩ := obox6 w23 (.int .i64 v2.k) (.int .i64 v2.n) (.string ⟨v2.t.toArray⟩) (.slice av2 v2.l.length cv2) (.int .i64 54) (.int .i64 0)
  have hB24 : Below w.heap.size w w24 := hB23.trans (hb4.mono hB23.size)
  have hD24 : Below w14.heap.size w14 w24 := hD23.trans (hb4.mono hD23.size)
  obtain ⟨z0, z1, z2, z3, z4, z5, zl⟩ := cells_k6 hz
  obtain ⟨f0, f1, f2, f3, f4, f5⟩ := fz6 hz
  have Hx12 : Hid (w24.heap[w13.heap.size]? = some (ouO (.int .i64 (nV 7).k) (.int .i64 (nV 7).n) (.string ⟨(nV 7).t.toArray⟩) (.slice av1 (nV 7).l.length cv1) (.int .i64 0) (.int .i64 9))) := (hD24.block _ (Array.getElem?_eq_some_iff.1 Hx11.out).1).trans Hx11.out
  have Hx22 : Hid (w24.heap[w23.heap.size]? = some (ouO (.int .i64 v2.k) (.int .i64 v2.n) (.string ⟨v2.t.toArray⟩) (.slice av2 v2.l.length cv2) (.int .i64 54) (.int .i64 0))) := hx2
  clear hR2 hIs hz hb hb4 hx2 hD21 hD22 hD23 hD24
  obtain ⟨w31, hW31⟩ : ∃ w', w24.alloc (.cells #[.int .i64 1, .int .i64 0, .int .i64 14, .int .i64 0, .int .i64 10, .int .i64 0] 48) = w' := ⟨_, rfl⟩
  have hb31 : Below w24.heap.size w24 w31 := by rw [← hW31]; exact (Below.refl _ _).alloc (Nat.le_refl _) _
  have hI3 : IsIs (fun _ => True) w31 [⟨1, 0⟩, ⟨14, 0⟩, ⟨10, 0⟩] (.slice (some ⟨w24.heap.size, 0, none⟩) 3 3) := by
    rw [← hW31]
    exact is15_new (l := [⟨1, 0⟩, ⟨14, 0⟩, ⟨10, 0⟩]) (by simp [i0, i1, i7, i10, i14]) rfl (by omega)
  have hX3 := small15_any rfl hI3
  have hB31 : Below w.heap.size w w31 := hB24.trans (hb31.mono hB24.size)
  have hD31 : Below w24.heap.size w24 w31 := hb31
  clear hI3 hb31
  go_wp2_with fail
  clear hWz hW24 z0 z1 z2 z3 z4 z5 zl f0 f1 f2 f3 f4 f5
  refine hX3.mono ?_
  rintro e w32 ⟨⟨a1, a2, rfl, hm⟩, hb⟩
  have hB32 : Below w.heap.size w w32 := hB31.trans (hb.mono hB31.size)
  have hD32 : Below w24.heap.size w24 w32 := hD31.trans (hb.mono hD31.size)
  have hR3 := ex15_any hm (by decide) (Ht.out.at hB32)
  clear hX3 hW31 hm hb
  go_wp2_with fail
  refine hR3.mono ?_
  rintro e w33 ⟨S, v3, e, fl, a', c', av3, cv3, mid, rfl, hIs, -, -, -, -, -, -, hb⟩
  have hB33 : Below w.heap.size w w33 := hB32.trans (hb.mono hB32.size)
  have hD33 : Below w24.heap.size w24 w33 := hD32.trans (hb.mono hD32.size)
  obtain ⟨rfl, rfl⟩ := x15_wrong hIs
  obtain ⟨wz, w34, hWz, hW34, hx3, hb4, hl3, hz⟩ := obox6 w33 (.int .i64 v3.k) (.int .i64 v3.n) (.string ⟨v3.t.toArray⟩) (.slice av3 v3.l.length cv3) (.int .i64 40) (.int .i64 9)
  have hB34 : Below w.heap.size w w34 := hB33.trans (hb4.mono hB33.size)
  have hD34 : Below w24.heap.size w24 w34 := hD33.trans (hb4.mono hD33.size)
  obtain ⟨z0, z1, z2, z3, z4, z5, zl⟩ := cells_k6 hz
  obtain ⟨f0, f1, f2, f3, f4, f5⟩ := fz6 hz
  have Hx13 : Hid (w34.heap[w13.heap.size]? = some (ouO (.int .i64 (nV 7).k) (.int .i64 (nV 7).n) (.string ⟨(nV 7).t.toArray⟩) (.slice av1 (nV 7).l.length cv1) (.int .i64 0) (.int .i64 9))) := (hD34.block _ (Array.getElem?_eq_some_iff.1 Hx12.out).1).trans Hx12.out
  have Hx23 : Hid (w34.heap[w23.heap.size]? = some (ouO (.int .i64 v2.k) (.int .i64 v2.n) (.string ⟨v2.t.toArray⟩) (.slice av2 v2.l.length cv2) (.int .i64 54) (.int .i64 0))) := (hD34.block _ (Array.getElem?_eq_some_iff.1 Hx22.out).1).trans Hx22.out
  have Hx33 : Hid (w34.heap[w33.heap.size]? = some (ouO (.int .i64 v3.k) (.int .i64 v3.n) (.string ⟨v3.t.toArray⟩) (.slice av3 v3.l.length cv3) (.int .i64 40) (.int .i64 9))) := hx3
  obtain ⟨q0, q1, q2, q3, q4, q5, ql⟩ := cells_k6 Hx13.out
  obtain ⟨r0, r1, r2, r3, r4, r5, rl⟩ := cells_k6 Hx23.out
  obtain ⟨t0, t1, t2, t3, t4, t5, tl⟩ := cells_k6 Hx33.out
  have hfin : Hid (Below w.heap.size w w34) := hB34
  have hn7 : (nV 7).n = 7 := rfl
  rw [hn7] at q1
  clear hn7 hR3 hIs hz hb hb4 hx3 hD31 hD32 hD33 hD34 hB34 hB33 hB32 hB31 hB24 hB23 hB22 hB21 hB14 hB13 hB12 hB11 hB0 Ht i0 i1 i7 i10 i14 hl1 hl2 hl3
  go_wp2_with fail
  go_ret
  exact ⟨ret_bool (by simp), hfin.out⟩
end Go.Proofs.YtnijcolomoobnaaGreatDoor
namespace Go.Proofs.YtnijcolomoobnaaGreatDoor
open Go.RowKit
set_option linter.unusedVariables false
set_option linter.unusedSimpArgs false

def Cnt15 (g m : Nat) (w : World) (v : V) (r : Ending) (w' : World) : Prop :=
  (if m + wt v ≤ 16384 then r = .returned (.bool false) ∧ w'.heap[g]? = some (.cells #[.int .i64 ((m + wt v : Nat) : Int)] 3 (0, 0)) else r = .returned (.bool true)) ∧ But g w w'
set_option maxRecDepth 100000 in
set_option maxHeartbeats 2000000 in
theorem count15_any : ∀ (N : Nat) (v : V) (ao : Option Addr) (cap : Nat) (g m : Nat) (w : World), wt v < N → SzV v → m ≤ 16384 → IsW (fun k => k ≠ g) w v (.slice ao v.l.length cap) → w.heap[g]? = some (.cells #[.int .i64 (m : Int)] 3 (0, 0)) →
    Calls Tryz.prog 20 #[.agg #[.int .i64 v.k, .int .i64 v.n, .string ⟨v.t.toArray⟩, .slice ao v.l.length cap], .pointer (some ⟨g, 0, none⟩)] w fun r w' => Cnt15 g m w v r w' := by
  intro N
  induction N with
  | zero => intro v ao cap g m w h; omega
  | succ N ih =>
    intro v ao cap g m w hN hsv hm hv hg
    obtain ⟨ao', cap', e, c1, c2⟩ := hv.vs.slice
    simp only [Value.slice.injEq] at e
    obtain ⟨rfl, -, rfl⟩ := e
    have hwt := wt_eq v
    obtain ⟨hst, hsl⟩ := (szV_eq v).1 hsv
    obtain ⟨w0, hW, hb0, hsz, d0, d1, d2, d3⟩ := boxed w v (.slice ao v.l.length cap)
    have hgl : g < w.heap.size := (Array.getElem?_eq_some_iff.1 hg).1
    have hg0 : w0.heap[g]? = some (.cells #[.int .i64 (m : Int)] 3 (0, 0)) := (hb0.block g hgl).trans hg
    have k0 := cell_of_one hg0
    have f0 : w0.frozen? ⟨g, 0, none⟩ = false := by simp [World.frozen?, hg0]
    have IH : Hid (∀ (v : V) (ao : Option Addr) (cap : Nat) (g m : Nat) (w : World), wt v < N → SzV v → m ≤ 16384 → IsW (fun k => k ≠ g) w v (.slice ao v.l.length cap) → w.heap[g]? = some (.cells #[.int .i64 (m : Int)] 3 (0, 0)) →
      Calls Tryz.prog 20 #[.agg #[.int .i64 v.k, .int .i64 v.n, .string ⟨v.t.toArray⟩, .slice ao v.l.length cap], .pointer (some ⟨g, 0, none⟩)] w fun r w' => Cnt15 g m w v r w') := ih
    clear ih
    go_enter Tryz.func20, Tryz.ntmps20
    go_wp2_with fail
    go_region
    obtain ⟨w1, hW1⟩ : ∃ w1, (w0.setCell ⟨g, 0, none⟩ (.int .i64 ((m : Int) + (1 + (v.t.length : Int))))).drew = w1 := ⟨_, rfl⟩
    rw [hW1]
    have hB1 : But g w w1 := by
      rw [← hW1]; exact ((But.of hb0).trans (But.set _)).drew
    have hg1 : w1.heap[g]? = some (.cells #[.int .i64 ((m + 1 + v.t.length : Nat) : Int)] 3 (0, 0)) := by
      rw [← hW1]
      have := setCell_block hg0 0 (.int .i64 ((m : Int) + (1 + (v.t.length : Int))))
      have e : ((m + 1 + v.t.length : Nat) : Int) = (m : Int) + (1 + (v.t.length : Int)) := by omega
      rw [e]; exact this
    have e3 : w1.cell? ⟨w.heap.size, 3, none⟩ = some (.slice ao v.l.length cap) := by
      rw [← hW1]
      show (w0.setCell ⟨g, 0, none⟩ _).cell? ⟨w.heap.size, 3, none⟩ = _
      rw [World.cell?_of_block (w := w0) (Below.heap_setCell _ _ _ _ (by show w.heap.size ≠ g; omega))]
      exact d3
    have k1 := cell_of_one hg1
    have hgl1 : g < w1.heap.size := (Array.getElem?_eq_some_iff.1 hg1).1
    clear hW1 hW d0 d1 d2 d3 k0 f0 hg0
    simp only [Exit.then]
    refine ‹∀ (a : Act) (w : World), _ → _› _ _ ?_
    by_cases hbig : 16384 < m + 1 + v.t.length
    · have hbigI : (16384 : Int) < ((m + 1 + v.t.length : Nat) : Int) := by omega
      have hfin : Cnt15 g m w v (.returned (.bool true)) w1 := ⟨by rw [if_neg (by omega)], hB1⟩
      clear hg1 hg hv hsl
      generalize ((m + 1 + v.t.length : Nat) : Int) = z at *
      go_wp2
      go_ret
      exact hfin
    · have hbigI : ¬ (16384 : Int) < ((m + 1 + v.t.length : Nat) : Int) := by omega
      have hround : ∀ (q mq : Nat) (wr : World), q < v.l.length → But g w wr → mq ≤ 16384 → wr.heap[g]? = some (.cells #[.int .i64 (mq : Int)] 3 (0, 0)) →
          ∃ x gx o ax cx, v.l[q]? = some x ∧ ao = some ⟨gx, o, none⟩ ∧ gx < wr.heap.size ∧ wr.cell? ⟨gx, o + q * 4, none⟩ = some (.int .i64 x.k) ∧ wr.cell? ⟨gx, o + q * 4 + 1, none⟩ = some (.int .i64 x.n) ∧ wr.cell? ⟨gx, o + q * 4 + 2, none⟩ = some (.string ⟨x.t.toArray⟩) ∧ wr.cell? ⟨gx, o + q * 4 + 3, none⟩ = some (.slice ax x.l.length cx) ∧
            ∀ w2, Below wr.heap.size wr w2 → Calls Tryz.prog 20 #[.agg #[.int .i64 x.k, .int .i64 x.n, .string ⟨x.t.toArray⟩, .slice ax x.l.length cx], .pointer (some ⟨g, 0, none⟩)] w2 fun r w' => Cnt15 g mq w2 x r w' := by
        intro q mq wr hq hB hmq hgr
        have hx : v.l[q]? = some v.l[q] := List.getElem?_eq_getElem hq
        obtain ⟨gx, o, ax, cx, e, _, hgx, c0, c1, c2, c3, hw⟩ := (hv.vs.since hB.since).get hx
        refine ⟨v.l[q], gx, o, ax, cx, hx, e, hgx, c0, c1, c2, c3, fun w2 hb2 => ?_⟩
        have := wts_get hx
        exact IH.out _ _ _ g mq w2 (by omega) (hsl.mem (List.getElem_mem hq)) hmq (hw.below hb2) ((hb2.block g (Array.getElem?_eq_some_iff.1 hgr).1).trans hgr)
      clear IH hv hsl hg
      go_wp2_with fail
      go_loopg [23] v.l.length (fun gh i wr => ∃ q : Nat, q ≤ v.l.length ∧ gh = v.l.length - q ∧ i = .int .i64 q ∧ m + 1 + v.t.length + wts (v.l.take q) ≤ 16384 ∧ Hid (wr.heap[g]? = some (.cells #[.int .i64 ((m + 1 + v.t.length + wts (v.l.take q) : Nat) : Int)] 3 (0, 0))) ∧ But g w wr)
      case atStart => exact ⟨0, by omega, rfl, rfl, by simp [wts]; omega, by show w1.heap[g]? = _; simpa [wts] using hg1, hB1⟩
      case round =>
        clear hg1 hB1 k1 hgl1 e3
        obtain ⟨q, hq, rfl, rfl, hmq, HG, hB⟩ := hrel
        by_cases hlt : q < v.l.length
        · obtain ⟨x, gx, o, ax, cx, hx, rfl, hgx, c0, c1, c2, c3, hcall⟩ := hround q _ wr hlt hB hmq HG.out
          have hltI : (q : Int) < (v.l.length : Int) := by omega
          have hs := wts_take_succ hx
          have hs2 := wts_take_le v.l (q + 1)
          have hba : Below wr.heap.size wr (wr.alloc (.cells #[.int .i64 x.k, .int .i64 x.n, .string ⟨x.t.toArray⟩, .slice ax x.l.length cx] 31)) := (Below.refl _ _).alloc (Nat.le_refl _) _
          replace hcall := hcall _ hba
          clear hround hx HG
          by_cases hfit : m + 1 + v.t.length + wts (v.l.take q) + wt x ≤ 16384
          · go_wp2_with fail
            refine hcall.mono ?_
            rintro e w3 ⟨h3, hb3⟩
            rw [if_pos hfit] at h3
            obtain ⟨rfl, hg3⟩ := h3
            have HG3 : Hid (w3.heap[g]? = some (.cells #[.int .i64 ((m + 1 + v.t.length + wts (v.l.take (q + 1)) : Nat) : Int)] 3 (0, 0))) := by
              show _ = _
              rw [hs, ← Nat.add_assoc]; exact hg3
            have hB3 : But g w w3 := hB.trans ((But.of hba).trans hb3)
            have hle3 : m + 1 + v.t.length + wts (v.l.take (q + 1)) ≤ 16384 := by omega
            clear hcall hg3 hs hs2 hfit
            go_wp2_with fail
            go_roundg (v.l.length - (q + 1))
            case measure => omega
            case rel => exact ⟨q + 1, by omega, rfl, by go_num, hle3, HG3, hB3⟩
          · go_wp2_with fail
            refine hcall.mono ?_
            rintro e w3 ⟨h3, hb3⟩
            rw [if_neg hfit] at h3
            subst h3
            have hB3 : But g w w3 := hB.trans ((But.of hba).trans hb3)
            have hfin : Cnt15 g m w v (.returned (.bool true)) w3 := ⟨by rw [if_neg (by omega)], hB3⟩
            clear hcall hs hs2 hfit
            go_wp2
            go_ret
            exact hfin
        · have hltI : ¬ (q : Int) < (v.l.length : Int) := by omega
          have hqe : q = v.l.length := by omega
          have hfin : Cnt15 g m w v (.returned (.bool false)) wr := by
            have h1 := HG.out
            rw [hqe, List.take_length] at h1 hmq
            have e : m + 1 + v.t.length + wts v.l = m + wt v := by omega
            rw [e] at h1 hmq
            exact ⟨by rw [if_pos hmq]; exact ⟨rfl, h1⟩, hB⟩
          clear hround HG hqe
          go_wp2
          go_ret
          exact hfin
end Go.Proofs.YtnijcolomoobnaaGreatDoor
