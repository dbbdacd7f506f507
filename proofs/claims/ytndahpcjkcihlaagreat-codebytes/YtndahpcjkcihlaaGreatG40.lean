/- Texts of ours, joined: Kwk, Jo, Jp. -/
import Derived.Test.YtndahpcjkcihlaaGreatG38
import Derived.Test.YtndahpcjkcihlaaGreatG39
import Derived.Test.YtndahpcjkcihlaaGreatG37
import Derived.Test.YtndahpcjkcihlaaGreatG28
/- The document's examples: what they are, and that wakes answers true. -/
namespace Go.Proofs.YtndahpcjkcihlaaGreat
open Go.RowKit
set_option linter.unusedVariables false
set_option linter.unusedSimpArgs false
attribute [local go_sem ↓] Go.wp_at_zero Go.wp_at_succ

def exM (l : List In) : Md := ⟨[.mk 1 7 [] []], [⟨0, 0, 0, 1, l⟩]⟩
theorem ex_con : ctype (.mk 1 7 [] []) ≠ [] := by
  have h : fitS (tyT .int) (.mk 1 7 [] []) = true := by
    unfold fitS
    rw [shpS_ty (by decide), shpB_iff.2 (by rw [Shp]; exact ⟨rfl, rfl, rfl⟩)]
    simp [wt, wts]
  have ht : tys = tyT .int :: tys.tail := rfl
  unfold ctype
  rw [if_pos (show (V.mk 1 7 [] []).l = [] from rfl), ht, List.find?_cons_of_pos (p := fun t => fitS t (.mk 1 7 [] [])) h]
  decide
theorem ex_fun {l : List In} {n : Nat} {f : Fu} (h : (exM l).funcs[n]? = some f) : n = 0 ∧ f = ⟨0, 0, 0, 1, l⟩ := by
  rcases n with _ | n
  · exact ⟨rfl, (Option.some.inj h).symm⟩
  · simp [exM] at h
theorem ex_run : Run (exM [⟨1, 0⟩, ⟨10, 0⟩]) 0 := by
  refine ⟨⟨by decide, by decide⟩, ⟨by decide, by decide⟩, fun v hv => ?_, fun n f hf => ?_⟩
  · simp only [exM, List.mem_cons, List.not_mem_nil, or_false] at hv
    subst hv
    exact ex_con
  · obtain ⟨rfl, rfl⟩ := ex_fun hf
    refine ⟨by unfold NumOk; simp [exM], fun i hi => ?_, ⟨fun p => if p = 0 then some 0 else if p = 1 then some 1 else none, rfl, fun p x hx => ?_⟩⟩
    · simp only [List.mem_cons, List.not_mem_nil, or_false] at hi
      rcases hi with rfl | rfl <;> rfl
    · rcases p with _ | _ | p
      · obtain rfl : (0 : Int) = x := Option.some.inj hx
        exact ⟨_, rfl, by decide, by decide, fun q hq => by
          have : q ∈ [1] := hq
          simp only [List.mem_cons, List.not_mem_nil, or_false] at this
          subst this
          rfl⟩
      · obtain rfl : (1 : Int) = x := Option.some.inj hx
        exact ⟨_, rfl, by decide, by decide, fun q hq => by
          have : q ∈ ([] : List Nat) := hq
          simp at this⟩
      · simp at hx
theorem ex_no1 : ¬ Run (exM [⟨1, 0⟩]) 0 := fun h => by
  obtain ⟨H, L⟩ := (h.fun_ 0 _ rfl).walk
  obtain ⟨i, e, -, -, h1⟩ := L.step 0 0 L.zero
  cases e
  have h2 := h1 1 (by show 1 ∈ [1]; simp)
  obtain ⟨j, e, -⟩ := L.step 1 _ h2
  cases e
theorem ex_no2 : ¬ Run (exM [⟨10, 0⟩]) 0 := fun h => by
  obtain ⟨H, L⟩ := (h.fun_ 0 _ rfl).walk
  obtain ⟨i, e, h0, -⟩ := L.step 0 0 L.zero
  cases e
  exact absurd h0 (by decide)
theorem ex_no3 : ¬ Run (exM [⟨1, 0⟩, ⟨7, 0⟩]) 0 := fun h => by
  obtain ⟨H, L⟩ := (h.fun_ 0 _ rfl).walk
  obtain ⟨i, e, -, -, h1⟩ := L.step 0 0 L.zero
  cases e
  have h2 := h1 1 (by show 1 ∈ [1]; simp)
  obtain ⟨j, e, -, -, h3⟩ := L.step 1 _ h2
  cases e
  have h4 := h3 0 (by show 0 ∈ [0]; simp)
  rw [L.zero] at h4
  exact absurd (Option.some.inj h4) (by decide)
theorem ex_enc : encM (exM [⟨1, 0⟩, ⟨10, 0⟩]) = [1, 1, 1, 0, 7, 0, 0, 0, 1, 2, 1, 0, 10, 0] := by
  simp [encM, exM, eC, eF, xsF, nInt, eI, enc, encs, V.k, num_lt]
theorem ex_fit {l : List In} (hl : l.length ≤ 2) : Fit (exM l) := ⟨fun v hv => by
  simp only [exM, List.mem_cons, List.not_mem_nil, or_false] at hv
  subst hv
  simp [wt, wts], by simp [exM], by simp [exM], fun f hf => by
  simp only [exM, List.mem_cons, List.not_mem_nil, or_false] at hf
  subst hf
  show l.length ≤ _
  omega⟩
/-- A row in a block that was just laid down. -/
theorem slrow_new {w : World} {g : Nat} {arr : List Value} {T : TypeId} {n sz : Nat} (h : w.heap[g]? = some (.cells arr.toArray T (0, 0))) (hl : arr.length = n * sz) (hn : n ≤ maxLen) : SlRow (fun _ => True) w sz (.slice (some ⟨g, 0, none⟩) n n) n arr :=
  ⟨hl, Or.inr ⟨g, 0, n, rfl, Nat.le_refl _, hn, trivial, (Array.getElem?_eq_some_iff.1 h).1, fun j u hj => by
    rw [Nat.zero_add]
    simpa [World.cell?, h] using hj⟩⟩
def ExPost13 (l : List In) (w : World) (e : Ending) (w' : World) : Prop := (∃ a1 a2, e = .returned (.agg #[.slice a1 1 1, .slice a2 1 1]) ∧ IsMd (fun _ => True) w' (exM l) (.slice a1 1 1) (.slice a2 1 1)) ∧ Below w.heap.size w w'
set_option maxRecDepth 100000 in
set_option maxHeartbeats 4000000 in
theorem example_any {w : World} {l : List In} {a : Option Addr} {c N : Nat} (hN : l.length = N) (hi : IsIs (fun _ => True) w l (.slice a N c)) :
    Calls Tryz.prog 11 #[.slice a N c] w fun e w' => ExPost13 l w e w' := by
  obtain ⟨w0, hW0, hb0, -, hx0⟩ := box2 w (.slice none 0 0) (.slice none 0 0) 25
  obtain ⟨w1, hW1⟩ : ∃ w1, w0.alloc (.cells #[.int .i64 1, .int .i64 7, .string ⟨#[]⟩, .slice none 0 0] 44) = w1 := ⟨_, rfl⟩
  have hb1 : Below w0.heap.size w0 w1 := by rw [← hW1]; exact (Below.refl _ _).alloc (Nat.le_refl _) _
  have hx1 : w1.heap[w0.heap.size]? = some (.cells #[.int .i64 1, .int .i64 7, .string ⟨#[]⟩, .slice none 0 0] 44 (0, 0)) := by rw [← hW1]; exact heap_new _ _
  obtain ⟨w2, hW2⟩ : ∃ w2, w1.alloc (.cells #[.int .i64 0, .int .i64 0, .int .i64 0, .int .i64 1, .slice a N c] 42) = w2 := ⟨_, rfl⟩
  have hb2 : Below w1.heap.size w1 w2 := by rw [← hW2]; exact (Below.refl _ _).alloc (Nat.le_refl _) _
  have hx2 : w2.heap[w1.heap.size]? = some (.cells #[.int .i64 0, .int .i64 0, .int .i64 0, .int .i64 1, .slice a N c] 42 (0, 0)) := by rw [← hW2]; exact heap_new _ _
  have hl0 : w.heap.size < w0.heap.size := (Array.getElem?_eq_some_iff.1 hx0).1
  have hl1 : w0.heap.size < w1.heap.size := (Array.getElem?_eq_some_iff.1 hx1).1
  have hl2 : w1.heap.size < w2.heap.size := (Array.getElem?_eq_some_iff.1 hx2).1
  have hB2 : Below w.heap.size w w2 := hb0.trans ((hb1.mono hb0.size).trans (hb2.mono (by omega)))
  have hxr := (hb2.block _ (by omega)).trans ((hb1.block _ hl0).trans hx0)
  obtain ⟨p0, p1, o0, o1, hlp⟩ := cells_k2 hxr
  obtain ⟨w3, hW3, hx3, hB3, hs3, hk3⟩ := resW hxr hB2 (.slice (some ⟨w0.heap.size, 0, none⟩) 1 1) (.slice (some ⟨w1.heap.size, 0, none⟩) 1 1)
  obtain ⟨t0, t1, -, -, hlt⟩ := cells_k2 hx3
  have hy1 := (hk3 _ (by omega)).trans ((hb2.block _ hl1).trans hx1)
  have hy2 := (hk3 _ (by omega)).trans hx2
  have hpost : ExPost13 l w (.returned (.agg #[.slice (some ⟨w0.heap.size, 0, none⟩) 1 1, .slice (some ⟨w1.heap.size, 0, none⟩) 1 1])) w3 := by
    have i0 : InR 0 := by constructor <;> decide
    have i1 : InR 1 := by constructor <;> decide
    have i7 : InR 7 := by constructor <;> decide
    have hi3 : IsIs (fun _ => True) w3 l (.slice a N c) := (hi.base (B' := fun k => k < w.heap.size) (fun k _ h => h)).since ⟨hB3.size, fun k hk _ => hB3.block k hk⟩ |>.base (fun _ _ _ => trivial)
    refine ⟨⟨_, _, rfl, ⟨_, slrow_new (arr := [.int .i64 1, .int .i64 7, .string ⟨#[]⟩, .slice none 0 0]) hy1 rfl (by unfold maxLen; omega), ?_⟩, ⟨_, slrow_new (arr := [.int .i64 0, .int .i64 0, .int .i64 0, .int .i64 1, .slice a N c]) hy2 rfl (by unfold maxLen; omega), ?_⟩⟩, hB3⟩
    · exact AllV.one (isV_iff.2 ⟨_, rfl, Nat.zero_le _, i1, i7, IsVs.nil⟩)
    · refine ⟨_, [], (List.append_nil _).symm, ⟨a, c, ?_, i0, i0, i0, i1, ?_⟩, rfl⟩
      · simp [hN]
      · show IsIs _ w3 l (.slice a l.length c)
        rw [hN]; exact hi3
  clear hi hb0 hb1 hb2 hx0 hx1 hx2 hB2 hxr hx3 hB3 hs3 hk3 hy1 hy2
  go_enter Tryz.func11, Tryz.ntmps11
  go_wp2_with fail
  exact bodyPost_ret (v := .agg #[.slice (some ⟨w0.heap.size, 0, none⟩) 1 1, .slice (some ⟨w1.heap.size, 0, none⟩) 1 1]) (by simp [results, Tryz.results11, go_sem, hlt, t0, t1]) rfl hpost
theorem is_new {w : World} {l : List In} (hr : ∀ i ∈ l, InR i.op ∧ InR i.a) {n : Nat} (hn : l.length = n) (hl : n ≤ 100) : IsIs (fun _ => True) (w.alloc (.cells (l.flatMap inCells).toArray 38)) l (.slice (some ⟨w.heap.size, 0, none⟩) n n) := by
  subst hn
  exact ⟨slrow_new (heap_new _ _) (inRow_len' l) (by unfold maxLen; omega), hr⟩
theorem ver_ex (hVr : VerOk) {l : List In} (hl : l.length ≤ 2) {a1 a2 : Option Addr} {w : World} (hm : IsMd (fun _ => True) w (exM l) (.slice a1 1 1) (.slice a2 1 1)) (hno : ¬ Run (exM l) 0) : Calls Tryz.prog 12 #[.agg #[.slice a1 1 1, .slice a2 1 1], .int .i64 0] w fun e w' => e = .returned (.int .i64 40) ∧ Below w.heap.size w w' := by
  have h := hVr _ (exM l) a1 a2 1 1 w 0 hm (ex_fit hl) (by constructor <;> decide)
  rw [vfy_no hno] at h
  exact h
set_option maxRecDepth 100000 in
set_option maxHeartbeats 4000000 in
theorem wakes_of (hEn : EncOk) (hVr : VerOk) : WakeOk := by
  intro w
  have i0 : InR 0 := by constructor <;> decide
  have i1 : InR 1 := by constructor <;> decide
  have i7 : InR 7 := by constructor <;> decide
  have i10 : InR 10 := by constructor <;> decide
  obtain ⟨w1, hW1⟩ : ∃ w1, w.alloc (.cells #[.int .i64 1, .int .i64 0, .int .i64 10, .int .i64 0] 38) = w1 := ⟨_, rfl⟩
  have hb1 : Below w.heap.size w w1 := by rw [← hW1]; exact (Below.refl _ _).alloc (Nat.le_refl _) _
  have hI1 : IsIs (fun _ => True) w1 [⟨1, 0⟩, ⟨10, 0⟩] (.slice (some ⟨w.heap.size, 0, none⟩) 2 2) := by
    rw [← hW1]
    exact is_new (l := [⟨1, 0⟩, ⟨10, 0⟩]) (by simp [i0, i1, i10]) rfl (by omega)
  have hX1 := example_any rfl hI1
  have HE : Hid EncOk := hEn
  have HV : Hid VerOk := hVr
  clear hEn hVr hI1
  go_enter Tryz.func4, Tryz.ntmps4
  go_wp2_with fail
  refine hX1.mono ?_
  rintro e w2 ⟨⟨a1, a2, rfl, hm2⟩, hb2⟩
  have hE : Calls Tryz.prog 6 #[.agg #[.slice a1 1 1, .slice a2 1 1], .int .i64 0] w2 fun e w' => OutE w2 (encE (exM [⟨1, 0⟩, ⟨10, 0⟩]) 0) e w' := HE.out _ (exM [⟨1, 0⟩, ⟨10, 0⟩]) a1 a2 1 1 w2 0 hm2 (ex_fit (by decide)) (by decide) (by decide) i0
  have he : encE (exM [⟨1, 0⟩, ⟨10, 0⟩]) 0 = ([1, 1, 1, 0, 7, 0, 0, 0, 1, 2, 1, 0, 10, 0], 0) := by unfold encE; rw [if_pos ex_run, ex_enc]
  rw [he] at hE
  have hB2 : Below w.heap.size w w2 := hb1.trans (hb2.mono hb1.size)
  clear hX1 hW1 hm2 he hb1 hb2
  go_wp2_with fail
  refine hE.mono ?_
  rintro e w3 ⟨⟨a3, N3, c3, rfl, hO3⟩, hb3⟩
  have hB3 : Below w.heap.size w w3 := hB2.trans (hb3.mono hB2.size)
  have hs3 : (convert 26 9 (.slice a3 N3 c3)).run Tryz.prog w3 = .ok (.string ⟨#[1, 1, 1, 0, 7, 0, 0, 0, 1, 2, 1, 0, 10, 0]⟩) w3 := by rw [hO3.1]; exact str_b (owns_b hO3.2)
  obtain ⟨w4, hW4⟩ : ∃ w4, w3.alloc (.cells #[.int .i64 1, .int .i64 0] 38) = w4 := ⟨_, rfl⟩
  have hb4 : Below w3.heap.size w3 w4 := by rw [← hW4]; exact (Below.refl _ _).alloc (Nat.le_refl _) _
  have hI4 : IsIs (fun _ => True) w4 [⟨1, 0⟩] (.slice (some ⟨w3.heap.size, 0, none⟩) 1 1) := by
    rw [← hW4]
    exact is_new (l := [⟨1, 0⟩]) (by simp [i0, i1]) rfl (by omega)
  have hX := example_any rfl hI4
  clear hE hO3 hb3 hB2 hI4
  go_wp2_with fail
  refine hX.mono ?_
  rintro e w5 ⟨⟨b1, b2, rfl, hm5⟩, hb5⟩
  have hB5 : Below w.heap.size w w5 := hB3.trans ((hb4.mono hB3.size).trans (hb5.mono (by have := hb4.size; have := hB3.size; omega)))
  have hV := ver_ex HV.out (by decide) hm5 ex_no1
  clear hX hW4 hm5 hb4 hb5 hB3 hs3
  go_wp2_with fail
  refine hV.mono ?_
  rintro e w6 ⟨rfl, hb6⟩
  have hB6 : Below w.heap.size w w6 := hB5.trans (hb6.mono hB5.size)
  obtain ⟨w7, hW7⟩ : ∃ w7, w6.alloc (.cells #[.int .i64 10, .int .i64 0] 38) = w7 := ⟨_, rfl⟩
  have hb7 : Below w6.heap.size w6 w7 := by rw [← hW7]; exact (Below.refl _ _).alloc (Nat.le_refl _) _
  have hI7 : IsIs (fun _ => True) w7 [⟨10, 0⟩] (.slice (some ⟨w6.heap.size, 0, none⟩) 1 1) := by
    rw [← hW7]
    exact is_new (l := [⟨10, 0⟩]) (by simp [i0, i10]) rfl (by omega)
  have hX := example_any rfl hI7
  clear hV hb6 hB5 hI7
  go_wp2_with fail
  refine hX.mono ?_
  rintro e w8 ⟨⟨d1, d2, rfl, hm8⟩, hb8⟩
  have hB8 : Below w.heap.size w w8 := hB6.trans ((hb7.mono hB6.size).trans (hb8.mono (by have := hb7.size; have := hB6.size; omega)))
  have hV := ver_ex HV.out (by decide) hm8 ex_no2
  clear hX hW7 hm8 hb7 hb8 hB6
  go_wp2_with fail
  refine hV.mono ?_
  rintro e w9 ⟨rfl, hb9⟩
  have hB9 : Below w.heap.size w w9 := hB8.trans (hb9.mono hB8.size)
  obtain ⟨wA, hWA⟩ : ∃ wA, w9.alloc (.cells #[.int .i64 1, .int .i64 0, .int .i64 7, .int .i64 0] 38) = wA := ⟨_, rfl⟩
  have hbA : Below w9.heap.size w9 wA := by rw [← hWA]; exact (Below.refl _ _).alloc (Nat.le_refl _) _
  have hIA : IsIs (fun _ => True) wA [⟨1, 0⟩, ⟨7, 0⟩] (.slice (some ⟨w9.heap.size, 0, none⟩) 2 2) := by
    rw [← hWA]
    exact is_new (l := [⟨1, 0⟩, ⟨7, 0⟩]) (by simp [i0, i1, i7]) rfl (by omega)
  have hX := example_any rfl hIA
  clear hV hb9 hB8 hIA
  go_wp2_with fail
  refine hX.mono ?_
  rintro e wB ⟨⟨g1, g2, rfl, hmB⟩, hbB⟩
  have hBB : Below w.heap.size w wB := hB9.trans ((hbA.mono hB9.size).trans (hbB.mono (by have := hbA.size; have := hB9.size; omega)))
  have hV := ver_ex HV.out (by decide) hmB ex_no3
  clear hX hWA hmB hbA hbB hB9
  go_wp2_with fail
  refine hV.mono ?_
  rintro e wC ⟨rfl, hbC⟩
  have hBC : Below w.heap.size w wC := hBB.trans (hbC.mono hBB.size)
  clear hV hbC hBB
  go_wp2
  go_ret
  exact ⟨ret_bool (by simp), hBC⟩
end Go.Proofs.YtndahpcjkcihlaaGreat
/- The examples come true. -/
namespace Go.Proofs.YtndahpcjkcihlaaGreat
theorem wake_ok : WakeOk := wakes_of enc_ok ver_ok
end Go.Proofs.YtndahpcjkcihlaaGreat
/- Constants and instructions read: the program's. -/
namespace Go.Proofs.YtndahpcjkcihlaaGreat
open Go.RowKit
set_option linter.unusedVariables false
set_option linter.unusedSimpArgs false
attribute [local go_sem ↓] Go.wp_at_zero Go.wp_at_succ

/-- What is answered through a box of four, two, five cells. -/
theorem resV {w wq : World} {r : Nat} {st : RSt} {y0 y1 y2 y3 : Value} {T : TypeId} (hx : wq.heap[w.heap.size]? = some (.cells #[y0, y1, y2, y3] T (0, 0))) (ho : Only r w wq) (hr : RdS wq r st) (hrl : r < w.heap.size) (x0 x1 x2 x3 : Value) : ∃ wN, (((wq.setCell ⟨w.heap.size, 0, none⟩ x0).setCell ⟨w.heap.size, 1, none⟩ x1).setCell ⟨w.heap.size, 2, none⟩ x2).setCell ⟨w.heap.size, 3, none⟩ x3 = wN ∧ wN.heap[w.heap.size]? = some (.cells #[x0, x1, x2, x3] T (0, 0)) ∧ Only r w wN ∧ RdS wN r st :=
  ⟨_, rfl, by simp [World.setCell, Array.getElem?_modify, hx], (((ho.setCell (Nat.le_refl _) 0 x0).setCell (Nat.le_refl _) 1 x1).setCell (Nat.le_refl _) 2 x2).setCell (Nat.le_refl _) 3 x3, (((hr.setCell hrl 0 x0).setCell hrl 1 x1).setCell hrl 2 x2).setCell hrl 3 x3⟩
theorem resI {w wq : World} {r : Nat} {st : RSt} {y0 y1 : Value} {T : TypeId} (hx : wq.heap[w.heap.size]? = some (.cells #[y0, y1] T (0, 0))) (ho : Only r w wq) (hr : RdS wq r st) (hrl : r < w.heap.size) (x0 x1 : Value) : ∃ wN, (wq.setCell ⟨w.heap.size, 0, none⟩ x0).setCell ⟨w.heap.size, 1, none⟩ x1 = wN ∧ wN.heap[w.heap.size]? = some (.cells #[x0, x1] T (0, 0)) ∧ Only r w wN ∧ RdS wN r st :=
  ⟨_, rfl, by simp [World.setCell, Array.getElem?_modify, hx], (ho.setCell (Nat.le_refl _) 0 x0).setCell (Nat.le_refl _) 1 x1, (hr.setCell hrl 0 x0).setCell hrl 1 x1⟩
theorem resF {w wq : World} {r : Nat} {st : RSt} {y0 y1 y2 y3 y4 : Value} {T : TypeId} (hx : wq.heap[w.heap.size]? = some (.cells #[y0, y1, y2, y3, y4] T (0, 0))) (ho : Only r w wq) (hr : RdS wq r st) (hrl : r < w.heap.size) (x0 x1 x2 x3 x4 : Value) : ∃ wN, ((((wq.setCell ⟨w.heap.size, 0, none⟩ x0).setCell ⟨w.heap.size, 1, none⟩ x1).setCell ⟨w.heap.size, 2, none⟩ x2).setCell ⟨w.heap.size, 3, none⟩ x3).setCell ⟨w.heap.size, 4, none⟩ x4 = wN ∧ wN.heap[w.heap.size]? = some (.cells #[x0, x1, x2, x3, x4] T (0, 0)) ∧ Only r w wN ∧ RdS wN r st ∧ wN.heap.size = wq.heap.size ∧ ∀ k, k ≠ w.heap.size → wN.heap[k]? = wq.heap[k]? :=
  ⟨_, rfl, by simp [World.setCell, Array.getElem?_modify, hx], ((((ho.setCell (Nat.le_refl _) 0 x0).setCell (Nat.le_refl _) 1 x1).setCell (Nat.le_refl _) 2 x2).setCell (Nat.le_refl _) 3 x3).setCell (Nat.le_refl _) 4 x4, ((((hr.setCell hrl 0 x0).setCell hrl 1 x1).setCell hrl 2 x2).setCell hrl 3 x3).setCell hrl 4 x4, by simp [World.setCell], fun k hk => by rw [Below.heap_setCell _ _ _ _ hk, Below.heap_setCell _ _ _ _ hk, Below.heap_setCell _ _ _ _ hk, Below.heap_setCell _ _ _ _ hk, Below.heap_setCell _ _ _ _ hk]⟩
theorem box4z (w : World) : ∃ w0, w.alloc (.cells #[.int .i64 0, .int .i64 0, .string ⟨#[]⟩, .slice none 0 0] 44) = w0 ∧ Below w.heap.size w w0 ∧ w.heap.size < w0.heap.size ∧ w0.heap[w.heap.size]? = some (.cells #[.int .i64 0, .int .i64 0, .string ⟨#[]⟩, .slice none 0 0] 44 (0, 0)) :=
  ⟨_, rfl, (Below.refl _ _).alloc (Nat.le_refl _) _, by simp, heap_new _ _⟩
set_option maxRecDepth 100000 in
set_option maxHeartbeats 1000000 in
theorem bad_any {w : World} {r : Nat} {st : RSt} (h : RdS w r st) : Calls Tryz.prog 60 #[.pointer (some ⟨r, 0, none⟩)] w fun e w' => e = .returned (.bool st.isNone) ∧ w' = w := by
  obtain ⟨sl, h1, h2⟩ := h
  obtain ⟨c0, c1, f0, f1⟩ := cells_of2 h1
  have hrl : r < w.heap.size := (Array.getElem?_eq_some_iff.1 h1).1
  clear h1 h2
  generalize st.isNone = nn at *
  go_enter Tryz.func60, Tryz.ntmps60
  go_wp2
  go_ret
  exact ⟨rfl, rfl⟩
/-- The number of a constant that is one. -/
def rdZ (st : RSt) : Int × RSt := (if (rdN st).1 = 1 then -((rdN (rdN st).2).1 : Int) - 1 else ((rdN (rdN st).2).1 : Int), (rdN (rdN st).2).2)
def CPost (w : World) (r : Nat) (x : V × RSt) (e : Ending) (w' : World) : Prop := e = .returned (.agg #[.int .i64 x.1.k, .int .i64 x.1.n, .string ⟨x.1.t.toArray⟩, .slice none 0 0]) ∧ RdS w' r x.2 ∧ Only r w w'
set_option maxRecDepth 100000 in
set_option maxHeartbeats 1000000 in
theorem lreadInt_any {w : World} {r : Nat} {st : RSt} (h : RdS w r st) : Calls Tryz.prog 61 #[.pointer (some ⟨r, 0, none⟩)] w fun e w' => CPost w r (.mk 1 (rdZ st).1 [] [], (rdZ st).2) e w' := by
  obtain ⟨w0, hW0, hb0, hl0, hx0⟩ := box4z w
  have hrl := h.lt
  have hN1 := number_any (h.keep hb0)
  have hle1 := rdN_le st
  have hle2 := rdN_le (rdN st).2
  obtain ⟨k, HK⟩ : ∃ k, Hid ((rdN st).1 = k) := ⟨_, rfl⟩
  obtain ⟨n, HN⟩ : ∃ n, Hid ((rdN (rdN st).2).1 = n) := ⟨_, rfl⟩
  obtain ⟨Z, HZ⟩ : ∃ Z, Hid ((V.mk 1 (rdZ st).1 [] [], (rdZ st).2) = Z) := ⟨_, rfl⟩
  rw [HZ.out]
  rw [HK.out] at hN1 hle1
  rw [HN.out] at hle2
  clear h
  go_enter Tryz.func61, Tryz.ntmps61
  go_wp2_with fail
  refine hN1.mono ?_
  rintro e w1 ⟨rfl, hr1, ho1⟩
  have hN2 := number_any hr1
  rw [HN.out] at hN2
  clear hN1 hr1
  go_wp2_with fail
  refine hN2.mono ?_
  rintro e w2 ⟨rfl, hr2, ho2⟩
  have ho12 : Only r w w2 := (Only.of_below hb0).trans (ho1.trans ho2)
  have hx2 := ho2.cells (Nat.lt_of_lt_of_le hl0 ho1.size) (by omega) (ho1.cells hl0 (by omega) hx0)
  clear hN2 ho1 ho2 hx0 hW0
  by_cases hk1 : k = 1
  · have hkb : ((k : Int) == 1) = true := by simp [hk1]
    have hw : IntKind.i64.wrap (-1 - (n : Int)) = -1 - (n : Int) := by rw [IntKind.wrap_i64]; omega
    have hI := int_any (-1 - (n : Int))
    have hZv : Hid (Z = (.mk 1 (-1 - (n : Int)) [] [], (rdN (rdN st).2).2)) := by
      show _ = _
      rw [← HZ.out]
      unfold rdZ
      rw [HK.out, if_pos hk1, HN.out]
      congr 2
      omega
    clear hk1
    go_wp2_with fail
    refine (hI w2).mono ?_
    rintro e w3 ⟨rfl, hb3⟩
    have ho3 := ho12.trans (Only.of_below hb3)
    have hx3 := (hb3.block _ (Array.getElem?_eq_some_iff.1 hx2).1).trans hx2
    obtain ⟨s0, s1, s2, s3, t0, t1, t2, t3⟩ := cells_of4 hx3
    obtain ⟨wN, hWN, hxN, hoN, hrN⟩ := resV hx3 ho3 (hr2.keep hb3) hrl (.int .i64 1) (.int .i64 (-1 - (n : Int))) (.string ⟨#[]⟩) (.slice none 0 0)
    obtain ⟨m0, m1, m2, m3, -⟩ := cells_of4 hxN
    have hlN : w.heap.size < wN.heap.size := (Array.getElem?_eq_some_iff.1 hxN).1
    have hl3 : w.heap.size < w3.heap.size := (Array.getElem?_eq_some_iff.1 hx3).1
    have hpost : CPost w r Z (.returned (.agg #[.int .i64 1, .int .i64 (-1 - (n : Int)), .string ⟨#[]⟩, .slice none 0 0])) wN := by rw [hZv.out]; exact ⟨rfl, hrN, hoN⟩
    clear hI hr2 ho12 ho3 hx2 hx3 hxN hb3 hoN hrN
    go_wp2_with fail
    exact bodyPost_ret (v := .agg #[.int .i64 1, .int .i64 (-1 - (n : Int)), .string ⟨#[]⟩, .slice none 0 0]) (by simp [results, Tryz.results61, go_sem, hlN, m0, m1, m2, m3]) rfl hpost
  · have hkb : ((k : Int) == 1) = false := by rw [beq_eq_false_iff_ne]; omega
    have hI := int_any (n : Int)
    have hZv : Hid (Z = (.mk 1 (n : Int) [] [], (rdN (rdN st).2).2)) := by
      show _ = _
      rw [← HZ.out]
      unfold rdZ
      rw [HK.out, if_neg hk1, HN.out]
    clear hk1
    go_wp2_with fail
    refine (hI w2).mono ?_
    rintro e w3 ⟨rfl, hb3⟩
    have ho3 := ho12.trans (Only.of_below hb3)
    have hx3 := (hb3.block _ (Array.getElem?_eq_some_iff.1 hx2).1).trans hx2
    obtain ⟨s0, s1, s2, s3, t0, t1, t2, t3⟩ := cells_of4 hx3
    obtain ⟨wN, hWN, hxN, hoN, hrN⟩ := resV hx3 ho3 (hr2.keep hb3) hrl (.int .i64 1) (.int .i64 (n : Int)) (.string ⟨#[]⟩) (.slice none 0 0)
    obtain ⟨m0, m1, m2, m3, -⟩ := cells_of4 hxN
    have hlN : w.heap.size < wN.heap.size := (Array.getElem?_eq_some_iff.1 hxN).1
    have hl3 : w.heap.size < w3.heap.size := (Array.getElem?_eq_some_iff.1 hx3).1
    have hpost : CPost w r Z (.returned (.agg #[.int .i64 1, .int .i64 (n : Int), .string ⟨#[]⟩, .slice none 0 0])) wN := by rw [hZv.out]; exact ⟨rfl, hrN, hoN⟩
    clear hI hr2 ho12 ho3 hx2 hx3 hxN hb3 hoN hrN
    go_wp2_with fail
    exact bodyPost_ret (v := .agg #[.int .i64 1, .int .i64 (n : Int), .string ⟨#[]⟩, .slice none 0 0]) (by simp [results, Tryz.results61, go_sem, hlN, m0, m1, m2, m3]) rfl hpost
set_option maxRecDepth 100000 in
set_option maxHeartbeats 1000000 in
theorem readInstr_any {w : World} {r : Nat} {st : RSt} (h : RdS w r st) : Calls Tryz.prog 65 #[.pointer (some ⟨r, 0, none⟩)] w fun e w' => e = .returned (.agg #[.int .i64 (rdX st).1.op, .int .i64 (rdX st).1.a]) ∧ RdS w' r (rdX st).2 ∧ Only r w w' := by
  obtain ⟨w0, hW0, hb0, hl0, hx0⟩ := box2 w (.int .i64 0) (.int .i64 0) 38
  have hrl := h.lt
  have hlt0 : w.heap.size < w0.heap.size := by omega
  have hN1 := number_any (h.keep hb0)
  have hle1 := rdN_le st
  have hle2 := rdN_le (rdN st).2
  unfold rdX
  obtain ⟨k, HK⟩ : ∃ k, Hid ((rdN st).1 = k) := ⟨_, rfl⟩
  obtain ⟨n, HN⟩ : ∃ n, Hid ((rdN (rdN st).2).1 = n) := ⟨_, rfl⟩
  rw [HK.out, HN.out]
  rw [HK.out] at hN1 hle1
  rw [HN.out] at hle2
  clear h hl0
  go_enter Tryz.func65, Tryz.ntmps65
  go_wp2_with fail
  refine hN1.mono ?_
  rintro e w1 ⟨rfl, hr1, ho1⟩
  have hN2 := number_any hr1
  rw [HN.out] at hN2
  clear hN1 hr1
  go_wp2_with fail
  refine hN2.mono ?_
  rintro e w2 ⟨rfl, hr2, ho2⟩
  have ho12 : Only r w w2 := (Only.of_below hb0).trans (ho1.trans ho2)
  have hx2 := ho2.cells (Nat.lt_of_lt_of_le hlt0 ho1.size) (by omega) (ho1.cells hlt0 (by omega) hx0)
  obtain ⟨s0, s1, t0, t1, hl2⟩ := cells_k2 hx2
  obtain ⟨wN, hWN, hxN, hoN, hrN⟩ := resI hx2 ho12 hr2 hrl (.int .i64 (k : Int)) (.int .i64 (n : Int))
  obtain ⟨m0, m1, -, -, hlN⟩ := cells_k2 hxN
  clear hN2 ho1 ho2 hx0 hW0 ho12 hx2 hr2 hxN
  go_wp2_with fail
  exact bodyPost_ret (v := .agg #[.int .i64 (k : Int), .int .i64 (n : Int)]) (by simp [results, Tryz.results65, go_sem, hlN, m0, m1]) rfl ⟨rfl, hrN, hoN⟩
end Go.Proofs.YtndahpcjkcihlaaGreat
