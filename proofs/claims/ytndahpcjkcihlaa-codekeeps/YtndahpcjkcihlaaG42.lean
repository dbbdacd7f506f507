/- Texts of ours, joined: Kwk, Jo, Jov, Kr0. -/
import Derived.Test.YtndahpcjkcihlaaG40
import Derived.Test.YtndahpcjkcihlaaG41
import Derived.Test.YtndahpcjkcihlaaG24
import Derived.Test.YtndahpcjkcihlaaG38
/- The document's examples: what they are, and that wakes answers true. -/
namespace Go.Proofs.Ytndahpcjkcihlaa
open Go.RowKit
set_option linter.unusedVariables false
set_option linter.unusedSimpArgs false
attribute [local go_sem ↓] Go.wp_at_zero Go.wp_at_succ

def exM (l : List In) : Md := ⟨[.mk 1 7 [] []], [⟨0, 0, 0, 1, l⟩]⟩
theorem ex_con : ctype (.mk 1 7 [] []) ≠ [] := by
  have h : fitS (tyT .int) (.mk 1 7 [] []) = true := by
    unfold fitS
    rw [shpS_ty (by decide), shpB_iff.2 (by rw [Shp]; exact ⟨rfl, rfl, rfl⟩)]
    simp [wt, wts]
  have ht : tys = tyT .int :: tys.tail := rfl
  unfold ctype
  rw [if_pos (show (V.mk 1 7 [] []).l = [] from rfl), ht, List.find?_cons_of_pos (p := fun t => fitS t (.mk 1 7 [] [])) h]
  decide
theorem ex_fun {l : List In} {n : Nat} {f : Fu} (h : (exM l).funcs[n]? = some f) : n = 0 ∧ f = ⟨0, 0, 0, 1, l⟩ := by
  rcases n with _ | n
  · exact ⟨rfl, (Option.some.inj h).symm⟩
  · simp [exM] at h
theorem ex_run : Run (exM [⟨1, 0⟩, ⟨10, 0⟩]) 0 := by
  refine ⟨⟨by decide, by decide⟩, ⟨by decide, by decide⟩, fun v hv => ?_, fun n f hf => ?_⟩
  · simp only [exM, List.mem_cons, List.not_mem_nil, or_false] at hv
    subst hv
    exact ex_con
  · obtain ⟨rfl, rfl⟩ := ex_fun hf
    refine ⟨by unfold NumOk; simp [exM], fun i hi => ?_, ⟨fun p => if p = 0 then some 0 else if p = 1 then some 1 else none, rfl, fun p x hx => ?_⟩⟩
    · simp only [List.mem_cons, List.not_mem_nil, or_false] at hi
      rcases hi with rfl | rfl <;> rfl
    · rcases p with _ | _ | p
      · obtain rfl : (0 : Int) = x := Option.some.inj hx
        exact ⟨_, rfl, by decide, by decide, fun q hq => by
          have : q ∈ [1] := hq
          simp only [List.mem_cons, List.not_mem_nil, or_false] at this
          subst this
          rfl⟩
      · obtain rfl : (1 : Int) = x := Option.some.inj hx
        exact ⟨_, rfl, by decide, by decide, fun q hq => by
          have : q ∈ ([] : List Nat) := hq
          simp at this⟩
      · simp at hx
theorem ex_no1 : ¬ Run (exM [⟨1, 0⟩]) 0 := fun h => by
  obtain ⟨H, L⟩ := (h.fun_ 0 _ rfl).walk
  obtain ⟨i, e, -, -, h1⟩ := L.step 0 0 L.zero
  cases e
  have h2 := h1 1 (by show 1 ∈ [1]; simp)
  obtain ⟨j, e, -⟩ := L.step 1 _ h2
  cases e
theorem ex_no2 : ¬ Run (exM [⟨10, 0⟩]) 0 := fun h => by
  obtain ⟨H, L⟩ := (h.fun_ 0 _ rfl).walk
  obtain ⟨i, e, h0, -⟩ := L.step 0 0 L.zero
  cases e
  exact absurd h0 (by decide)
theorem ex_no3 : ¬ Run (exM [⟨1, 0⟩, ⟨7, 0⟩]) 0 := fun h => by
  obtain ⟨H, L⟩ := (h.fun_ 0 _ rfl).walk
  obtain ⟨i, e, -, -, h1⟩ := L.step 0 0 L.zero
  cases e
  have h2 := h1 1 (by show 1 ∈ [1]; simp)
  obtain ⟨j, e, -, -, h3⟩ := L.step 1 _ h2
  cases e
  have h4 := h3 0 (by show 0 ∈ [0]; simp)
  rw [L.zero] at h4
  exact absurd (Option.some.inj h4) (by decide)
theorem ex_enc : encM (exM [⟨1, 0⟩, ⟨10, 0⟩]) = [1, 1, 1, 0, 7, 0, 0, 0, 1, 2, 1, 0, 10, 0] := by
  simp [encM, exM, eC, eF, xsF, nInt, eI, enc, encs, V.k, num_lt]
theorem ex_fit {l : List In} (hl : l.length ≤ 2) : Fit (exM l) := ⟨fun v hv => by
  simp only [exM, List.mem_cons, List.not_mem_nil, or_false] at hv
  subst hv
  simp [wt, wts], by simp [exM], by simp [exM], fun f hf => by
  simp only [exM, List.mem_cons, List.not_mem_nil, or_false] at hf
  subst hf
  show l.length ≤ _
  omega⟩
/-- A row in a block that was just laid down. -/
theorem slrow_new {w : World} {g : Nat} {arr : List Value} {T : TypeId} {n sz : Nat} (h : w.heap[g]? = some (.cells arr.toArray T (0, 0))) (hl : arr.length = n * sz) (hn : n ≤ maxLen) : SlRow (fun _ => True) w sz (.slice (some ⟨g, 0, none⟩) n n) n arr :=
  ⟨hl, Or.inr ⟨g, 0, n, rfl, Nat.le_refl _, hn, trivial, (Array.getElem?_eq_some_iff.1 h).1, fun j u hj => by
    rw [Nat.zero_add]
    simpa [World.cell?, h] using hj⟩⟩
def ExPost13 (l : List In) (w : World) (e : Ending) (w' : World) : Prop := (∃ a1 a2, e = .returned (.agg #[.slice a1 1 1, .slice a2 1 1]) ∧ IsMd (fun _ => True) w' (exM l) (.slice a1 1 1) (.slice a2 1 1)) ∧ Below w.heap.size w w'
set_option maxRecDepth 100000 in
set_option maxHeartbeats 4000000 in
theorem example_any {w : World} {l : List In} {a : Option Addr} {c N : Nat} (hN : l.length = N) (hi : IsIs (fun _ => True) w l (.slice a N c)) :
    Calls Try.prog 17 #[.slice a N c] w fun e w' => ExPost13 l w e w' := by
  obtain ⟨w0, hW0, hb0, -, hx0⟩ := box2 w (.slice none 0 0) (.slice none 0 0) 25
  obtain ⟨w1, hW1⟩ : ∃ w1, w0.alloc (.cells #[.int .i64 1, .int .i64 7, .string ⟨#[]⟩, .slice none 0 0] 29) = w1 := ⟨_, rfl⟩
  have hb1 : Below w0.heap.size w0 w1 := by rw [← hW1]; exact (Below.refl _ _).alloc (Nat.le_refl _) _
  have hx1 : w1.heap[w0.heap.size]? = some (.cells #[.int .i64 1, .int .i64 7, .string ⟨#[]⟩, .slice none 0 0] 29 (0, 0)) := by rw [← hW1]; exact heap_new _ _
  obtain ⟨w2, hW2⟩ : ∃ w2, w1.alloc (.cells #[.int .i64 0, .int .i64 0, .int .i64 0, .int .i64 1, .slice a N c] 44) = w2 := ⟨_, rfl⟩
  have hb2 : Below w1.heap.size w1 w2 := by rw [← hW2]; exact (Below.refl _ _).alloc (Nat.le_refl _) _
  have hx2 : w2.heap[w1.heap.size]? = some (.cells #[.int .i64 0, .int .i64 0, .int .i64 0, .int .i64 1, .slice a N c] 44 (0, 0)) := by rw [← hW2]; exact heap_new _ _
  have hl0 : w.heap.size < w0.heap.size := (Array.getElem?_eq_some_iff.1 hx0).1
  have hl1 : w0.heap.size < w1.heap.size := (Array.getElem?_eq_some_iff.1 hx1).1
  have hl2 : w1.heap.size < w2.heap.size := (Array.getElem?_eq_some_iff.1 hx2).1
  have hB2 : Below w.heap.size w w2 := hb0.trans ((hb1.mono hb0.size).trans (hb2.mono (by omega)))
  have hxr := (hb2.block _ (by omega)).trans ((hb1.block _ hl0).trans hx0)
  obtain ⟨p0, p1, o0, o1, hlp⟩ := cells_k2 hxr
  obtain ⟨w3, hW3, hx3, hB3, hs3, hk3⟩ := resW hxr hB2 (.slice (some ⟨w0.heap.size, 0, none⟩) 1 1) (.slice (some ⟨w1.heap.size, 0, none⟩) 1 1)
  obtain ⟨t0, t1, -, -, hlt⟩ := cells_k2 hx3
  have hy1 := (hk3 _ (by omega)).trans ((hb2.block _ hl1).trans hx1)
  have hy2 := (hk3 _ (by omega)).trans hx2
  have hpost : ExPost13 l w (.returned (.agg #[.slice (some ⟨w0.heap.size, 0, none⟩) 1 1, .slice (some ⟨w1.heap.size, 0, none⟩) 1 1])) w3 := by
    have i0 : InR 0 := by constructor <;> decide
    have i1 : InR 1 := by constructor <;> decide
    have i7 : InR 7 := by constructor <;> decide
    have hi3 : IsIs (fun _ => True) w3 l (.slice a N c) := (hi.base (B' := fun k => k < w.heap.size) (fun k _ h => h)).since ⟨hB3.size, fun k hk _ => hB3.block k hk⟩ |>.base (fun _ _ _ => trivial)
    refine ⟨⟨_, _, rfl, ⟨_, slrow_new (arr := [.int .i64 1, .int .i64 7, .string ⟨#[]⟩, .slice none 0 0]) hy1 rfl (by unfold maxLen; omega), ?_⟩, ⟨_, slrow_new (arr := [.int .i64 0, .int .i64 0, .int .i64 0, .int .i64 1, .slice a N c]) hy2 rfl (by unfold maxLen; omega), ?_⟩⟩, hB3⟩
    · exact AllV.one (isV_iff.2 ⟨_, rfl, Nat.zero_le _, i1, i7, IsVs.nil⟩)
    · refine ⟨_, [], (List.append_nil _).symm, ⟨a, c, ?_, i0, i0, i0, i1, ?_⟩, rfl⟩
      · simp [hN]
      · show IsIs _ w3 l (.slice a l.length c)
        rw [hN]; exact hi3
  clear hi hb0 hb1 hb2 hx0 hx1 hx2 hB2 hxr hx3 hB3 hs3 hk3 hy1 hy2
  go_enter Try.func17, Try.ntmps17
  go_wp2_with fail
  exact bodyPost_ret (v := .agg #[.slice (some ⟨w0.heap.size, 0, none⟩) 1 1, .slice (some ⟨w1.heap.size, 0, none⟩) 1 1]) (by simp [results, Try.results17, go_sem, hlt, t0, t1]) rfl hpost
theorem is_new {w : World} {l : List In} (hr : ∀ i ∈ l, InR i.op ∧ InR i.a) {n : Nat} (hn : l.length = n) (hl : n ≤ 100) : IsIs (fun _ => True) (w.alloc (.cells (l.flatMap inCells).toArray 46)) l (.slice (some ⟨w.heap.size, 0, none⟩) n n) := by
  subst hn
  exact ⟨slrow_new (heap_new _ _) (inRow_len' l) (by unfold maxLen; omega), hr⟩
theorem ver_ex (hVr : VerOk) {l : List In} (hl : l.length ≤ 2) {a1 a2 : Option Addr} {w : World} (hm : IsMd (fun _ => True) w (exM l) (.slice a1 1 1) (.slice a2 1 1)) (hno : ¬ Run (exM l) 0) : Calls Try.prog 11 #[.agg #[.slice a1 1 1, .slice a2 1 1], .int .i64 0] w fun e w' => e = .returned (.int .i64 40) ∧ Below w.heap.size w w' := by
  have h := hVr _ (exM l) a1 a2 1 1 w 0 hm (ex_fit hl) (by constructor <;> decide)
  rw [vfy_no hno] at h
  exact h
set_option maxRecDepth 100000 in
set_option maxHeartbeats 4000000 in
theorem wakes_of (hEn : EncOk) (hVr : VerOk) : WakeOk := by
  intro w
  have i0 : InR 0 := by constructor <;> decide
  have i1 : InR 1 := by constructor <;> decide
  have i7 : InR 7 := by constructor <;> decide
  have i10 : InR 10 := by constructor <;> decide
  obtain ⟨w1, hW1⟩ : ∃ w1, w.alloc (.cells #[.int .i64 1, .int .i64 0, .int .i64 10, .int .i64 0] 46) = w1 := ⟨_, rfl⟩
  have hb1 : Below w.heap.size w w1 := by rw [← hW1]; exact (Below.refl _ _).alloc (Nat.le_refl _) _
  have hI1 : IsIs (fun _ => True) w1 [⟨1, 0⟩, ⟨10, 0⟩] (.slice (some ⟨w.heap.size, 0, none⟩) 2 2) := by
    rw [← hW1]
    exact is_new (l := [⟨1, 0⟩, ⟨10, 0⟩]) (by simp [i0, i1, i10]) rfl (by omega)
  have hX1 := example_any rfl hI1
  have HE : Hid EncOk := hEn
  have HV : Hid VerOk := hVr
  clear hEn hVr hI1
  go_enter Try.func7, Try.ntmps7
  go_wp2_with fail
  refine hX1.mono ?_
  rintro e w2 ⟨⟨a1, a2, rfl, hm2⟩, hb2⟩
  have hE : Calls Try.prog 13 #[.agg #[.slice a1 1 1, .slice a2 1 1], .int .i64 0] w2 fun e w' => OutE w2 (encE (exM [⟨1, 0⟩, ⟨10, 0⟩]) 0) e w' := HE.out _ (exM [⟨1, 0⟩, ⟨10, 0⟩]) a1 a2 1 1 w2 0 hm2 (ex_fit (by decide)) (by decide) (by decide) i0
  have he : encE (exM [⟨1, 0⟩, ⟨10, 0⟩]) 0 = ([1, 1, 1, 0, 7, 0, 0, 0, 1, 2, 1, 0, 10, 0], 0) := by unfold encE; rw [if_pos ex_run, ex_enc]
  rw [he] at hE
  have hB2 : Below w.heap.size w w2 := hb1.trans (hb2.mono hb1.size)
  clear hX1 hW1 hm2 he hb1 hb2
  go_wp2_with fail
  refine hE.mono ?_
  rintro e w3 ⟨⟨a3, N3, c3, rfl, hO3⟩, hb3⟩
  have hB3 : Below w.heap.size w w3 := hB2.trans (hb3.mono hB2.size)
  have hs3 : (convert 34 9 (.slice a3 N3 c3)).run Try.prog w3 = .ok (.string ⟨#[1, 1, 1, 0, 7, 0, 0, 0, 1, 2, 1, 0, 10, 0]⟩) w3 := by rw [hO3.1]; exact str_b (owns_b hO3.2)
  obtain ⟨w4, hW4⟩ : ∃ w4, w3.alloc (.cells #[.int .i64 1, .int .i64 0] 46) = w4 := ⟨_, rfl⟩
  have hb4 : Below w3.heap.size w3 w4 := by rw [← hW4]; exact (Below.refl _ _).alloc (Nat.le_refl _) _
  have hI4 : IsIs (fun _ => True) w4 [⟨1, 0⟩] (.slice (some ⟨w3.heap.size, 0, none⟩) 1 1) := by
    rw [← hW4]
    exact is_new (l := [⟨1, 0⟩]) (by simp [i0, i1]) rfl (by omega)
  have hX := example_any rfl hI4
  clear hE hO3 hb3 hB2 hI4
  go_wp2_with fail
  refine hX.mono ?_
  rintro e w5 ⟨⟨b1, b2, rfl, hm5⟩, hb5⟩
  have hB5 : Below w.heap.size w w5 := hB3.trans ((hb4.mono hB3.size).trans (hb5.mono (by have := hb4.size; have := hB3.size; omega)))
  have hV := ver_ex HV.out (by decide) hm5 ex_no1
  clear hX hW4 hm5 hb4 hb5 hB3 hs3
  go_wp2_with fail
  refine hV.mono ?_
  rintro e w6 ⟨rfl, hb6⟩
  have hB6 : Below w.heap.size w w6 := hB5.trans (hb6.mono hB5.size)
  obtain ⟨w7, hW7⟩ : ∃ w7, w6.alloc (.cells #[.int .i64 10, .int .i64 0] 46) = w7 := ⟨_, rfl⟩
  have hb7 : Below w6.heap.size w6 w7 := by rw [← hW7]; exact (Below.refl _ _).alloc (Nat.le_refl _) _
  have hI7 : IsIs (fun _ => True) w7 [⟨10, 0⟩] (.slice (some ⟨w6.heap.size, 0, none⟩) 1 1) := by
    rw [← hW7]
    exact is_new (l := [⟨10, 0⟩]) (by simp [i0, i10]) rfl (by omega)
  have hX := example_any rfl hI7
  clear hV hb6 hB5 hI7
  go_wp2_with fail
  refine hX.mono ?_
  rintro e w8 ⟨⟨d1, d2, rfl, hm8⟩, hb8⟩
  have hB8 : Below w.heap.size w w8 := hB6.trans ((hb7.mono hB6.size).trans (hb8.mono (by have := hb7.size; have := hB6.size; omega)))
  have hV := ver_ex HV.out (by decide) hm8 ex_no2
  clear hX hW7 hm8 hb7 hb8 hB6
  go_wp2_with fail
  refine hV.mono ?_
  rintro e w9 ⟨rfl, hb9⟩
  have hB9 : Below w.heap.size w w9 := hB8.trans (hb9.mono hB8.size)
  obtain ⟨wA, hWA⟩ : ∃ wA, w9.alloc (.cells #[.int .i64 1, .int .i64 0, .int .i64 7, .int .i64 0] 46) = wA := ⟨_, rfl⟩
  have hbA : Below w9.heap.size w9 wA := by rw [← hWA]; exact (Below.refl _ _).alloc (Nat.le_refl _) _
  have hIA : IsIs (fun _ => True) wA [⟨1, 0⟩, ⟨7, 0⟩] (.slice (some ⟨w9.heap.size, 0, none⟩) 2 2) := by
    rw [← hWA]
    exact is_new (l := [⟨1, 0⟩, ⟨7, 0⟩]) (by simp [i0, i1, i7]) rfl (by omega)
  have hX := example_any rfl hIA
  clear hV hb9 hB8 hIA
  go_wp2_with fail
  refine hX.mono ?_
  rintro e wB ⟨⟨g1, g2, rfl, hmB⟩, hbB⟩
  have hBB : Below w.heap.size w wB := hB9.trans ((hbA.mono hB9.size).trans (hbB.mono (by have := hbA.size; have := hB9.size; omega)))
  have hV := ver_ex HV.out (by decide) hmB ex_no3
  clear hX hWA hmB hbA hbB hB9
  go_wp2_with fail
  refine hV.mono ?_
  rintro e wC ⟨rfl, hbC⟩
  have hBC : Below w.heap.size w wC := hBB.trans (hbC.mono hBB.size)
  clear hV hbC hBB
  go_wp2
  go_ret
  exact ⟨ret_bool (by simp), hBC⟩
end Go.Proofs.Ytndahpcjkcihlaa
/- The examples come true. -/
namespace Go.Proofs.Ytndahpcjkcihlaa
theorem wake_ok : WakeOk := wakes_of enc_ok ver_ok
end Go.Proofs.Ytndahpcjkcihlaa
/- Verify and Type of any module: the statement's walk. -/
namespace Go.Proofs.Ytndahpcjkcihlaa
open Go.RowKit
theorem verifies_done {B : Nat → Prop} {m : Md} {ac af : Option Addr} {cc cf : Nat} {w : World} (hm : IsMd B w m (.slice ac m.consts.length cc) (.slice af m.funcs.length cf)) (hz : SzM m) (states : Int) (hst : InR states) :
    Calls Try.prog 3 #[.agg #[.slice ac m.consts.length cc, .slice af m.funcs.length cf], .int .i64 states] w fun e w' => e = .returned (.bool true) ∧ Below w.heap.size w w' := verifies_walk wake_ok typ_ok ver_ok hm hz states hst
end Go.Proofs.Ytndahpcjkcihlaa
/- A row of functions that is written over at its end. -/
namespace Go.Proofs.Ytndahpcjkcihlaa
open Go.RowKit
set_option linter.unusedVariables false
set_option linter.unusedSimpArgs false

theorem ctype_l {v : V} (h : ctype v ≠ []) : v.l = [] := by
  unfold ctype at h
  split at h
  · assumption
  · exact absurd rfl h
theorem lst_of {v : V} (h : v.l = []) : Lst v := by
  obtain ⟨k, n, t, l⟩ := v
  have h' : l = [] := h
  subst h'
  rw [Lst]
  exact ⟨by simp, by rw [Lsts]; trivial⟩
abbrev vTrue : V := .mk 2 0 [] []
theorem ctype_bool : ctype vTrue ≠ [] := by
  have hT : tyOf [98, 111, 111, 108] = some .bool := (tyOf_iff _ _).2 ⟨rfl, by decide⟩
  have hf : fitS [98, 111, 111, 108] vTrue = true := by
    unfold fitS shpS
    rw [hT]
    simp only [Bool.and_eq_true, decide_eq_true_eq]
    refine ⟨shpB_iff.2 ?_, by simp [wt, wts]⟩
    rw [Shp]
    exact ⟨rfl, rfl, rfl, Or.inl rfl⟩
  unfold ctype
  rw [if_pos (show vTrue.l = [] from rfl)]
  rcases h : tys.find? (fun t => fitS t vTrue) with _ | t
  · have := List.find?_eq_none.1 h [98, 111, 111, 108] (by simp [tys])
    exact absurd hf this
  · have h1 := List.mem_of_find?_eq_some h
    show t ≠ []
    intro e
    subst e
    simp [tys] at h1
/-- Functions in a row that is owned; what they hold lies in other blocks of P; the last one's code in a row of its own. -/
structure FR (P : Nat → Prop) (w : World) (sl : Value) (pre : List Fu) (f : Fu) (rp : List Value) (a : Option Addr) (c : Nat) : Prop where
  own : w.ownsRow 0 44 5 sl (pre.length + 1) (rp ++ fuCells f (.slice a f.code.length c))
  blk : ∀ k, sl.ownBlock = some k → P k
  code : OwnI w 0 (.slice a f.code.length c) f.code
  cblk : ∀ k, (Value.slice a f.code.length c).ownBlock = some k → P k ∧ sl.ownBlock ≠ some k
  all : AllFu (fun k => P k ∧ sl.ownBlock ≠ some k ∧ (Value.slice a f.code.length c).ownBlock ≠ some k) w pre rp
  rng : ∀ i ∈ f.code, InR i.op ∧ InR i.a
  nums : InR f.params ∧ InR f.locals ∧ InR f.zero ∧ InR f.stack
theorem GF.fr {base : Nat} {w : World} {sl : Value} {pre : List Fu} {f : Fu} (h : GF base w sl (pre ++ [f])) : ∃ rp a c, FR (fun k => base ≤ k ∧ k < w.heap.size) w sl pre f rp a c := by
  obtain ⟨row, h1, h2, h3⟩ := h
  obtain ⟨rp, a, c, rfl, g2, g3, g4⟩ := h3 pre f rfl
  have hl : (pre ++ [f]).length = pre.length + 1 := by simp
  rw [hl] at h1
  have hlt := fun k hk => World.ownsRow.lt h1 k hk
  have hlc := fun k hk => World.ownsRow.lt g2 k hk
  refine ⟨rp, a, c, ⟨h1.1, ?_⟩, fun k hk => hlt k hk, g2.low (Nat.zero_le _), fun k hk => ⟨hlc k hk, g3 k hk⟩, g4.base (fun k hk hl => ⟨⟨hk.1, hl⟩, hk.2⟩), ?_, ?_⟩
  · rcases h1.2 with q | ⟨g, cap, cur, q1, q2, q3⟩
    · exact Or.inl q
    · exact Or.inr ⟨g, cap, cur, q1, Nat.zero_le _, q3⟩
  all_goals
    obtain ⟨cs, ⟨a', c', -, hf⟩, -⟩ := h2.get (i := pre.length) (e := f) (by simp)
    first | exact hf.code.rng | exact ⟨hf.p, hf.l, hf.z, hf.s⟩
theorem FR.since {P : Nat → Prop} {w w' : World} {sl : Value} {pre : List Fu} {f : Fu} {rp : List Value} {a : Option Addr} {c : Nat} (h : FR P w sl pre f rp a c) (s : Since P w w') : FR P w' sl pre f rp a c := by
  refine ⟨⟨h.own.1, ?_⟩, h.blk, h.code.since (fun j hj => s.block j (h.cblk j hj).1 (World.ownsRow.lt h.code j hj).2), h.cblk, h.all.since ⟨s.size, fun k hk hl => s.block k hk.1 hl⟩, h.rng, h.nums⟩
  rcases h.own.2 with q | ⟨g, cap, cur, q1, q2, q3, q4⟩
  · exact Or.inl q
  · exact Or.inr ⟨g, cap, cur, q1, q2, by rw [s.block g (h.blk g (by rw [q1]; rfl)) (Array.getElem?_eq_some_iff.1 q3).1]; exact q3, q4⟩
/-- Where the row lies, and the last function's cells. -/
theorem FR.at {P : Nat → Prop} {w : World} {sl : Value} {pre : List Fu} {f : Fu} {rp : List Value} {a : Option Addr} {c : Nat} (h : FR P w sl pre f rp a c) : ∃ (g cap : Nat) (cur : Array Value), sl = .slice (some ⟨g, 0, none⟩) (pre.length + 1) cap ∧ P g ∧ w.heap[g]? = some (.cells cur 44 (0, 0)) ∧ pre.length + 1 ≤ cap ∧ cap ≤ maxLen ∧ cur.size = cap * 5 ∧ cur.toList.take ((pre.length + 1) * 5) = rp ++ fuCells f (.slice a f.code.length c) ∧ rp.length = pre.length * 5 := by
  rcases h.own.2 with ⟨q, q0⟩ | ⟨g, cap, cur, q1, q2, q3, q4, q5, q6, q7⟩
  · omega
  · refine ⟨g, cap, cur, q1, h.blk g (by rw [q1]; rfl), q3, q4, q5, q6, q7, ?_⟩
    have := h.own.1
    simp [fuCells] at this
    omega
theorem row_cells {w : World} {g n : Nat} {cur : Array Value} {rp cs : List Value} {T : TypeId} (hg : w.heap[g]? = some (.cells cur T (0, 0))) (ht : cur.toList.take ((n + 1) * 5) = rp ++ cs) (hr : rp.length = n * 5) {j : Nat} {u : Value} (hj : j < 5) (hu : cs[j]? = some u) : w.cell? ⟨g, n * 5 + j, none⟩ = some u ∧ w.frozen? ⟨g, n * 5 + j, none⟩ = false := by
  refine ⟨?_, by simp [World.frozen?, hg]⟩
  have hc : w.cell? ⟨g, n * 5 + j, none⟩ = cur[n * 5 + j]? := by simp [World.cell?, hg]
  rw [hc]
  have h1 : (cur.toList.take ((n + 1) * 5))[n * 5 + j]? = some u := by
    rw [ht, List.getElem?_append_right (by omega), hr, show n * 5 + j - n * 5 = j by omega]
    exact hu
  rw [List.getElem?_take] at h1
  split at h1
  · simpa using h1
  · cases h1
/-- The row, its last function written over. -/
theorem over_row {B : Nat → Prop} {w w' : World} {g n cap : Nat} {cur : Array Value} {rp : List Value} {pre : List Fu} {f : Fu} {a : Option Addr} {c : Nat} {cs : List Value} (hg : w.heap[g]? = some (.cells cur 44 (0, 0))) (hn : n = pre.length) (hcap : n + 1 ≤ cap) (hm : cap ≤ maxLen) (hsz : cur.size = cap * 5) (ht : cur.toList.take ((n + 1) * 5) = rp ++ cs) (hcs : cs.length = 5) (hr : rp.length = n * 5) (hB : B g)
    (hw : ((((w.setCell ⟨g, n * 5, none⟩ (.int .i64 f.params)).setCell ⟨g, n * 5 + 1, none⟩ (.int .i64 f.locals)).setCell ⟨g, n * 5 + 2, none⟩ (.int .i64 f.zero)).setCell ⟨g, n * 5 + 3, none⟩ (.int .i64 f.stack)).setCell ⟨g, n * 5 + 4, none⟩ (.slice a f.code.length c) = w')
    (hall : AllFu B w' pre rp) (hfn : IsFn B w' f (.slice a f.code.length c)) : IsFus B w' (pre ++ [f]) (.slice (some ⟨g, 0, none⟩) (n + 1) cap) ∧ IsFus B w' pre (.slice (some ⟨g, 0, none⟩) n cap) := by
  obtain ⟨cur', hcur'⟩ : ∃ cur' : Array Value, ((((cur.setIfInBounds (n * 5) (.int .i64 f.params)).setIfInBounds (n * 5 + 1) (.int .i64 f.locals)).setIfInBounds (n * 5 + 2) (.int .i64 f.zero)).setIfInBounds (n * 5 + 3) (.int .i64 f.stack)).setIfInBounds (n * 5 + 4) (.slice a f.code.length c) = cur' := ⟨_, rfl⟩
  have hg' : w'.heap[g]? = some (.cells cur' 44 (0, 0)) := by
    rw [← hw, ← hcur']
    simp [World.setCell, Array.getElem?_modify, hg]
  have hlt : g < w'.heap.size := (Array.getElem?_eq_some_iff.1 hg').1
  have hold : ∀ j, j < n * 5 → cur'[j]? = cur[j]? := fun j hj => by
    rw [← hcur']
    rw [Array.getElem?_setIfInBounds_ne (by omega), Array.getElem?_setIfInBounds_ne (by omega), Array.getElem?_setIfInBounds_ne (by omega), Array.getElem?_setIfInBounds_ne (by omega), Array.getElem?_setIfInBounds_ne (by omega)]
  have hnew : ∀ (j : Nat) (u : Value), (fuCells f (.slice a f.code.length c))[j]? = some u → cur'[n * 5 + j]? = some u := fun j u hj => by
    have hj5 := (List.getElem?_eq_some_iff.1 hj).1
    simp only [fuCells, List.length_cons, List.length_nil] at hj5
    have hb : n * 5 + 4 < cur.size := by omega
    have hj' : j = 0 ∨ j = 1 ∨ j = 2 ∨ j = 3 ∨ j = 4 := by omega
    rw [← hcur']
    rcases hj' with rfl | rfl | rfl | rfl | rfl <;> simp [fuCells] at hj <;> subst hj <;> simp [Array.getElem?_setIfInBounds] <;> omega
  have hcell : ∀ j, w'.cell? ⟨g, 0 + j, none⟩ = cur'[j]? := fun j => by rw [Nat.zero_add]; simp [World.cell?, hg']
  have hpre : ∀ (j : Nat) (u : Value), rp[j]? = some u → w'.cell? ⟨g, 0 + j, none⟩ = some u := fun j u hj => by
    have hjl := (List.getElem?_eq_some_iff.1 hj).1
    rw [hcell j, hold j (by omega)]
    have h1 : (cur.toList.take ((n + 1) * 5))[j]? = some u := by rw [ht, List.getElem?_append_left hjl]; exact hj
    rw [List.getElem?_take] at h1
    split at h1
    · simpa using h1
    · cases h1
  constructor
  · refine ⟨rp ++ fuCells f (.slice a f.code.length c), ⟨by simp [hr, hn, fuCells]; omega, ?_⟩, hall.snoc ⟨a, c, rfl, hfn⟩⟩
    refine Or.inr ⟨g, 0, cap, by simp [hn], by simp; omega, hm, hB, hlt, fun j u hj => ?_⟩
    by_cases hjr : j < rp.length
    · rw [List.getElem?_append_left hjr] at hj
      exact hpre j u hj
    · rw [List.getElem?_append_right (by omega)] at hj
      rw [hcell j, show j = n * 5 + (j - rp.length) by omega]
      exact hnew _ u hj
  · refine ⟨rp, ⟨by rw [hr, hn], ?_⟩, hall⟩
    by_cases h0 : pre.length = 0
    · exact Or.inl ⟨Or.inr ⟨_, cap, by rw [hn, h0], hm⟩, h0⟩
    · exact Or.inr ⟨g, 0, cap, by rw [hn], by omega, hm, hB, hlt, hpre⟩
end Go.Proofs.Ytndahpcjkcihlaa
