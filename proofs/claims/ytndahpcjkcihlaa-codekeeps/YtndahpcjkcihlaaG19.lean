/- Texts of ours, joined: Ko. -/
import Derived.Test.YtndahpcjkcihlaaG18
import Derived.Test.YtndahpcjkcihlaaG04
/- From how an argument that is a module is read to what the walks ask. -/
namespace Go.Proofs.Ytndahpcjkcihlaa
open Go.ChangeShapes Go.WideShapes Go.ChangeAt Go.RowKit
set_option linter.unusedVariables false
set_option linter.unusedSimpArgs false

theorem cells2 {w : World} {a : Addr} {cs : List Value} (h : w.cells? 0 a 2 = some cs) : cs.length = 2 ∧ ∀ r u, cs[r]? = some u → w.cell? (a.add r) = some u := by
  simp only [World.cells?, Nat.zero_le, if_true] at h
  simp only [List.range_succ, List.range_zero, List.nil_append, List.cons_append, List.mapM_cons, List.mapM_nil, Option.bind_eq_bind, Option.pure_def] at h
  simp only [Option.bind_eq_some_iff, Option.some.injEq] at h
  obtain ⟨c0, h0, r0, ⟨c1, h1, _, rfl, rfl⟩, rfl⟩ := h
  refine ⟨rfl, fun r u hr => ?_⟩
  have := (List.getElem?_eq_some_iff.1 hr).1
  simp only [List.length_cons, List.length_nil] at this
  have hc : r = 0 ∨ r = 1 := by omega
  rcases hc with rfl | rfl <;> (simp at hr; subst hr; assumption)
theorem cells5 {w : World} {a : Addr} {cs : List Value} (h : w.cells? 0 a 5 = some cs) : cs.length = 5 ∧ ∀ r u, cs[r]? = some u → w.cell? (a.add r) = some u := by
  simp only [World.cells?, Nat.zero_le, if_true] at h
  simp only [List.range_succ, List.range_zero, List.nil_append, List.cons_append, List.mapM_cons, List.mapM_nil, Option.bind_eq_bind, Option.pure_def] at h
  simp only [Option.bind_eq_some_iff, Option.some.injEq] at h
  obtain ⟨c0, h0, r0, ⟨c1, h1, r1, ⟨c2, h2, r2, ⟨c3, h3, r3, ⟨c4, h4, _, rfl, rfl⟩, rfl⟩, rfl⟩, rfl⟩, rfl⟩ := h
  refine ⟨rfl, fun r u hr => ?_⟩
  have := (List.getElem?_eq_some_iff.1 hr).1
  simp only [List.length_cons, List.length_nil] at this
  have hc : r = 0 ∨ r = 1 ∨ r = 2 ∨ r = 3 ∨ r = 4 := by omega
  rcases hc with rfl | rfl | rfl | rfl | rfl <;> (simp at hr; subst hr; assumption)
theorem list_ofT {α : Type} {P : Nat → α → Prop} : ∀ (n : Nat), (∀ i, i < n → ∃ v, P i v) → ∃ l : List α, l.length = n ∧ ∀ i v, l[i]? = some v → P i v
  | 0, h => ⟨[], rfl, fun i v hi => by simp at hi⟩
  | n + 1, h => by
    obtain ⟨l, h1, h2⟩ := list_ofT n (fun i hi => h i (by omega))
    obtain ⟨v, hv⟩ := h n (by omega)
    refine ⟨l ++ [v], by simp [h1], fun i x hi => ?_⟩
    by_cases hlt : i < n
    · rw [List.getElem?_append_left (by omega)] at hi
      exact h2 i x hi
    · have hlen := (List.getElem?_eq_some_iff.1 hi).1
      simp [h1] at hlen
      have : i = n := by omega
      subst this
      rw [List.getElem?_append_right (by omega), h1] at hi
      simp at hi
      subst hi
      exact hv
theorem inRow_len : ∀ l : List In, (l.flatMap inCells).length = l.length * 2
  | [] => rfl
  | a :: r => by
    have := inRow_len r
    simp only [List.flatMap_cons, List.length_append, this, List.length_cons, inCells, List.length_nil]
    omega
theorem inRow_inv : ∀ {l : List In} {j : Nat} {u : Value}, (l.flatMap inCells)[j]? = some u → ∃ x, l[j / 2]? = some x ∧ (inCells x)[j % 2]? = some u
  | [], j, u, h => by simp at h
  | a :: r, 0, u, h => ⟨a, rfl, by simpa [inCells] using h⟩
  | a :: r, 1, u, h => ⟨a, rfl, by simpa [inCells] using h⟩
  | a :: r, j + 2, u, h => by
    have e : ((a :: r).flatMap inCells) = .int .i64 a.op :: .int .i64 a.a :: (r.flatMap inCells) := by simp [inCells]
    rw [e] at h
    obtain ⟨x, h1, h2⟩ := inRow_inv (l := r) (j := j) (u := u) (by simpa using h)
    exact ⟨x, by rw [show (j + 2) / 2 = j / 2 + 1 by omega]; simpa using h1, by rw [show (j + 2) % 2 = j % 2 by omega]; exact h2⟩
theorem ifields : Try.prog.cellsOf 46 = 2 := by kernel_rfl
theorem ffields : Try.prog.cellsOf 44 = 5 := by kernel_rfl
theorem mfields : Try.prog.cellsOf 25 = 2 := by kernel_rfl
theorem cells_is : Try.prog.cellsOf 42 = 1 := by kernel_rfl
theorem cells_fs : Try.prog.cellsOf 23 = 1 := by kernel_rfl
theorem bytes_i : Try.prog.bytesOf 46 = 16 := by kernel_rfl
theorem bytes_v : Try.prog.bytesOf 29 = 56 := by kernel_rfl
theorem istruct : ∃ f0 f1 : Field, Try.prog.underlying 46 = some (.struct #[f0, f1]) ∧ f0.type = 3 ∧ f0.offset = 0 ∧ f1.type = 3 ∧ f1.offset = 1 := ⟨_, _, Try.underlying46, rfl, rfl, rfl, rfl⟩
theorem fstruct : ∃ f0 f1 f2 f3 f4 : Field, Try.prog.underlying 44 = some (.struct #[f0, f1, f2, f3, f4]) ∧ f0.type = 3 ∧ f0.offset = 0 ∧ f1.type = 3 ∧ f1.offset = 1 ∧ f2.type = 3 ∧ f2.offset = 2 ∧ f3.type = 3 ∧ f3.offset = 3 ∧ f4.type = 42 ∧ f4.offset = 4 := ⟨_, _, _, _, _, Try.underlying44, rfl, rfl, rfl, rfl, rfl, rfl, rfl, rfl, rfl, rfl⟩
theorem mstruct : ∃ f0 f1 : Field, Try.prog.underlying 25 = some (.struct #[f0, f1]) ∧ f0.type = 22 ∧ f0.offset = 0 ∧ f1.type = 23 ∧ f1.offset = 1 := ⟨_, _, Try.underlying25, rfl, rfl, rfl, rfl⟩
set_option maxRecDepth 100000 in
theorem instr_of_trod {H : Type} {enc : TypeId × Value → H} {w : World} (fuel : Nat) (cs : List Value) (x : DataW H × List MemPlace) (h : DataW.trod enc Try.prog w 0 (fun _ => true) true fuel 46 cs = some x) : ∃ i : In, cs = inCells i ∧ InR i.op ∧ InR i.a := by
  obtain ⟨f0, f1, hst, t0, o0, t1, o1⟩ := istruct
  obtain ⟨xs, n, rfl, rfl, hlen, hxl, hf⟩ := DataW.trod_struct hst h
  rw [ifields] at hlen
  have hx2 : xs.length = 2 := hxl
  match cs, hlen, xs, hx2, hf with
  | [c0, c1], _, [x0, x1], _, hf =>
    have g0 := hf 0 f0 rfl
    have g1 := hf 1 f1 rfl
    rw [t0, o0, cells_int] at g0
    rw [t1, o1, cells_int] at g1
    simp only [List.drop_zero, List.drop_succ_cons, List.take_succ_cons, List.take_zero, List.getElem?_cons_zero, List.getElem?_cons_succ] at g0 g1
    obtain ⟨k, e0, -, w0⟩ := DataW.trod_int Try.underlying3 g0
    obtain ⟨m, e1, -, w1⟩ := DataW.trod_int Try.underlying3 g1
    simp only [List.cons.injEq, and_true] at e0 e1
    subst e0 e1
    exact ⟨⟨k, m⟩, rfl, wf_inR w0, wf_inR w1⟩
/-- No more than a machine's memory. -/
abbrev Far (n : Nat) : Prop := n ≤ 140737488355328
set_option maxRecDepth 100000 in
theorem instrs_of_trod {H : Type} {enc : TypeId × Value → H} {w : World} (fuel : Nat) (cs : List Value) (x : DataW H × List MemPlace) (h : DataW.trod enc Try.prog w 0 (fun _ => true) true fuel 42 cs = some x) : ∃ (l : List In) (ao : Option Addr) (cap : Nat), cs = [.slice ao l.length cap] ∧ IsIs Any' w l (.slice ao l.length cap) ∧ ((x.1.weights Try.prog 42).all (· ≤ reachBytes) = true → Far l.length) := by
  rcases DataW.trod_slice Try.underlying42 h with ⟨e3, e3'⟩ | ⟨a, len, cap, elems, rest, n', rfl, e3, e3', _, hlc, hcm, hel, hcell, _, _⟩
  · exact ⟨[], none, 0, e3, ⟨⟨rfl, Or.inl ⟨Or.inl rfl, rfl⟩⟩, fun i hi => by simp at hi⟩, fun _ => Nat.zero_le _⟩
  · rw [ifields] at hcell
    have hP : ∀ i, i < len → ∃ v : In, w.cells? 0 (a.add (i * 2)) 2 = some (inCells v) ∧ InR v.op ∧ InR v.a := by
      intro i hi
      obtain ⟨z, hz⟩ : ∃ z, elems[i]? = some z := ⟨_, List.getElem?_eq_getElem (by omega)⟩
      have hb := hcell i hi
      rw [hz, Option.bind_eq_some_iff] at hb
      obtain ⟨cs', h1, h2⟩ := hb
      obtain ⟨v, rfl, h4⟩ := instr_of_trod n' cs' z h2
      exact ⟨v, h1, h4⟩
    obtain ⟨l, hl, hall⟩ := list_ofT len hP
    refine ⟨l, some a, cap, by rw [e3, hl], ⟨?_, fun i hi => ?_⟩, fun hw => ?_⟩
    · rw [hl]
      refine ⟨by rw [inRow_len, hl], ?_⟩
      by_cases h0 : len = 0
      · exact Or.inl ⟨Or.inr ⟨a, cap, by rw [h0], hcm⟩, h0⟩
      · obtain ⟨b, o, sp⟩ := a
        obtain ⟨x0, hx0⟩ : ∃ x0, l[0]? = some x0 := ⟨_, List.getElem?_eq_getElem (by omega)⟩
        have hz0 := (cells2 (hall 0 x0 hx0).1).2 0 _ rfl
        have hspn : sp = none := by simpa [Addr.add] using World.cell?_spot hz0
        subst hspn
        refine Or.inr ⟨b, o, cap, rfl, hlc, hcm, trivial, ?_, fun j u hj => ?_⟩
        · rw [addr_add4, addr_add4] at hz0
          exact World.block_lt_of_cell? w _ hz0
        · obtain ⟨y, g1, g2⟩ := inRow_inv hj
          have := (cells2 (hall (j / 2) y g1).1).2 (j % 2) u g2
          rw [addr_add4, addr_add4] at this
          rw [show o + j = o + j / 2 * 2 + j % 2 by omega]
          exact this
    · obtain ⟨k, hk⟩ := List.mem_iff_getElem?.1 hi
      exact (hall k i hk).2
    · rw [e3'] at hw
      simp only [DataW.weights, Try.underlying42, List.all_cons, Bool.and_eq_true, decide_eq_true_eq, bytes_i, List.length_map] at hw
      have := hw.1
      unfold reachBytes at this
      show l.length ≤ 140737488355328
      omega
set_option maxRecDepth 100000 in
theorem func_of_trod {H : Type} {enc : TypeId × Value → H} {w : World} (fuel : Nat) (cs : List Value) (x : DataW H × List MemPlace) (h : DataW.trod enc Try.prog w 0 (fun _ => true) true fuel 44 cs = some x) : ∃ f : Fu, IsFu Any' w f cs ∧ ((x.1.weights Try.prog 44).all (· ≤ reachBytes) = true → Far f.code.length) := by
  obtain ⟨f0, f1, f2, f3, f4, hst, t0, o0, t1, o1, t2, o2, t3, o3, t4, o4⟩ := fstruct
  obtain ⟨xs, n, rfl, rfl, hlen, hxl, hf⟩ := DataW.trod_struct hst h
  rw [ffields] at hlen
  have hx5 : xs.length = 5 := hxl
  match cs, hlen, xs, hx5, hf with
  | [c0, c1, c2, c3, c4], _, [x0, x1, x2, x3, x4], _, hf =>
    have g0 := hf 0 f0 rfl
    have g1 := hf 1 f1 rfl
    have g2 := hf 2 f2 rfl
    have g3 := hf 3 f3 rfl
    have g4 := hf 4 f4 rfl
    rw [t0, o0, cells_int] at g0
    rw [t1, o1, cells_int] at g1
    rw [t2, o2, cells_int] at g2
    rw [t3, o3, cells_int] at g3
    rw [t4, o4, cells_is] at g4
    simp only [List.drop_zero, List.drop_succ_cons, List.take_succ_cons, List.take_zero, List.getElem?_cons_zero, List.getElem?_cons_succ] at g0 g1 g2 g3 g4
    obtain ⟨a0, e0, rfl, w0⟩ := DataW.trod_int Try.underlying3 g0
    obtain ⟨a1, e1, rfl, w1⟩ := DataW.trod_int Try.underlying3 g1
    obtain ⟨a2, e2, rfl, w2⟩ := DataW.trod_int Try.underlying3 g2
    obtain ⟨a3, e3, rfl, w3⟩ := DataW.trod_int Try.underlying3 g3
    obtain ⟨l, ao, cap, e4, hi, hz⟩ := instrs_of_trod n _ _ g4
    simp only [List.cons.injEq, and_true] at e0 e1 e2 e3 e4
    subst e0 e1 e2 e3 e4
    refine ⟨⟨a0, a1, a2, a3, l⟩, ⟨ao, cap, rfl, wf_inR w0, wf_inR w1, wf_inR w2, wf_inR w3, hi⟩, fun hw => hz ?_⟩
    simp only [DataW.weights, hst, t0, t1, t2, t3, t4, List.map_cons, List.map_nil, DataW.weightsEach, List.nil_append, List.append_nil, List.cons_append, List.all_cons, List.all_append, Bool.and_eq_true, decide_eq_true_eq] at hw
    exact hw
theorem allFu_range {B : Nat → Prop} {w : World} : ∀ (l : List Fu) (c : Nat → List Value), (∀ i v, l[i]? = some v → IsFu B w v (c i)) → AllFu B w l ((List.range l.length).flatMap c)
  | [], c, h => by simp [AllFu]
  | a :: r, c, h => by
    have ih := allFu_range r (fun i => c (i + 1)) (fun i v hi => h (i + 1) v (by simpa using hi))
    rw [List.length_cons, List.range_succ_eq_map, List.flatMap_cons, List.flatMap_map, AllFu]
    exact ⟨c 0, _, rfl, h 0 a (by simp), ih⟩
theorem range_len5 : ∀ (n : Nat) (c : Nat → List Value), (∀ i, i < n → (c i).length = 5) → ((List.range n).flatMap c).length = n * 5
  | 0, c, h => by simp
  | n + 1, c, h => by
    rw [List.range_succ, List.flatMap_append, List.length_append, range_len5 n c (fun i hi => h i (by omega))]
    simp [h n (by omega)]; omega
theorem range_get5 : ∀ (n : Nat) (c : Nat → List Value) (j : Nat) (u : Value), (∀ i, i < n → (c i).length = 5) → ((List.range n).flatMap c)[j]? = some u → j / 5 < n ∧ (c (j / 5))[j % 5]? = some u
  | 0, c, j, u, h, hj => by simp at hj
  | n + 1, c, j, u, h, hj => by
    rw [List.range_succ, List.flatMap_append] at hj
    have hl := range_len5 n c (fun i hi => h i (by omega))
    by_cases hlt : j < n * 5
    · rw [List.getElem?_append_left (by omega)] at hj
      obtain ⟨h1, h2⟩ := range_get5 n c j u (fun i hi => h i (by omega)) hj
      exact ⟨by omega, h2⟩
    · rw [List.getElem?_append_right (by omega), hl] at hj
      simp only [List.flatMap_cons, List.flatMap_nil, List.append_nil] at hj
      have hlen := (List.getElem?_eq_some_iff.1 hj).1
      rw [h n (by omega)] at hlen
      have e1 : j / 5 = n := by omega
      have e2 : j % 5 = j - n * 5 := by omega
      rw [e1, e2]
      exact ⟨by omega, hj⟩
set_option maxRecDepth 100000 in
theorem funcs_of_trod {H : Type} {enc : TypeId × Value → H} {w : World} (fuel : Nat) (cs : List Value) (x : DataW H × List MemPlace) (h : DataW.trod enc Try.prog w 0 (fun _ => true) true fuel 23 cs = some x) : ∃ (l : List Fu) (ao : Option Addr) (cap : Nat), cs = [.slice ao l.length cap] ∧ IsFus Any' w l (.slice ao l.length cap) ∧ ((x.1.weights Try.prog 23).all (· ≤ reachBytes) = true → ∀ f ∈ l, Far f.code.length) := by
  rcases DataW.trod_slice Try.underlying23 h with ⟨e3, e3'⟩ | ⟨a, len, cap, elems, rest, n', rfl, e3, e3', _, hlc, hcm, hel, hcell, _, _⟩
  · exact ⟨[], none, 0, e3, ⟨[], ⟨rfl, Or.inl ⟨Or.inl rfl, rfl⟩⟩, by rw [AllFu]⟩, fun _ y hy => by simp at hy⟩
  · rw [ffields] at hcell
    have hP : ∀ i, i < len → ∃ v : Fu, ∃ cs', w.cells? 0 (a.add (i * 5)) 5 = some cs' ∧ IsFu Any' w v cs' ∧ ((x.1.weights Try.prog 23).all (· ≤ reachBytes) = true → Far v.code.length) := by
      intro i hi
      obtain ⟨z, hz⟩ : ∃ z, elems[i]? = some z := ⟨_, List.getElem?_eq_getElem (by omega)⟩
      have hb := hcell i hi
      rw [hz, Option.bind_eq_some_iff] at hb
      obtain ⟨cs', h1, h2⟩ := hb
      obtain ⟨v, h3, h4⟩ := func_of_trod n' cs' z h2
      refine ⟨v, cs', h1, h3, fun hw => h4 ?_⟩
      rw [e3'] at hw
      simp only [DataW.weights, Try.underlying23, List.all_cons, List.all_append, Bool.and_eq_true] at hw
      rw [List.all_eq_true]
      intro q hq
      exact List.all_eq_true.1 hw.2.1 q (weightsAll_mem (List.mem_map.2 ⟨z, List.mem_of_getElem? hz, rfl⟩) q hq)
    obtain ⟨l, hl, hall⟩ := list_ofT len hP
    obtain ⟨c, hc⟩ : ∃ c : Nat → List Value, ∀ i, c i = (w.cells? 0 (a.add (i * 5)) 5).getD [] := ⟨_, fun _ => rfl⟩
    have hci : ∀ i, i < len → w.cells? 0 (a.add (i * 5)) 5 = some (c i) ∧ ∃ v, l[i]? = some v ∧ IsFu Any' w v (c i) := by
      intro i hi
      obtain ⟨v, hv⟩ : ∃ v, l[i]? = some v := ⟨_, List.getElem?_eq_getElem (by omega)⟩
      obtain ⟨cs', h1, h2, _⟩ := hall i v hv
      have e : c i = cs' := by rw [hc, h1]; rfl
      rw [e]
      exact ⟨h1, v, hv, h2⟩
    have hc5 : ∀ i, i < len → (c i).length = 5 := fun i hi => (cells5 (hci i hi).1).1
    have hvs : IsFus Any' w l (.slice (some a) len cap) := by
      subst hl
      refine ⟨(List.range l.length).flatMap c, ⟨range_len5 _ c hc5, ?_⟩, allFu_range l c (fun i v hi => ?_)⟩
      · by_cases h0 : l.length = 0
        · exact Or.inl ⟨Or.inr ⟨a, cap, by rw [h0], hcm⟩, h0⟩
        · obtain ⟨b, o, sp⟩ := a
          have hfirst := (cells5 (hci 0 (by omega)).1).2
          obtain ⟨u0, hu0⟩ : ∃ u, (c 0)[0]? = some u := ⟨_, List.getElem?_eq_getElem (by rw [hc5 0 (by omega)]; omega)⟩
          have hz0 := hfirst 0 u0 hu0
          have hspn : sp = none := by simpa [Addr.add] using World.cell?_spot hz0
          subst hspn
          refine Or.inr ⟨b, o, cap, rfl, hlc, hcm, trivial, ?_, fun j u hj => ?_⟩
          · rw [addr_add4, addr_add4] at hz0
            exact World.block_lt_of_cell? w _ hz0
          · obtain ⟨g1, g2⟩ := range_get5 _ c j u hc5 hj
            have := (cells5 (hci (j / 5) g1).1).2 (j % 5) u g2
            rw [addr_add4, addr_add4] at this
            rw [show o + j = o + j / 5 * 5 + j % 5 by omega]
            exact this
      · obtain ⟨_, v', hv', hi'⟩ := hci i (List.getElem?_eq_some_iff.1 hi).1
        rw [hi] at hv'
        cases hv'
        exact hi'
    refine ⟨l, some a, cap, by rw [e3, hl], by rw [hl]; exact hvs, fun hw y hy => ?_⟩
    obtain ⟨i, hi⟩ := List.mem_iff_getElem?.1 hy
    obtain ⟨_, _, _, h5⟩ := hall i y hi
    exact h5 hw
/-- A module's sizes. -/
structure SzM (m : Md) : Prop where
  con : ∀ v ∈ m.consts, SzV v ∧ Far v.l.length
  fun_ : ∀ f ∈ m.funcs, Far f.code.length
set_option maxRecDepth 100000 in
/-- A list of values is no longer than memory. -/
theorem val_far {H : Type} {enc : TypeId × Value → H} {w : World} (fuel : Nat) (cs : List Value) (x : DataW H × List MemPlace) (h : DataW.trod enc Try.prog w 0 (fun _ => true) true fuel 29 cs = some x) (hw : (x.1.weights Try.prog 29).all (· ≤ reachBytes) = true) (v : V) (hv : IsV Any' w v cs) : Far v.l.length := by
  obtain ⟨f0, f1, f2, f3, hst, t0, o0, t1, o1, t2, o2, t3, o3⟩ := vstruct
  obtain ⟨xs, n, rfl, rfl, hlen, hxl, hf⟩ := DataW.trod_struct hst h
  rw [vfields] at hlen
  have hx4 : xs.length = 4 := hxl
  obtain ⟨sl, hcs, hW⟩ := isV_iff.1 hv
  obtain ⟨ao, cap, rfl, _, _⟩ := hW.vs.slice
  subst hcs
  match xs, hx4, hf with
  | [x0, x1, x2, x3], _, hf =>
    have g3 := hf 3 f3 rfl
    rw [t3, o3, cells_sl] at g3
    simp only [List.drop_zero, List.drop_succ_cons, List.take_succ_cons, List.take_zero, List.getElem?_cons_zero, List.getElem?_cons_succ] at g3
    rcases DataW.trod_slice Try.underlying22 g3 with ⟨e3, e3'⟩ | ⟨a, len, cap', elems, rest, n', rfl, e3, e3', _, hlc, hcm, hel, hcell, _, _⟩
    · simp only [List.cons.injEq, Value.slice.injEq, and_true] at e3
      show v.l.length ≤ _
      omega
    · simp only [List.cons.injEq, Value.slice.injEq, and_true] at e3
      have h1 : (x3.1.weights Try.prog 22).all (· ≤ reachBytes) = true := by
        rw [List.all_eq_true] at hw ⊢
        intro q hq
        refine hw q ?_
        simp only [DataW.weights, hst, t0, t1, t2, t3, List.map_cons, List.map_nil, DataW.weightsEach, List.append_nil]
        simp only [List.mem_append]
        exact Or.inr (Or.inr (Or.inr hq))
      rw [e3'] at h1
      simp only [DataW.weights, Try.underlying22, List.all_cons, Bool.and_eq_true, decide_eq_true_eq, bytes_v, List.length_map] at h1
      have := h1.1
      unfold reachBytes at this
      show v.l.length ≤ 140737488355328
      omega
set_option maxRecDepth 100000 in
theorem valsz_of_trod {H : Type} {enc : TypeId × Value → H} {w : World} (fuel : Nat) (cs : List Value) (x : DataW H × List MemPlace) (h : DataW.trod enc Try.prog w 0 (fun _ => true) true fuel 22 cs = some x) : ∃ (l : List V) (ao : Option Addr) (cap : Nat), cs = [.slice ao l.length cap] ∧ IsVs Any' w l (.slice ao l.length cap) ∧ ((x.1.weights Try.prog 22).all (· ≤ reachBytes) = true → ∀ y ∈ l, SzV y ∧ Far y.l.length) := by
  have h0 := h
  obtain ⟨l, ao, cap, e1, e2, e4⟩ := vals_of_trod fuel cs x h0
  refine ⟨l, ao, cap, e1, e2, fun hw y hy => ⟨e4 hw y hy, ?_⟩⟩
  subst e1
  rcases DataW.trod_slice Try.underlying22 h with ⟨e3, e3'⟩ | ⟨a, len, cap', elems, rest, n', rfl, e3, e3', _, hlc, hcm, hel, hcell, _, _⟩
  · simp only [List.cons.injEq, Value.slice.injEq, and_true] at e3
    have : l = [] := List.length_eq_zero_iff.1 e3.2.1
    subst this
    simp at hy
  · rw [vfields] at hcell
    simp only [List.cons.injEq, Value.slice.injEq, and_true] at e3
    obtain ⟨rfl, rfl, rfl⟩ := e3
    obtain ⟨i, hi⟩ := List.mem_iff_getElem?.1 hy
    have hil := (List.getElem?_eq_some_iff.1 hi).1
    obtain ⟨z, hz⟩ : ∃ z, elems[i]? = some z := ⟨_, List.getElem?_eq_getElem (by omega)⟩
    have hb := hcell i hil
    rw [hz, Option.bind_eq_some_iff] at hb
    obtain ⟨cs', h1, h2⟩ := hb
    obtain ⟨g, o, ax, cx, e, _, hg, c0, c1, c2, c3, hwy⟩ := e2.get hi
    cases e
    have hc := cells4 h1
    have hcs' : cs' = [.int .i64 y.k, .int .i64 y.n, .string ⟨y.t.toArray⟩, .slice ax y.l.length cx] := by
      obtain ⟨hl4, hc2⟩ := hc
      match cs', hl4, hc2 with
      | [d0, d1, d2, d3], _, hc2 =>
        have k0 := hc2 0 d0 rfl
        have k1 := hc2 1 d1 rfl
        have k2 := hc2 2 d2 rfl
        have k3 := hc2 3 d3 rfl
        rw [addr_add4, addr_add4] at k0 k1 k2 k3
        rw [Nat.add_zero, c0] at k0
        rw [c1] at k1
        rw [c2] at k2
        rw [c3] at k3
        cases k0; cases k1; cases k2; cases k3
        rfl
    refine val_far n' cs' z h2 ?_ y (isV_iff.2 ⟨_, hcs', hwy⟩)
    rw [e3'] at hw
    simp only [DataW.weights, Try.underlying22, List.all_cons, List.all_append, Bool.and_eq_true] at hw
    rw [List.all_eq_true]
    intro q hq
    exact List.all_eq_true.1 hw.2.1 q (weightsAll_mem (List.mem_map.2 ⟨z, List.mem_of_getElem? hz, rfl⟩) q hq)
set_option maxRecDepth 100000 in
/-- An argument that is a module. -/
theorem mod_open {H : Type} {enc : TypeId × Value → H} {W : World} {base : Nat} {v : Value} {d : DataW H} {p : List MemPlace} (hv : Value.okWide Try.prog W .any base 25 v) (h : DataW.Trod enc Try.prog W 0 (fun _ => true) true 25 v d p) :
    ∃ (m : Md) (ac : Option Addr) (cc : Nat) (af : Option Addr) (cf : Nat), v = .agg #[.slice ac m.consts.length cc, .slice af m.funcs.length cf] ∧ IsMd Any' W m (.slice ac m.consts.length cc) (.slice af m.funcs.length cf) ∧ ((d.weights Try.prog 25).all (· ≤ reachBytes) = true → SzM m) := by
  obtain ⟨f0, f1, hst, t0, o0, t1, o1⟩ := mstruct
  unfold Value.okWide at hv
  rw [hst] at hv
  obtain ⟨cs, rfl, _, _⟩ := hv
  obtain ⟨fuel, hf⟩ := h
  obtain ⟨xs, n, rfl, e, hlen, hxl, hff⟩ := DataW.trod_struct hst hf
  simp only [Prod.mk.injEq] at e
  obtain ⟨rfl, -⟩ := e
  rw [mfields] at hlen
  have hx2 : xs.length = 2 := hxl
  have hcs : ∃ c0 c1, cs = #[c0, c1] := by
    obtain ⟨l⟩ := cs
    match l, hlen with
    | [c0, c1], _ => exact ⟨c0, c1, rfl⟩
  obtain ⟨c0, c1, rfl⟩ := hcs
  clear hf
  match xs, hx2, hff with
  | [x0, x1], _, hf =>
    have g0 := hf 0 f0 rfl
    have g1 := hf 1 f1 rfl
    rw [t0, o0, cells_sl] at g0
    rw [t1, o1, cells_fs] at g1
    simp only [Value.cells, List.drop_zero, List.drop_succ_cons, List.take_succ_cons, List.take_zero, List.getElem?_cons_zero, List.getElem?_cons_succ] at g0 g1
    obtain ⟨l0, a0, k0, e0, hi0, hz0⟩ := valsz_of_trod n _ _ g0
    obtain ⟨l1, a1, k1, e1, hi1, hz1⟩ := funcs_of_trod n _ _ g1
    simp only [List.cons.injEq, and_true] at e0 e1
    subst e0 e1
    refine ⟨⟨l0, l1⟩, a0, k0, a1, k1, rfl, ⟨hi0, hi1⟩, fun hw => ?_⟩
    simp only [DataW.weights, hst, t0, t1, List.map_cons, List.map_nil, DataW.weightsEach, List.append_nil, List.all_append, Bool.and_eq_true] at hw
    exact ⟨hz0 hw.1, hz1 hw.2⟩
end Go.Proofs.Ytndahpcjkcihlaa
