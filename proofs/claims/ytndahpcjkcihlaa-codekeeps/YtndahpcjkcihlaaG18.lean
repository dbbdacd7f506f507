/- Texts of ours, joined: Lop, Lov. -/
import Derived.Test.YtndahpcjkcihlaaG01
import Derived.Test.YtndahpcjkcihlaaG17
import Derived.Test.YtndahpcjkcihlaaRows
import Derived.ProofKit
import Derived.OpenShut
import Derived.ShutString
import Derived.ChangeOld
import Derived.Stop.Joined
import Derived.SizedLaws
import Derived.SliceStrings
import Derived.Carry
/- From how an argument that is a value is read to what the walks ask. -/
namespace Go.Proofs.Ytndahpcjkcihlaa
open Go.ChangeShapes Go.WideShapes Go.ChangeAt Go.RowKit
set_option linter.unusedVariables false
set_option linter.unusedSimpArgs false

abbrev Any' : Nat → Prop := fun _ => True
theorem allV_range {B : Nat → Prop} {w : World} : ∀ (l : List V) (c : Nat → List Value), (∀ i v, l[i]? = some v → IsV B w v (c i)) → AllV B w l ((List.range l.length).flatMap c)
  | [], c, h => by simp [AllV]
  | a :: r, c, h => by
    have ih := allV_range r (fun i => c (i + 1)) (fun i v hi => h (i + 1) v (by simpa using hi))
    rw [List.length_cons, List.range_succ_eq_map, List.flatMap_cons, List.flatMap_map, AllV]
    exact ⟨c 0, _, rfl, h 0 a (by simp), ih⟩
theorem range_len : ∀ (n : Nat) (c : Nat → List Value), (∀ i, i < n → (c i).length = 4) → ((List.range n).flatMap c).length = n * 4
  | 0, c, h => by simp
  | n + 1, c, h => by
    rw [List.range_succ, List.flatMap_append, List.length_append, range_len n c (fun i hi => h i (by omega))]
    simp [h n (by omega)]; omega
theorem range_get : ∀ (n : Nat) (c : Nat → List Value) (j : Nat) (u : Value), (∀ i, i < n → (c i).length = 4) → ((List.range n).flatMap c)[j]? = some u → j / 4 < n ∧ (c (j / 4))[j % 4]? = some u
  | 0, c, j, u, h, hj => by simp at hj
  | n + 1, c, j, u, h, hj => by
    rw [List.range_succ, List.flatMap_append] at hj
    have hl := range_len n c (fun i hi => h i (by omega))
    by_cases hlt : j < n * 4
    · rw [List.getElem?_append_left (by omega)] at hj
      obtain ⟨h1, h2⟩ := range_get n c j u (fun i hi => h i (by omega)) hj
      exact ⟨by omega, h2⟩
    · rw [List.getElem?_append_right (by omega), hl] at hj
      simp only [List.flatMap_cons, List.flatMap_nil, List.append_nil] at hj
      have hlen := (List.getElem?_eq_some_iff.1 hj).1
      rw [h n (by omega)] at hlen
      have e1 : j / 4 = n := by omega
      have e2 : j % 4 = j - n * 4 := by omega
      rw [e1, e2]
      exact ⟨by omega, hj⟩
theorem list_of {P : Nat → V → Prop} : ∀ (n : Nat), (∀ i, i < n → ∃ v, P i v) → ∃ l : List V, l.length = n ∧ ∀ i v, l[i]? = some v → P i v
  | 0, h => ⟨[], rfl, fun i v hi => by simp at hi⟩
  | n + 1, h => by
    obtain ⟨l, h1, h2⟩ := list_of n (fun i hi => h i (by omega))
    obtain ⟨v, hv⟩ := h n (by omega)
    refine ⟨l ++ [v], by simp [h1], fun i x hi => ?_⟩
    by_cases hlt : i < n
    · rw [List.getElem?_append_left (by omega)] at hi
      exact h2 i x hi
    · have hlen := (List.getElem?_eq_some_iff.1 hi).1
      simp [h1] at hlen
      have : i = n := by omega
      subst this
      rw [List.getElem?_append_right (by omega), h1] at hi
      simp at hi
      subst hi
      exact hv
theorem cells4 {w : World} {a : Addr} {cs : List Value} (h : w.cells? 0 a 4 = some cs) : cs.length = 4 ∧ ∀ r u, cs[r]? = some u → w.cell? (a.add r) = some u := by
  simp only [World.cells?, Nat.zero_le, if_true] at h
  simp only [List.range_succ, List.range_zero, List.nil_append, List.cons_append, List.mapM_cons, List.mapM_nil, Option.bind_eq_bind, Option.pure_def] at h
  simp only [Option.bind_eq_some_iff, Option.some.injEq] at h
  obtain ⟨c0, h0, r0, ⟨c1, h1, r1, ⟨c2, h2, r2, ⟨c3, h3, _, rfl, rfl⟩, rfl⟩, rfl⟩, rfl⟩ := h
  refine ⟨rfl, fun r u hr => ?_⟩
  have := (List.getElem?_eq_some_iff.1 hr).1
  simp only [List.length_cons, List.length_nil] at this
  have hc : r = 0 ∨ r = 1 ∨ r = 2 ∨ r = 3 := by omega
  rcases hc with rfl | rfl | rfl | rfl <;> (simp at hr; subst hr; assumption)
theorem wf_inR {n : Int} (h : (Lit.int .i64 n).wf = true) : InR n := by
  simp [Lit.wf, IntKind.min, IntKind.max, IntKind.bits, IntKind.signed] at h
  unfold InR
  omega
theorem vfields : Try.prog.cellsOf 29 = 4 := by kernel_rfl
theorem cells_int : Try.prog.cellsOf 3 = 1 := by kernel_rfl
theorem cells_str : Try.prog.cellsOf 9 = 1 := by kernel_rfl
theorem cells_sl : Try.prog.cellsOf 22 = 1 := by kernel_rfl
/-- What a value's own fields are. -/
theorem vstruct : ∃ f0 f1 f2 f3 : Field, Try.prog.underlying 29 = some (.struct #[f0, f1, f2, f3]) ∧ f0.type = 3 ∧ f0.offset = 0 ∧ f1.type = 3 ∧ f1.offset = 1 ∧ f2.type = 9 ∧ f2.offset = 2 ∧ f3.type = 22 ∧ f3.offset = 3 := ⟨_, _, _, _, Try.underlying29, rfl, rfl, rfl, rfl, rfl, rfl, rfl, rfl⟩
theorem szVs_of : ∀ {l : List V}, (∀ x ∈ l, SzV x) → SzVs l
  | [], h => by rw [SzVs]; trivial
  | a :: r, h => by rw [SzVs]; exact ⟨h a (by simp), szVs_of (fun x hx => h x (by simp [hx]))⟩
theorem weightsAll_mem {H : Type} {P : Program} {e : TypeId} : ∀ {l : List (DataW H)} {d : DataW H}, d ∈ l → ∀ n ∈ d.weights P e, n ∈ DataW.weightsAll P e l
  | a :: r, d, h, n, hn => by
    rw [DataW.weightsAll]
    rcases List.mem_cons.1 h with rfl | h
    · exact List.mem_append_left _ hn
    · exact List.mem_append_right _ (weightsAll_mem h n hn)
theorem addr_add4 {b o : Nat} (i : Nat) : (⟨b, o, none⟩ : Addr).add i = ⟨b, o + i, none⟩ := by by_cases h : i = 0 <;> simp [Addr.add, h]
set_option maxRecDepth 100000 in
theorem val_of_trod {H : Type} {enc : TypeId × Value → H} {w : World} : ∀ (fuel : Nat) (cs : List Value) (x : DataW H × List MemPlace), DataW.trod enc Try.prog w 0 (fun _ => true) true fuel 29 cs = some x → ∃ v, IsV Any' w v cs ∧ ((x.1.weights Try.prog 29).all (· ≤ reachBytes) = true → SzV v) := by
  intro fuel
  induction fuel using Nat.strongRecOn with
  | _ fuel ih =>
    intro cs x h
    obtain ⟨f0, f1, f2, f3, hst, t0, o0, t1, o1, t2, o2, t3, o3⟩ := vstruct
    obtain ⟨xs, n, rfl, rfl, hlen, hxl, hf⟩ := DataW.trod_struct hst h
    rw [vfields] at hlen
    have hx4 : xs.length = 4 := hxl
    match cs, hlen, xs, hx4, hf with
    | [c0, c1, c2, c3], _, [x0, x1, x2, x3], _, hf =>
      have g0 := hf 0 f0 rfl
      have g1 := hf 1 f1 rfl
      have g2 := hf 2 f2 rfl
      have g3 := hf 3 f3 rfl
      rw [t0, o0, cells_int] at g0
      rw [t1, o1, cells_int] at g1
      rw [t2, o2, cells_str] at g2
      rw [t3, o3, cells_sl] at g3
      simp only [List.drop_zero, List.drop_succ_cons, List.take_succ_cons, List.take_zero, List.getElem?_cons_zero, List.getElem?_cons_succ] at g0 g1 g2 g3
      obtain ⟨k, e0, rfl, w0⟩ := DataW.trod_int Try.underlying3 g0
      obtain ⟨m, e1, rfl, w1⟩ := DataW.trod_int Try.underlying3 g1
      obtain ⟨s, e2, rfl, hs⟩ := DataW.trod_string Try.underlying9 g2
      simp only [List.cons.injEq, and_true] at e0 e1 e2
      subst e0 e1 e2
      have hss : s = ⟨s.data.toList.toArray⟩ := by simp
      have hsl : s.data.toList.length ≤ maxLen := by simpa using hs
      have hwts : ((DataW.agg ([(DataW.lit (.int .i64 k), []), (DataW.lit (.int .i64 m), []), (DataW.lit (.string s.data.toList), []), x3].map (·.1)) : DataW H).weights Try.prog 29).all (· ≤ reachBytes) = true → s.data.toList.length ≤ reachBytes ∧ (x3.1.weights Try.prog 22).all (· ≤ reachBytes) = true := by
        intro hw
        simp only [DataW.weights, hst, t0, t1, t2, t3, List.map_cons, List.map_nil, DataW.weightsEach, List.nil_append, List.append_nil, List.cons_append, List.all_cons, List.all_append, Bool.and_eq_true, decide_eq_true_eq] at hw
        exact hw
      have hreach : reachBytes ≤ 281474976710656 := by decide
      rcases DataW.trod_slice Try.underlying22 g3 with ⟨e3, e3'⟩ | ⟨a, len, cap, elems, rest, n', rfl, e3, e3', _, hlc, hcm, hel, hcell, _, _⟩
      · simp only [List.cons.injEq, and_true] at e3
        subst e3
        refine ⟨.mk k m s.data.toList [], isV_iff.2 ⟨.slice none 0 0, ?_, hsl, wf_inR w0, wf_inR w1, IsVs.nil⟩, fun hw => ?_⟩
        · simp [V.k, V.n, V.t]
        · rw [SzV]
          exact ⟨Nat.le_trans (hwts hw).1 hreach, by rw [SzVs]; trivial⟩
      · simp only [List.cons.injEq, and_true] at e3
        subst e3
        rw [vfields] at hcell
        have hP : ∀ i, i < len → ∃ v, ∃ cs', w.cells? 0 (a.add (i * 4)) 4 = some cs' ∧ IsV Any' w v cs' ∧ ((x3.1.weights Try.prog 22).all (· ≤ reachBytes) = true → SzV v) := by
          intro i hi
          obtain ⟨z, hz⟩ : ∃ z, elems[i]? = some z := ⟨_, List.getElem?_eq_getElem (by omega)⟩
          have hb := hcell i hi
          rw [hz, Option.bind_eq_some_iff] at hb
          obtain ⟨cs', h1, h2⟩ := hb
          obtain ⟨v, h3, h4⟩ := ih n' (by omega) cs' z h2
          refine ⟨v, cs', h1, h3, fun hw => h4 ?_⟩
          rw [e3'] at hw
          simp only [DataW.weights, Try.underlying22, List.all_cons, List.all_append, Bool.and_eq_true] at hw
          rw [List.all_eq_true]
          intro q hq
          exact List.all_eq_true.1 hw.2.1 q (weightsAll_mem (List.mem_map.2 ⟨z, List.mem_of_getElem? hz, rfl⟩) q hq)
        obtain ⟨l, hl, hall⟩ := list_of len hP
        obtain ⟨c, hc⟩ : ∃ c : Nat → List Value, ∀ i, c i = (w.cells? 0 (a.add (i * 4)) 4).getD [] := ⟨_, fun _ => rfl⟩
        have hci : ∀ i, i < len → w.cells? 0 (a.add (i * 4)) 4 = some (c i) ∧ ∃ v, l[i]? = some v ∧ IsV Any' w v (c i) := by
          intro i hi
          obtain ⟨v, hv⟩ : ∃ v, l[i]? = some v := ⟨_, List.getElem?_eq_getElem (by omega)⟩
          obtain ⟨cs', h1, h2, _⟩ := hall i v hv
          have e : c i = cs' := by rw [hc, h1]; rfl
          rw [e]
          exact ⟨h1, v, hv, h2⟩
        have hc4 : ∀ i, i < len → (c i).length = 4 := fun i hi => (cells4 (hci i hi).1).1
        have hvs : IsVs Any' w l (.slice (some a) len cap) := by
          subst hl
          refine ⟨(List.range l.length).flatMap c, ⟨range_len _ c hc4, ?_⟩, allV_range l c (fun i v hi => ?_)⟩
          · by_cases h0 : l.length = 0
            · exact Or.inl ⟨Or.inr ⟨a, cap, by rw [h0], hcm⟩, h0⟩
            · obtain ⟨b, o, sp⟩ := a
              have hfirst := (cells4 (hci 0 (by omega)).1).2
              obtain ⟨u0, hu0⟩ : ∃ u, (c 0)[0]? = some u := ⟨_, List.getElem?_eq_getElem (by rw [hc4 0 (by omega)]; omega)⟩
              have hz0 := hfirst 0 u0 hu0
              have hspn : sp = none := by simpa [Addr.add] using World.cell?_spot hz0
              subst hspn
              refine Or.inr ⟨b, o, cap, rfl, hlc, hcm, trivial, ?_, fun j u hj => ?_⟩
              · rw [addr_add4, addr_add4] at hz0
                exact World.block_lt_of_cell? w _ hz0
              · obtain ⟨g1, g2⟩ := range_get _ c j u hc4 hj
                have := (cells4 (hci (j / 4) g1).1).2 (j % 4) u g2
                rw [addr_add4, addr_add4] at this
                rw [show o + j = o + j / 4 * 4 + j % 4 by omega]
                exact this
          · obtain ⟨_, v', hv', hi'⟩ := hci i (List.getElem?_eq_some_iff.1 hi).1
            rw [hi] at hv'
            cases hv'
            exact hi'
        refine ⟨.mk k m s.data.toList l, isV_iff.2 ⟨.slice (some a) len cap, ?_, hsl, wf_inR w0, wf_inR w1, hvs⟩, fun hw => ?_⟩
        · simp [V.k, V.n, V.t]
        · rw [SzV]
          refine ⟨Nat.le_trans (hwts hw).1 hreach, szVs_of fun x hx => ?_⟩
          obtain ⟨i, hi⟩ := List.mem_iff_getElem?.1 hx
          obtain ⟨_, _, _, h5⟩ := hall i x hi
          exact h5 (hwts hw).2
theorem own : ownKnob Try.prog.godebug = none := by kernel_rfl
theorem laidOut : laidOutB Try.prog = true := by kernel_rfl
set_option maxRecDepth 100000 in
/-- An argument that is a value. -/
theorem val_open {H : Type} {enc : TypeId × Value → H} {W : World} {base : Nat} {v : Value} {d : DataW H} {p : List MemPlace} (hv : Value.okWide Try.prog W .any base 29 v) (h : DataW.Trod enc Try.prog W 0 (fun _ => true) true 29 v d p) :
    ∃ x ao cap, v = .agg #[.int .i64 x.k, .int .i64 x.n, .string ⟨x.t.toArray⟩, .slice ao x.l.length cap] ∧ IsW Any' W x (.slice ao x.l.length cap) ∧ ((d.weights Try.prog 29).all (· ≤ reachBytes) = true → SzV x) := by
  obtain ⟨f0, f1, f2, f3, hst, _⟩ := vstruct
  unfold Value.okWide at hv
  rw [hst] at hv
  obtain ⟨cs, rfl, _, _⟩ := hv
  obtain ⟨fuel, hf⟩ := h
  obtain ⟨x, h1, h2⟩ := val_of_trod fuel _ _ hf
  obtain ⟨sl, h3, h4⟩ := isV_iff.1 h1
  obtain ⟨ao, cap, rfl, _, _⟩ := h4.vs.slice
  refine ⟨x, ao, cap, ?_, h4, h2⟩
  have h5 : cs.toList = [.int .i64 x.k, .int .i64 x.n, .string ⟨x.t.toArray⟩, .slice ao x.l.length cap] := h3
  have h6 : cs = #[.int .i64 x.k, .int .i64 x.n, .string ⟨x.t.toArray⟩, .slice ao x.l.length cap] := by
    apply Array.toList_inj.mp
    rw [h5]
  rw [h6]
theorem weights_at {H : Type} {ts : List TypeId} {ds : List (DataW H)} {j : Nat} {t : TypeId} {d : DataW H} (h : (DataW.weightsEach Try.prog ts ds).all (· ≤ reachBytes) = true) (h1 : ts[j]? = some t) (h2 : ds[j]? = some d) : (d.weights Try.prog t).all (· ≤ reachBytes) = true := by
  rw [List.all_eq_true]
  intro n hn
  exact List.all_eq_true.1 h n (DataW.weights_mem_each h1 h2 n hn)
end Go.Proofs.Ytndahpcjkcihlaa
/- From how an argument that is a list of values is read to what the walks ask. -/
namespace Go.Proofs.Ytndahpcjkcihlaa
open Go.ChangeShapes Go.WideShapes Go.ChangeAt Go.RowKit
set_option linter.unusedVariables false
set_option linter.unusedSimpArgs false

set_option maxRecDepth 100000 in
theorem vals_of_trod {H : Type} {enc : TypeId × Value → H} {w : World} (fuel : Nat) (cs : List Value) (x : DataW H × List MemPlace) (h : DataW.trod enc Try.prog w 0 (fun _ => true) true fuel 22 cs = some x) : ∃ (l : List V) (ao : Option Addr) (cap : Nat), cs = [.slice ao l.length cap] ∧ IsVs Any' w l (.slice ao l.length cap) ∧ ((x.1.weights Try.prog 22).all (· ≤ reachBytes) = true → ∀ y ∈ l, SzV y) := by
  rcases DataW.trod_slice Try.underlying22 h with ⟨e3, e3'⟩ | ⟨a, len, cap, elems, rest, n', rfl, e3, e3', _, hlc, hcm, hel, hcell, _, _⟩
  · exact ⟨[], none, 0, e3, IsVs.nil, fun _ y hy => by simp at hy⟩
  · rw [vfields] at hcell
    have hP : ∀ i, i < len → ∃ v, ∃ cs', w.cells? 0 (a.add (i * 4)) 4 = some cs' ∧ IsV Any' w v cs' ∧ ((x.1.weights Try.prog 22).all (· ≤ reachBytes) = true → SzV v) := by
      intro i hi
      obtain ⟨z, hz⟩ : ∃ z, elems[i]? = some z := ⟨_, List.getElem?_eq_getElem (by omega)⟩
      have hb := hcell i hi
      rw [hz, Option.bind_eq_some_iff] at hb
      obtain ⟨cs', h1, h2⟩ := hb
      obtain ⟨v, h3, h4⟩ := val_of_trod n' cs' z h2
      refine ⟨v, cs', h1, h3, fun hw => h4 ?_⟩
      rw [e3'] at hw
      simp only [DataW.weights, Try.underlying22, List.all_cons, List.all_append, Bool.and_eq_true] at hw
      rw [List.all_eq_true]
      intro q hq
      exact List.all_eq_true.1 hw.2.1 q (weightsAll_mem (List.mem_map.2 ⟨z, List.mem_of_getElem? hz, rfl⟩) q hq)
    obtain ⟨l, hl, hall⟩ := list_of len hP
    obtain ⟨c, hc⟩ : ∃ c : Nat → List Value, ∀ i, c i = (w.cells? 0 (a.add (i * 4)) 4).getD [] := ⟨_, fun _ => rfl⟩
    have hci : ∀ i, i < len → w.cells? 0 (a.add (i * 4)) 4 = some (c i) ∧ ∃ v, l[i]? = some v ∧ IsV Any' w v (c i) := by
      intro i hi
      obtain ⟨v, hv⟩ : ∃ v, l[i]? = some v := ⟨_, List.getElem?_eq_getElem (by omega)⟩
      obtain ⟨cs', h1, h2, _⟩ := hall i v hv
      have e : c i = cs' := by rw [hc, h1]; rfl
      rw [e]
      exact ⟨h1, v, hv, h2⟩
    have hc4 : ∀ i, i < len → (c i).length = 4 := fun i hi => (cells4 (hci i hi).1).1
    have hvs : IsVs Any' w l (.slice (some a) len cap) := by
      subst hl
      refine ⟨(List.range l.length).flatMap c, ⟨range_len _ c hc4, ?_⟩, allV_range l c (fun i v hi => ?_)⟩
      · by_cases h0 : l.length = 0
        · exact Or.inl ⟨Or.inr ⟨a, cap, by rw [h0], hcm⟩, h0⟩
        · obtain ⟨b, o, sp⟩ := a
          have hfirst := (cells4 (hci 0 (by omega)).1).2
          obtain ⟨u0, hu0⟩ : ∃ u, (c 0)[0]? = some u := ⟨_, List.getElem?_eq_getElem (by rw [hc4 0 (by omega)]; omega)⟩
          have hz0 := hfirst 0 u0 hu0
          have hspn : sp = none := by simpa [Addr.add] using World.cell?_spot hz0
          subst hspn
          refine Or.inr ⟨b, o, cap, rfl, hlc, hcm, trivial, ?_, fun j u hj => ?_⟩
          · rw [addr_add4, addr_add4] at hz0
            exact World.block_lt_of_cell? w _ hz0
          · obtain ⟨g1, g2⟩ := range_get _ c j u hc4 hj
            have := (cells4 (hci (j / 4) g1).1).2 (j % 4) u g2
            rw [addr_add4, addr_add4] at this
            rw [show o + j = o + j / 4 * 4 + j % 4 by omega]
            exact this
      · obtain ⟨_, v', hv', hi'⟩ := hci i (List.getElem?_eq_some_iff.1 hi).1
        rw [hi] at hv'
        cases hv'
        exact hi'
    refine ⟨l, some a, cap, by rw [e3, hl], by rw [hl]; exact hvs, fun hw y hy => ?_⟩
    obtain ⟨i, hi⟩ := List.mem_iff_getElem?.1 hy
    obtain ⟨_, _, _, h5⟩ := hall i y hi
    exact h5 hw
set_option maxRecDepth 100000 in
/-- An argument that is a list of values. -/
theorem vals_open {H : Type} {enc : TypeId × Value → H} {W : World} {base : Nat} {v : Value} {d : DataW H} {p : List MemPlace} (hv : Value.okWide Try.prog W .any base 22 v) (h : DataW.Trod enc Try.prog W 0 (fun _ => true) true 22 v d p) :
    ∃ (l : List V) (ao : Option Addr) (cap : Nat), v = .slice ao l.length cap ∧ IsVs Any' W l (.slice ao l.length cap) ∧ ((d.weights Try.prog 22).all (· ≤ reachBytes) = true → ∀ y ∈ l, SzV y) := by
  obtain ⟨fuel, hf⟩ := h
  obtain ⟨l, ao, cap, h1, h2, h3⟩ := vals_of_trod fuel _ _ hf
  unfold Value.okWide at hv
  rw [Try.underlying22] at hv
  have hv' : Cell.okWide Try.prog W .any base 22 v := hv
  by_cases hc : v.cells = #[v]
  · rw [hc] at h1
    have h4 : v = .slice ao l.length cap := by simpa using h1
    exact ⟨l, ao, cap, h4, h2, h3⟩
  · exfalso
    cases v with
    | agg cs =>
      unfold Cell.okWide at hv'
      rw [Try.underlying22] at hv'
      have hv2 : Cell.ok Try.prog W .any base 22 (.agg cs) := hv'
      unfold Cell.ok at hv2
      rw [Try.underlying22] at hv2
      first | exact hv2 | (simp at hv2)
    | _ => exact hc rfl
end Go.Proofs.Ytndahpcjkcihlaa
