/- Texts of ours, joined: Ozr, Ja, Lct, Lop, Lov. -/
import Derived.Test.YtnijcolomoobnaaGreatDoorK30
import Derived.Test.YtnijcolomoobnaaGreatDoorK17
import Derived.Test.YtnijcolomoobnaaGreatDoorK04
import Derived.Test.YtnijcolomoobnaaGreatDoorK07
import Derived.Test.YtnijcolomoobnaaGreatDoorK00
import Derived.Test.YtnijcolomoobnaaGreatDoorK10
import Derived.Deep.LoopGhost
import Derived.Test.YtnijcolomoobnaaGreatDoorRows
import Derived.ProofKit
import Derived.OpenShut
import Derived.ShutString
import Derived.ChangeOld
import Derived.Stop.Joined
import Derived.SizedLaws
import Derived.SliceStrings
import Derived.Carry
namespace Go.Proofs.YtnijcolomoobnaaGreatDoor
open Go.RowKit
set_option linter.unusedVariables false
set_option linter.unusedSimpArgs false

theorem obox (w : World) : ∃ w0, w.alloc (.cells #[.int .i64 0, .int .i64 0, .string ⟨#[]⟩, .slice none 0 0, .int .i64 0, .int .i64 0] 35) = w0 ∧ Below w.heap.size w w0 ∧ w.heap.size < w0.heap.size ∧ w0.heap[w.heap.size]? = some (.cells #[.int .i64 0, .int .i64 0, .string ⟨#[]⟩, .slice none 0 0, .int .i64 0, .int .i64 0] 35 (0, 0)) :=
  ⟨_, rfl, (Below.refl _ _).alloc (Nat.le_refl _) _, by simp, heap_new _ _⟩
theorem res6 {w wq : World} {y0 y1 y2 y3 y4 y5 : Value} {T : TypeId} {g : Nat} (hx : wq.heap[g]? = some (.cells #[y0, y1, y2, y3, y4, y5] T (0, 0))) (hg : w.heap.size ≤ g) (hb : Below w.heap.size w wq) (x0 x1 x2 x3 x4 x5 : Value) : ∃ wN, (((((wq.setCell ⟨g, 0, none⟩ x0).setCell ⟨g, 1, none⟩ x1).setCell ⟨g, 2, none⟩ x2).setCell ⟨g, 3, none⟩ x3).setCell ⟨g, 4, none⟩ x4).setCell ⟨g, 5, none⟩ x5 = wN ∧ wN.heap[g]? = some (.cells #[x0, x1, x2, x3, x4, x5] T (0, 0)) ∧ Below w.heap.size w wN ∧ Fr (fun k => k ≠ g) wq wN :=
  ⟨_, rfl, by simp [World.setCell, Array.getElem?_modify, hx], (((((hb.setCell (p := ⟨g, 0, none⟩) hg x0).setCell (p := ⟨g, 1, none⟩) hg x1).setCell (p := ⟨g, 2, none⟩) hg x2).setCell (p := ⟨g, 3, none⟩) hg x3).setCell (p := ⟨g, 4, none⟩) hg x4).setCell (p := ⟨g, 5, none⟩) hg x5, (((((Fr.set (by simp) _ _).trans (Fr.set (by simp) _ _)).trans (Fr.set (by simp) _ _)).trans (Fr.set (by simp) _ _)).trans (Fr.set (by simp) _ _)).trans (Fr.set (by simp) _ _)⟩
theorem fz6 {w : World} {g : Nat} {y0 y1 y2 y3 y4 y5 : Value} {T : TypeId} (h : w.heap[g]? = some (.cells #[y0, y1, y2, y3, y4, y5] T (0, 0))) : w.frozen? ⟨g, 0, none⟩ = false ∧ w.frozen? ⟨g, 1, none⟩ = false ∧ w.frozen? ⟨g, 2, none⟩ = false ∧ w.frozen? ⟨g, 3, none⟩ = false ∧ w.frozen? ⟨g, 4, none⟩ = false ∧ w.frozen? ⟨g, 5, none⟩ = false := by
  refine ⟨?_, ?_, ?_, ?_, ?_, ?_⟩
  all_goals simp [World.frozen?, h]
end Go.Proofs.YtnijcolomoobnaaGreatDoor
namespace Go.Proofs.YtnijcolomoobnaaGreatDoor
open Go.RowKit
set_option linter.unusedVariables false
set_option linter.unusedSimpArgs false
attribute [local go_sem ↓] Go.wp_at_zero Go.wp_at_succ

def tyK (k : Int) : List UInt8 := if k == 1 then [105, 110, 116] else if k == 2 then [98, 111, 111, 108] else if k == 3 then [116, 101, 120, 116] else if k == 4 then [91, 105, 110, 116, 93] else if k == 5 then [123, 105, 110, 116, 58, 105, 110, 116, 125] else []
theorem tyK_len (k : Int) : (tyK k).length ≤ 9 := by unfold tyK; repeat' split
                                                     all_goals decide
theorem tys_ty {t : List UInt8} (h : t ∈ tys) : ∃ T : Ty, t = tyT T ∧ T.dp ≤ 4 ∧ tyK (kd T) = t := by
  simp only [tys, List.mem_cons, List.not_mem_nil, or_false] at h
  rcases h with rfl | rfl | rfl | rfl | rfl
  · exact ⟨.int, by decide, by decide, by decide⟩
  · exact ⟨.bool, by decide, by decide, by decide⟩
  · exact ⟨.text, by decide, by decide, by decide⟩
  · exact ⟨.list .int, by decide, by decide, by decide⟩
  · exact ⟨.map true .int, by decide, by decide, by decide⟩
theorem tys_kind {t : List UInt8} {v : V} (h : t ∈ tys) (hf : fitS t v = true) : tyK v.k = t := by
  obtain ⟨T, rfl, h2, h3⟩ := tys_ty h
  unfold fitS at hf
  rw [shpS_ty h2] at hf
  simp only [Bool.and_eq_true] at hf
  rw [(shpB_iff.1 hf.1).kind]
  exact h3
theorem tyK_mem {k : Int} (h : tyK k ≠ []) : tyK k ∈ tys := by
  unfold tyK at *
  repeat' split
  all_goals simp_all [tys]
theorem ctype_k (v : V) : ctype v = if tyK v.k ≠ [] ∧ v.l.length = 0 ∧ fitS (tyK v.k) v = true then tyK v.k else [] := by
  unfold ctype
  by_cases hl : v.l = []
  · rw [if_pos hl]
    rcases h : tys.find? (fun t => fitS t v) with _ | t
    · rw [if_neg]
      · rfl
      · rintro ⟨h1, -, h2⟩
        have := List.find?_eq_none.1 h _ (tyK_mem h1)
        exact absurd h2 this
    · have h1 := List.find?_some h
      have h1' : fitS t v = true := h1
      have h2 := List.mem_of_find?_eq_some h
      have h3 := tys_kind h2 h1'
      have h4 : t ≠ [] := by
        intro e; subst e; simp [tys] at h2
      rw [h3, if_pos ⟨h4, by rw [hl]; rfl, h1'⟩]
      rfl
  · rw [if_neg hl, if_neg]
    exact fun h => hl (List.length_eq_zero_iff.1 h.2.1)
set_option maxRecDepth 100000 in
set_option maxHeartbeats 4000000 in
theorem typeOfKind_any (k : Int) (w : World) : Calls Tryz.prog 143 #[.int .i64 k] w fun e w' => e = .returned (.string ⟨(tyK k).toArray⟩) ∧ Below w.heap.size w w' := by
  obtain ⟨r, hr⟩ : ∃ r, Hid (tyK k = r) := ⟨_, rfl⟩
  rw [hr.out]
  have hb : Below w.heap.size w w := Below.refl _ _
  go_enter Tryz.func143, Tryz.ntmps143
  go_wp2
  all_goals (try go_ret)
  all_goals (refine ⟨?_, hb⟩; rw [← hr.out]; unfold tyK; simp_all)
set_option maxRecDepth 100000 in
set_option maxHeartbeats 4000000 in
theorem ctype_any {B : Nat → Prop} {v : V} {ao : Option Addr} {cap : Nat} {w : World} (hv : IsW B w v (.slice ao v.l.length cap)) (hw : wt v ≤ 4611686018427387904) :
    Calls Tryz.prog 120 #[.agg #[.int .i64 v.k, .int .i64 v.n, .string ⟨v.t.toArray⟩, .slice ao v.l.length cap]] w fun e w' => e = .returned (.string ⟨(ctype v).toArray⟩) ∧ Below w.heap.size w w' := by
  obtain ⟨w0, hW, hb0, hsz, d0, d1, d2, d3⟩ := boxed w v (.slice ao v.l.length cap)
  have hgb : w.heap.size < w0.heap.size := by omega
  have hlen : v.l.length ≤ 9223372036854775807 := by obtain ⟨_, _, e, h1, h2⟩ := hv.vs.slice; cases e; omega
  have hK := typeOfKind_any v.k w0
  have htl := tyK_len v.k
  have hct := ctype_k v
  have hF : ∀ w1, Below w0.heap.size w0 w1 → Calls Tryz.prog 144 #[.agg #[.int .i64 v.k, .int .i64 v.n, .string ⟨v.t.toArray⟩, .slice ao v.l.length cap], .string ⟨(tyK v.k).toArray⟩] w1 fun r w' => r = .returned (.bool (fitS (tyK v.k) v)) ∧ Below w1.heap.size w1 w' := fun w1 hb => fits_any (by omega) ((hv.below hb0).below hb) hw
  generalize hT : tyK v.k = T at *
  generalize hct2 : ctype v = C at *
  clear hv hsz
  go_enter Tryz.func120, Tryz.ntmps120
  go_wp2_with fail
  refine hK.mono ?_
  rintro e w1 ⟨rfl, hb1⟩
  have hB1 : Below w.heap.size w w1 := hb0.trans (hb1.mono hb0.size)
  have e0 := ((bcell hb1).1 _ 0 hgb).trans d0
  have e1 := ((bcell hb1).1 _ 1 hgb).trans d1
  have e2 := ((bcell hb1).1 _ 2 hgb).trans d2
  have e3 := ((bcell hb1).1 _ 3 hgb).trans d3
  have hg1 : w.heap.size < w1.heap.size := by have := hb1.size; omega
  have hF1 := hF w1 hb1
  clear hK hF hW d0 d1 d2 d3 hT hct2
  rcases T with _ | ⟨c, r⟩
  · rw [if_neg (by simp)] at hct
    subst hct
    clear hF1
    go_wp2
    go_ret
    exact ⟨rfl, hB1⟩
  generalize v.l.length = L at *
  rcases L with _ | k
  rotate_left
  · rw [if_neg (by rintro ⟨-, h, -⟩; cases h)] at hct
    subst hct
    clear hF1
    go_wp2
    go_ret
    exact ⟨rfl, hB1⟩
  cases hf : fitS (c :: r) v with
  | false =>
    rw [if_neg (by rw [hf]; rintro ⟨-, -, h⟩; cases h)] at hct
    subst hct
    rw [hf] at hF1
    clear hf
    go_wp2_with fail
    refine hF1.mono ?_
    rintro e w2 ⟨rfl, hb2⟩
    clear hF1 e0 e1 e2 e3
    go_wp2
    go_ret
    exact ⟨rfl, hB1.trans (hb2.mono hB1.size)⟩
  | true =>
    rw [if_pos ⟨by simp, rfl, hf⟩] at hct
    subst hct
    rw [hf] at hF1
    clear hf
    go_wp2_with fail
    refine hF1.mono ?_
    rintro e w2 ⟨rfl, hb2⟩
    clear hF1 e0 e1 e2 e3
    go_wp2
    go_ret
    exact ⟨rfl, hB1.trans (hb2.mono hB1.size)⟩
end Go.Proofs.YtnijcolomoobnaaGreatDoor
namespace Go.Proofs.YtnijcolomoobnaaGreatDoor
open Go.RowKit
set_option linter.unusedVariables false
set_option linter.unusedSimpArgs false

mutual
def SzV : V → Prop
  | .mk _ _ t l => t.length ≤ 281474976710656 ∧ SzVs l
def SzVs : List V → Prop
  | [] => True
  | v :: r => SzV v ∧ SzVs r
end
theorem SzVs.mem : ∀ {l : List V} {x : V}, SzVs l → x ∈ l → SzV x
  | a :: r, x, h, hx => by
    rw [SzVs] at h
    rcases List.mem_cons.1 hx with rfl | hx
    · exact h.1
    · exact SzVs.mem h.2 hx
theorem szV_eq (v : V) : SzV v ↔ v.t.length ≤ 281474976710656 ∧ SzVs v.l := by cases v; rw [SzV]; rfl
structure But (g : Nat) (w w' : World) : Prop where
  os : w'.os = w.os
  tape : w'.tape = w.tape
  output : w'.output = w.output
  size : w.heap.size ≤ w'.heap.size
  block : ∀ k, k < w.heap.size → k ≠ g → w'.heap[k]? = w.heap[k]?
theorem But.refl (g : Nat) (w : World) : But g w w := ⟨rfl, rfl, rfl, Nat.le_refl _, fun _ _ _ => rfl⟩
theorem But.trans {g : Nat} {a b c : World} (h : But g a b) (k : But g b c) : But g a c := ⟨k.os.trans h.os, k.tape.trans h.tape, k.output.trans h.output, Nat.le_trans h.size k.size, fun i hi hg => (k.block i (by have := h.size; omega) hg).trans (h.block i hi hg)⟩
theorem But.of {g : Nat} {w w' : World} (h : Below w.heap.size w w') : But g w w' := ⟨h.os, h.tape, h.output, h.size, fun k hk _ => h.block k hk⟩
theorem But.set {w : World} {g o : Nat} (v : Value) : But g w (w.setCell ⟨g, o, none⟩ v) := ⟨rfl, rfl, rfl, by simp [World.setCell], fun k _ hk => Below.heap_setCell _ _ _ _ hk⟩
theorem But.drew {g : Nat} {a w : World} (h : But g a w) : But g a w.drew := ⟨h.os, h.tape, h.output, h.size, h.block⟩
theorem But.since {g : Nat} {w w' : World} (h : But g w w') : Since (fun k => k ≠ g) w w' := ⟨h.size, fun k h1 h2 => h.block k h2 h1⟩
end Go.Proofs.YtnijcolomoobnaaGreatDoor
namespace Go.Proofs.YtnijcolomoobnaaGreatDoor
open Go.ChangeShapes Go.WideShapes Go.ChangeAt Go.RowKit
set_option linter.unusedVariables false
set_option linter.unusedSimpArgs false

abbrev Any' : Nat → Prop := fun _ => True
theorem allV_range {B : Nat → Prop} {w : World} : ∀ (l : List V) (c : Nat → List Value), (∀ i v, l[i]? = some v → IsV B w v (c i)) → AllV B w l ((List.range l.length).flatMap c)
  | [], c, h => by simp [AllV]
  | a :: r, c, h => by
    have ih := allV_range r (fun i => c (i + 1)) (fun i v hi => h (i + 1) v (by simpa using hi))
    rw [List.length_cons, List.range_succ_eq_map, List.flatMap_cons, List.flatMap_map, AllV]
    exact ⟨c 0, _, rfl, h 0 a (by simp), ih⟩
theorem range_len : ∀ (n : Nat) (c : Nat → List Value), (∀ i, i < n → (c i).length = 4) → ((List.range n).flatMap c).length = n * 4
  | 0, c, h => by simp
  | n + 1, c, h => by
    rw [List.range_succ, List.flatMap_append, List.length_append, range_len n c (fun i hi => h i (by omega))]
    simp [h n (by omega)]; omega
theorem range_get : ∀ (n : Nat) (c : Nat → List Value) (j : Nat) (u : Value), (∀ i, i < n → (c i).length = 4) → ((List.range n).flatMap c)[j]? = some u → j / 4 < n ∧ (c (j / 4))[j % 4]? = some u
  | 0, c, j, u, h, hj => by simp at hj
  | n + 1, c, j, u, h, hj => by
    rw [List.range_succ, List.flatMap_append] at hj
    have hl := range_len n c (fun i hi => h i (by omega))
    by_cases hlt : j < n * 4
    · rw [List.getElem?_append_left (by omega)] at hj
      obtain ⟨h1, h2⟩ := range_get n c j u (fun i hi => h i (by omega)) hj
      exact ⟨by omega, h2⟩
    · rw [List.getElem?_append_right (by omega), hl] at hj
      simp only [List.flatMap_cons, List.flatMap_nil, List.append_nil] at hj
      have hlen := (List.getElem?_eq_some_iff.1 hj).1
      rw [h n (by omega)] at hlen
      have e1 : j / 4 = n := by omega
      have e2 : j % 4 = j - n * 4 := by omega
      rw [e1, e2]
      exact ⟨by omega, hj⟩
theorem list_of {P : Nat → V → Prop} : ∀ (n : Nat), (∀ i, i < n → ∃ v, P i v) → ∃ l : List V, l.length = n ∧ ∀ i v, l[i]? = some v → P i v
  | 0, h => ⟨[], rfl, fun i v hi => by simp at hi⟩
  | n + 1, h => by
    obtain ⟨l, h1, h2⟩ := list_of n (fun i hi => h i (by omega))
    obtain ⟨v, hv⟩ := h n (by omega)
    refine ⟨l ++ [v], by simp [h1], fun i x hi => ?_⟩
    by_cases hlt : i < n
    · rw [List.getElem?_append_left (by omega)] at hi
      exact h2 i x hi
    · have hlen := (List.getElem?_eq_some_iff.1 hi).1
      simp [h1] at hlen
      have : i = n := by omega
      subst this
      rw [List.getElem?_append_right (by omega), h1] at hi
      simp at hi
      subst hi
      exact hv
theorem cells4 {w : World} {a : Addr} {cs : List Value} (h : w.cells? 0 a 4 = some cs) : cs.length = 4 ∧ ∀ r u, cs[r]? = some u → w.cell? (a.add r) = some u := by
  simp only [World.cells?, Nat.zero_le, if_true] at h
  simp only [List.range_succ, List.range_zero, List.nil_append, List.cons_append, List.mapM_cons, List.mapM_nil, Option.bind_eq_bind, Option.pure_def] at h
  simp only [Option.bind_eq_some_iff, Option.some.injEq] at h
  obtain ⟨c0, h0, r0, ⟨c1, h1, r1, ⟨c2, h2, r2, ⟨c3, h3, _, rfl, rfl⟩, rfl⟩, rfl⟩, rfl⟩ := h
  refine ⟨rfl, fun r u hr => ?_⟩
  have := (List.getElem?_eq_some_iff.1 hr).1
  simp only [List.length_cons, List.length_nil] at this
  have hc : r = 0 ∨ r = 1 ∨ r = 2 ∨ r = 3 := by omega
  rcases hc with rfl | rfl | rfl | rfl <;> (simp at hr; subst hr; assumption)
theorem wf_inR {n : Int} (h : (Lit.int .i64 n).wf = true) : InR n := by
  simp [Lit.wf, IntKind.min, IntKind.max, IntKind.bits, IntKind.signed] at h
  unfold InR
  omega
theorem vfields : Tryz.prog.cellsOf 31 = 4 := by kernel_rfl
theorem cells_int : Tryz.prog.cellsOf 3 = 1 := by kernel_rfl
theorem cells_str : Tryz.prog.cellsOf 9 = 1 := by kernel_rfl
theorem cells_sl : Tryz.prog.cellsOf 22 = 1 := by kernel_rfl
theorem vstruct : ∃ f0 f1 f2 f3 : Field, Tryz.prog.underlying 31 = some (.struct #[f0, f1, f2, f3]) ∧ f0.type = 3 ∧ f0.offset = 0 ∧ f1.type = 3 ∧ f1.offset = 1 ∧ f2.type = 9 ∧ f2.offset = 2 ∧ f3.type = 22 ∧ f3.offset = 3 := ⟨_, _, _, _, Tryz.underlying31, rfl, rfl, rfl, rfl, rfl, rfl, rfl, rfl⟩
theorem szVs_of : ∀ {l : List V}, (∀ x ∈ l, SzV x) → SzVs l
  | [], h => by rw [SzVs]; trivial
  | a :: r, h => by rw [SzVs]; exact ⟨h a (by simp), szVs_of (fun x hx => h x (by simp [hx]))⟩
theorem weightsAll_mem {H : Type} {P : Program} {e : TypeId} : ∀ {l : List (DataW H)} {d : DataW H}, d ∈ l → ∀ n ∈ d.weights P e, n ∈ DataW.weightsAll P e l
  | a :: r, d, h, n, hn => by
    rw [DataW.weightsAll]
    rcases List.mem_cons.1 h with rfl | h
    · exact List.mem_append_left _ hn
    · exact List.mem_append_right _ (weightsAll_mem h n hn)
theorem addr_add4 {b o : Nat} (i : Nat) : (⟨b, o, none⟩ : Addr).add i = ⟨b, o + i, none⟩ := by by_cases h : i = 0 <;> simp [Addr.add, h]
set_option maxRecDepth 100000 in
theorem val_of_trod {H : Type} {enc : TypeId × Value → H} {w : World} : ∀ (fuel : Nat) (cs : List Value) (x : DataW H × List MemPlace), DataW.trod enc Tryz.prog w 0 (fun _ => true) true fuel 31 cs = some x → ∃ v, IsV Any' w v cs ∧ ((x.1.weights Tryz.prog 31).all (· ≤ reachBytes) = true → SzV v) := by
  intro fuel
  induction fuel using Nat.strongRecOn with
  | _ fuel ih =>
    intro cs x h
    obtain ⟨f0, f1, f2, f3, hst, t0, o0, t1, o1, t2, o2, t3, o3⟩ := vstruct
    obtain ⟨xs, n, rfl, rfl, hlen, hxl, hf⟩ := DataW.trod_struct hst h
    rw [vfields] at hlen
    have hx4 : xs.length = 4 := hxl
    match cs, hlen, xs, hx4, hf with
    | [c0, c1, c2, c3], _, [x0, x1, x2, x3], _, hf =>
      have g0 := hf 0 f0 rfl
      have g1 := hf 1 f1 rfl
      have g2 := hf 2 f2 rfl
      have g3 := hf 3 f3 rfl
      rw [t0, o0, cells_int] at g0
      rw [t1, o1, cells_int] at g1
      rw [t2, o2, cells_str] at g2
      rw [t3, o3, cells_sl] at g3
      simp only [List.drop_zero, List.drop_succ_cons, List.take_succ_cons, List.take_zero, List.getElem?_cons_zero, List.getElem?_cons_succ] at g0 g1 g2 g3
      obtain ⟨k, e0, rfl, w0⟩ := DataW.trod_int Tryz.underlying3 g0
      obtain ⟨m, e1, rfl, w1⟩ := DataW.trod_int Tryz.underlying3 g1
      obtain ⟨s, e2, rfl, hs⟩ := DataW.trod_string Tryz.underlying9 g2
      simp only [List.cons.injEq, and_true] at e0 e1 e2
      subst e0 e1 e2
      have hss : s = ⟨s.data.toList.toArray⟩ := by simp
      have hsl : s.data.toList.length ≤ maxLen := by simpa using hs
      have hwts : ((DataW.agg ([(DataW.lit (.int .i64 k), []), (DataW.lit (.int .i64 m), []), (DataW.lit (.string s.data.toList), []), x3].map (·.1)) : DataW H).weights Tryz.prog 31).all (· ≤ reachBytes) = true → s.data.toList.length ≤ reachBytes ∧ (x3.1.weights Tryz.prog 22).all (· ≤ reachBytes) = true := by
        intro hw
        simp only [DataW.weights, hst, t0, t1, t2, t3, List.map_cons, List.map_nil, DataW.weightsEach, List.nil_append, List.append_nil, List.cons_append, List.all_cons, List.all_append, Bool.and_eq_true, decide_eq_true_eq] at hw
        exact hw
      have hreach : reachBytes ≤ 281474976710656 := by decide
      rcases DataW.trod_slice Tryz.underlying22 g3 with ⟨e3, e3'⟩ | ⟨a, len, cap, elems, rest, n', rfl, e3, e3', _, hlc, hcm, hel, hcell, _, _⟩
      · simp only [List.cons.injEq, and_true] at e3
        subst e3
        refine ⟨.mk k m s.data.toList [], isV_iff.2 ⟨.slice none 0 0, ?_, hsl, wf_inR w0, wf_inR w1, IsVs.nil⟩, fun hw => ?_⟩
        · simp [V.k, V.n, V.t]
        · rw [SzV]
          exact ⟨Nat.le_trans (hwts hw).1 hreach, by rw [SzVs]; trivial⟩
      · simp only [List.cons.injEq, and_true] at e3
        subst e3
        rw [vfields] at hcell
        have hP : ∀ i, i < len → ∃ v, ∃ cs', w.cells? 0 (a.add (i * 4)) 4 = some cs' ∧ IsV Any' w v cs' ∧ ((x3.1.weights Tryz.prog 22).all (· ≤ reachBytes) = true → SzV v) := by
          intro i hi
          obtain ⟨z, hz⟩ : ∃ z, elems[i]? = some z := ⟨_, List.getElem?_eq_getElem (by omega)⟩
          have hb := hcell i hi
          rw [hz, Option.bind_eq_some_iff] at hb
          obtain ⟨cs', h1, h2⟩ := hb
          obtain ⟨v, h3, h4⟩ := ih n' (by omega) cs' z h2
          refine ⟨v, cs', h1, h3, fun hw => h4 ?_⟩
          rw [e3'] at hw
          simp only [DataW.weights, Tryz.underlying22, List.all_cons, List.all_append, Bool.and_eq_true] at hw
          rw [List.all_eq_true]
          intro q hq
          exact List.all_eq_true.1 hw.2.1 q (weightsAll_mem (List.mem_map.2 ⟨z, List.mem_of_getElem? hz, rfl⟩) q hq)
        obtain ⟨l, hl, hall⟩ := list_of len hP
        obtain ⟨c, hc⟩ : ∃ c : Nat → List Value, ∀ i, c i = (w.cells? 0 (a.add (i * 4)) 4).getD [] := ⟨_, fun _ => rfl⟩
        have hci : ∀ i, i < len → w.cells? 0 (a.add (i * 4)) 4 = some (c i) ∧ ∃ v, l[i]? = some v ∧ IsV Any' w v (c i) := by
          intro i hi
          obtain ⟨v, hv⟩ : ∃ v, l[i]? = some v := ⟨_, List.getElem?_eq_getElem (by omega)⟩
          obtain ⟨cs', h1, h2, _⟩ := hall i v hv
          have e : c i = cs' := by rw [hc, h1]; rfl
          rw [e]
          exact ⟨h1, v, hv, h2⟩
        have hc4 : ∀ i, i < len → (c i).length = 4 := fun i hi => (cells4 (hci i hi).1).1
        have hvs : IsVs Any' w l (.slice (some a) len cap) := by
          subst hl
          refine ⟨(List.range l.length).flatMap c, ⟨range_len _ c hc4, ?_⟩, allV_range l c (fun i v hi => ?_)⟩
          · by_cases h0 : l.length = 0
            · exact Or.inl ⟨Or.inr ⟨a, cap, by rw [h0], hcm⟩, h0⟩
            · obtain ⟨b, o, sp⟩ := a
              have hfirst := (cells4 (hci 0 (by omega)).1).2
              obtain ⟨u0, hu0⟩ : ∃ u, (c 0)[0]? = some u := ⟨_, List.getElem?_eq_getElem (by rw [hc4 0 (by omega)]; omega)⟩
              have hz0 := hfirst 0 u0 hu0
              have hspn : sp = none := by simpa [Addr.add] using World.cell?_spot hz0
              subst hspn
              refine Or.inr ⟨b, o, cap, rfl, hlc, hcm, trivial, ?_, fun j u hj => ?_⟩
              · rw [addr_add4, addr_add4] at hz0
                exact World.block_lt_of_cell? w _ hz0
              · obtain ⟨g1, g2⟩ := range_get _ c j u hc4 hj
                have := (cells4 (hci (j / 4) g1).1).2 (j % 4) u g2
                rw [addr_add4, addr_add4] at this
                rw [show o + j = o + j / 4 * 4 + j % 4 by omega]
                exact this
          · obtain ⟨_, v', hv', hi'⟩ := hci i (List.getElem?_eq_some_iff.1 hi).1
            rw [hi] at hv'
            cases hv'
            exact hi'
        refine ⟨.mk k m s.data.toList l, isV_iff.2 ⟨.slice (some a) len cap, ?_, hsl, wf_inR w0, wf_inR w1, hvs⟩, fun hw => ?_⟩
        · simp [V.k, V.n, V.t]
        · rw [SzV]
          refine ⟨Nat.le_trans (hwts hw).1 hreach, szVs_of fun x hx => ?_⟩
          obtain ⟨i, hi⟩ := List.mem_iff_getElem?.1 hx
          obtain ⟨_, _, _, h5⟩ := hall i x hi
          exact h5 (hwts hw).2
theorem own : ownKnob Tryz.prog.godebug = none := by kernel_rfl
theorem laidOut : laidOutB Tryz.prog = true := by kernel_rfl
theorem weights_at {H : Type} {ts : List TypeId} {ds : List (DataW H)} {j : Nat} {t : TypeId} {d : DataW H} (h : (DataW.weightsEach Tryz.prog ts ds).all (· ≤ reachBytes) = true) (h1 : ts[j]? = some t) (h2 : ds[j]? = some d) : (d.weights Tryz.prog t).all (· ≤ reachBytes) = true := by
  rw [List.all_eq_true]
  intro n hn
  exact List.all_eq_true.1 h n (DataW.weights_mem_each h1 h2 n hn)
end Go.Proofs.YtnijcolomoobnaaGreatDoor
namespace Go.Proofs.YtnijcolomoobnaaGreatDoor
open Go.ChangeShapes Go.WideShapes Go.ChangeAt Go.RowKit
set_option linter.unusedVariables false
set_option linter.unusedSimpArgs false

set_option maxRecDepth 100000 in
theorem vals_of_trod {H : Type} {enc : TypeId × Value → H} {w : World} (fuel : Nat) (cs : List Value) (x : DataW H × List MemPlace) (h : DataW.trod enc Tryz.prog w 0 (fun _ => true) true fuel 22 cs = some x) : ∃ (l : List V) (ao : Option Addr) (cap : Nat), cs = [.slice ao l.length cap] ∧ IsVs Any' w l (.slice ao l.length cap) ∧ ((x.1.weights Tryz.prog 22).all (· ≤ reachBytes) = true → ∀ y ∈ l, SzV y) := by
  rcases DataW.trod_slice Tryz.underlying22 h with ⟨e3, e3'⟩ | ⟨a, len, cap, elems, rest, n', rfl, e3, e3', _, hlc, hcm, hel, hcell, _, _⟩
  · exact ⟨[], none, 0, e3, IsVs.nil, fun _ y hy => by simp at hy⟩
  · rw [vfields] at hcell
    have hP : ∀ i, i < len → ∃ v, ∃ cs', w.cells? 0 (a.add (i * 4)) 4 = some cs' ∧ IsV Any' w v cs' ∧ ((x.1.weights Tryz.prog 22).all (· ≤ reachBytes) = true → SzV v) := by
      intro i hi
      obtain ⟨z, hz⟩ : ∃ z, elems[i]? = some z := ⟨_, List.getElem?_eq_getElem (by omega)⟩
      have hb := hcell i hi
      rw [hz, Option.bind_eq_some_iff] at hb
      obtain ⟨cs', h1, h2⟩ := hb
      obtain ⟨v, h3, h4⟩ := val_of_trod n' cs' z h2
      refine ⟨v, cs', h1, h3, fun hw => h4 ?_⟩
      rw [e3'] at hw
      simp only [DataW.weights, Tryz.underlying22, List.all_cons, List.all_append, Bool.and_eq_true] at hw
      rw [List.all_eq_true]
      intro q hq
      exact List.all_eq_true.1 hw.2.1 q (weightsAll_mem (List.mem_map.2 ⟨z, List.mem_of_getElem? hz, rfl⟩) q hq)
    obtain ⟨l, hl, hall⟩ := list_of len hP
    obtain ⟨c, hc⟩ : ∃ c : Nat → List Value, ∀ i, c i = (w.cells? 0 (a.add (i * 4)) 4).getD [] := ⟨_, fun _ => rfl⟩
    have hci : ∀ i, i < len → w.cells? 0 (a.add (i * 4)) 4 = some (c i) ∧ ∃ v, l[i]? = some v ∧ IsV Any' w v (c i) := by
      intro i hi
      obtain ⟨v, hv⟩ : ∃ v, l[i]? = some v := ⟨_, List.getElem?_eq_getElem (by omega)⟩
      obtain ⟨cs', h1, h2, _⟩ := hall i v hv
      have e : c i = cs' := by rw [hc, h1]; rfl
      rw [e]
      exact ⟨h1, v, hv, h2⟩
    have hc4 : ∀ i, i < len → (c i).length = 4 := fun i hi => (cells4 (hci i hi).1).1
    have hvs : IsVs Any' w l (.slice (some a) len cap) := by
      subst hl
      refine ⟨(List.range l.length).flatMap c, ⟨range_len _ c hc4, ?_⟩, allV_range l c (fun i v hi => ?_)⟩
      · by_cases h0 : l.length = 0
        · exact Or.inl ⟨Or.inr ⟨a, cap, by rw [h0], hcm⟩, h0⟩
        · obtain ⟨b, o, sp⟩ := a
          have hfirst := (cells4 (hci 0 (by omega)).1).2
          obtain ⟨u0, hu0⟩ : ∃ u, (c 0)[0]? = some u := ⟨_, List.getElem?_eq_getElem (by rw [hc4 0 (by omega)]; omega)⟩
          have hz0 := hfirst 0 u0 hu0
          have hspn : sp = none := by simpa [Addr.add] using World.cell?_spot hz0
          subst hspn
          refine Or.inr ⟨b, o, cap, rfl, hlc, hcm, trivial, ?_, fun j u hj => ?_⟩
          · rw [addr_add4, addr_add4] at hz0
            exact World.block_lt_of_cell? w _ hz0
          · obtain ⟨g1, g2⟩ := range_get _ c j u hc4 hj
            have := (cells4 (hci (j / 4) g1).1).2 (j % 4) u g2
            rw [addr_add4, addr_add4] at this
            rw [show o + j = o + j / 4 * 4 + j % 4 by omega]
            exact this
      · obtain ⟨_, v', hv', hi'⟩ := hci i (List.getElem?_eq_some_iff.1 hi).1
        rw [hi] at hv'
        cases hv'
        exact hi'
    refine ⟨l, some a, cap, by rw [e3, hl], by rw [hl]; exact hvs, fun hw y hy => ?_⟩
    obtain ⟨i, hi⟩ := List.mem_iff_getElem?.1 hy
    obtain ⟨_, _, _, h5⟩ := hall i y hi
    exact h5 hw
end Go.Proofs.YtnijcolomoobnaaGreatDoor
