/- Texts of ours, joined: Dr, Vl, Vc. -/
import Derived.Test.YtnijcolomoobnaaGreatDoorK00
import Derived.OrdersHeld
import Derived.Lib.Walk
import Derived.Lib.Strings
import Derived.Lib.Bytealg
import Derived.Deep.LoopGhost
namespace Go.Proofs.YtnijcolomoobnaaGreatDoor
open Go Go.RowKit
set_option linter.unusedSimpArgs false
set_option linter.unusedVariables false

section
variable {P : Program} {ops : Array Oper} {Q : Exit → Act → World → Prop} {md : Region.Mode} {S T : World → Prop} {N : Nat → Bool}
def wpE (P : Program) (md : Region.Mode) (ops : Array Oper) (Q : Exit → Act → World → Prop) (S : World → Prop) (N : Nat → Bool) : Nat → Array Bool → Act → World → Prop
  | 0, listed, a, w => Region.ready md ops listed = [] ∧ Q .normal a w
  | f + 1, listed, a, w => (Region.ready md ops listed = [] → Q .normal a w) ∧ ∀ i ∈ Region.ready md ops listed, wpOp P ops Q i (fun a' w' => (N i = true → S w') ∧ wpE P md ops Q S N f (listed.setIfInBounds i true) a' w') a w
theorem wpE_any : ∀ (f : Nat) (listed : Array Bool) (a : Act) (w : World), wpE P md ops Q S N f listed a w → wpAny P md ops Q f listed a w
  | 0, _, _, _, h => h
  | f + 1, _, _, _, h => ⟨h.1, fun i hi => wpOp_mono (fun a' w' hh => wpE_any f _ a' w' hh.2) (h.2 i hi)⟩
theorem wpE_first {i : Nat} {oi : Oper} {v : Value} (hi : ops[i]? = some oi) (hsel : ∀ (j : Nat) (o : Oper) cs b, ops[j]? = some o → o.op ≠ .select cs b) (hQ : ∀ c a w, Q (.panic c) (a.put oi.dst v) w → Q (.panic c) a w) (hTS : ∀ w, T w → N i = true → S w) :
    ∀ (f : Nat) (listed : Array Bool) (a : Act) (w : World),
      (∀ j oj, ops[j]? = some oj → j ≠ i → listed.getD j true = false → (∀ e ∈ oj.after, Region.binds md e = true → e.on ≠ i) → oi.apart ops oj = true ∧ ∀ w', (N j = true → S w') → T w') →
      i ∈ Region.ready md ops listed → YieldsIf P ops T oi v a → T w → wpE P md ops Q S N f (listed.setIfInBounds i true) (a.put oi.dst v) w → wpE P md ops Q S N (f + 1) listed a w := by
  intro f
  induction f with
  | zero =>
    intro listed a w hfr hr hy hT H
    refine ⟨fun h => absurd hr (by rw [h]; simp), fun j hj => ?_⟩
    by_cases hji : j = i
    · subst hji
      exact hy.wpOp hi hT ⟨hTS w hT, H⟩
    · have h0 := ready_mono hj hji
      rw [H.1] at h0
      simp at h0
  | succ f ih =>
    intro listed a w hfr hr hy hT H
    refine ⟨fun h => absurd hr (by rw [h]; simp), fun j hj => ?_⟩
    by_cases hji : j = i
    · subst hji
      exact hy.wpOp hi hT ⟨hTS w hT, H⟩
    · have h1 := H.2 j (ready_mono hj hji)
      obtain ⟨hun, oj, hoj, hall⟩ := mem_ready.1 hj
      have hnot : ∀ e ∈ oj.after, Region.binds md e = true → e.on ≠ i := by
        intro e he hb heq
        have hon := hall e he hb
        have hun0 := (mem_ready.1 hr).1
        rw [heq] at hon
        by_cases hlt : i < listed.size
        · simp [hlt] at hun0 hon
          rw [hun0] at hon; simp at hon
        · simp [Array.getElem?_eq_none (Nat.le_of_not_lt hlt)] at hon
      obtain ⟨hap, hTj⟩ := hfr j oj hoj hji hun hnot
      have h2 := wpOp_putIf hoj hap (fun cs b => hsel i oi cs b hi) (fun cs b => hsel j oj cs b hoj) hQ hy h1
      have hfr' : ∀ k ok, ops[k]? = some ok → k ≠ i → (listed.setIfInBounds j true).getD k true = false → (∀ e ∈ ok.after, Region.binds md e = true → e.on ≠ i) → oi.apart ops ok = true ∧ ∀ w', (N k = true → S w') → T w' := by
        intro k ok hk hki hunk hno
        refine hfr k ok hk hki ?_ hno
        by_cases hjk : j = k
        · rw [← hjk]; exact hun
        · rw [getD_set_ne true hjk] at hunk; exact hunk
      refine wpOp_mono (fun a' w' h3 => ⟨h3.2.1, ih _ a' w' hfr' (ready_mono hr (fun e => hji e.symm)) h3.1 (hTj w' h3.2.1) ?_⟩) h2
      rw [Array.setIfInBounds_comm _ _ hji]
      exact h3.2.2
theorem wpE_takeL {i : Nat} {oi : Oper} {v : Value} {f : Nat} {listed : Array Bool} {a : Act} {w : World} (hi : ops[i]? = some oi) (hs : Region.noSelect ops = true) (hf : Region.free md ops listed i = true) (hr : (Region.ready md ops listed).contains i = true) (hN : N i = false)
    (hQ : ∀ c a w, Q (.panic c) (a.put oi.dst v) w → Q (.panic c) a w) (hw : Region.wanted oi (yielded ops a.tmps) = true) (hy : ∀ w, (execOp a.eval oi).run P w = .ok (.value v) w) (h : wpE P md ops Q S N f (listed.setIfInBounds i true) (a.put oi.dst v) w) : wpE P md ops Q S N (f + 1) listed a w :=
  wpE_first (T := fun _ => True) hi (Region.noSelect_spec hs) hQ (fun _ _ h => by rw [hN] at h; simp at h) f listed a w (fun j oj h1 h2 h3 h4 => ⟨Region.free_spec hi hf j oj h1 h2 h3 h4, fun _ _ => trivial⟩) (by simpa using hr) (Or.inl ⟨hw, fun w _ => hy w⟩) trivial h
theorem wpE_firstW {i : Nat} {oi : Oper} {v : Value} {W : Nat → Bool} (hi : ops[i]? = some oi) (hsel : ∀ (j : Nat) (o : Oper) cs b, ops[j]? = some o → o.op ≠ .select cs b) (hQ : ∀ c a w, Q (.panic c) (a.put oi.dst v) w → Q (.panic c) a w) (hTS : ∀ w, T w → N i = true → S w)
    (hW : ∀ j oj, ops[j]? = some oj → W j = true → ∃ e ∈ oj.after, Region.binds md e = true ∧ (e.on = i ∨ W e.on = true)) :
    ∀ (f : Nat) (listed : Array Bool) (a : Act) (w : World), (∀ j, W j = true → j < listed.size ∧ listed.getD j true = false) →
      (∀ j oj, ops[j]? = some oj → j ≠ i → W j = false → listed.getD j true = false → (∀ e ∈ oj.after, Region.binds md e = true → e.on ≠ i) → oi.apart ops oj = true ∧ ∀ w', (N j = true → S w') → T w') →
      i ∈ Region.ready md ops listed → YieldsIf P ops T oi v a → T w → wpE P md ops Q S N f (listed.setIfInBounds i true) (a.put oi.dst v) w → wpE P md ops Q S N (f + 1) listed a w := by
  intro f
  induction f with
  | zero =>
    intro listed a w hWl hfr hr hy hT H
    refine ⟨fun h => absurd hr (by rw [h]; simp), fun j hj => ?_⟩
    by_cases hji : j = i
    · subst hji
      exact hy.wpOp hi hT ⟨hTS w hT, H⟩
    · have h0 := ready_mono hj hji
      rw [H.1] at h0
      simp at h0
  | succ f ih =>
    intro listed a w hWl hfr hr hy hT H
    refine ⟨fun h => absurd hr (by rw [h]; simp), fun j hj => ?_⟩
    by_cases hji : j = i
    · subst hji
      exact hy.wpOp hi hT ⟨hTS w hT, H⟩
    · have h1 := H.2 j (ready_mono hj hji)
      obtain ⟨hun, oj, hoj, hall⟩ := mem_ready.1 hj
      have hiun : ¬ (listed.getD i false = true) := by
        have hun0 := (mem_ready.1 hr).1
        by_cases hlt : i < listed.size
        · simp [hlt] at hun0 ⊢
          exact hun0
        · simp [Array.getElem?_eq_none (Nat.le_of_not_lt hlt)]
      have hnot : ∀ e ∈ oj.after, Region.binds md e = true → e.on ≠ i := by
        intro e he hb heq
        have hon := hall e he hb
        rw [heq] at hon
        exact hiun (by simpa using hon)
      have hWj : W j = false := by
        rcases hw : W j with _ | _
        · rfl
        · obtain ⟨e, he, hb, ho⟩ := hW j oj hoj hw
          have hon := hall e he hb
          rcases ho with ho | ho
          · exact absurd ho (hnot e he hb)
          · obtain ⟨h2, h3⟩ := hWl _ ho
            simp [h2] at hon h3
            rw [h3] at hon; cases hon
      obtain ⟨hap, hTj⟩ := hfr j oj hoj hji hWj hun hnot
      have h2 := wpOp_putIf hoj hap (fun cs b => hsel i oi cs b hi) (fun cs b => hsel j oj cs b hoj) hQ hy h1
      have hWl' : ∀ k, W k = true → k < (listed.setIfInBounds j true).size ∧ (listed.setIfInBounds j true).getD k true = false := by
        intro k hk
        have hjk : j ≠ k := by rintro rfl; rw [hk] at hWj; cases hWj
        obtain ⟨g1, g2⟩ := hWl k hk
        exact ⟨by simpa using g1, by rw [getD_set_ne true hjk]; exact g2⟩
      have hfr' : ∀ k ok, ops[k]? = some ok → k ≠ i → W k = false → (listed.setIfInBounds j true).getD k true = false → (∀ e ∈ ok.after, Region.binds md e = true → e.on ≠ i) → oi.apart ops ok = true ∧ ∀ w', (N k = true → S w') → T w' := by
        intro k ok hk hki hwk hunk hno
        refine hfr k ok hk hki hwk ?_ hno
        by_cases hjk : j = k
        · rw [← hjk]; exact hun
        · rw [getD_set_ne true hjk] at hunk; exact hunk
      refine wpOp_mono (fun a' w' h3 => ⟨h3.2.1, ih _ a' w' hWl' hfr' (ready_mono hr (fun e => hji e.symm)) h3.1 (hTj w' h3.2.1) ?_⟩) h2
      rw [Array.setIfInBounds_comm _ _ hji]
      exact h3.2.2
def waitW (md : Region.Mode) (ops : Array Oper) (N W : Nat → Bool) (listed : Array Bool) (i : Nat) : Bool := (List.range ops.size).all fun j => if W j then (listed[j]? == some false) && ((ops[j]?).map fun o => o.after.any fun e => Region.binds md e && (e.on == i || W e.on)).getD false else (N j || j == i)
theorem wpE_takeW {i : Nat} {oi : Oper} {v : Value} {f : Nat} {listed : Array Bool} {a : Act} {w : World} (W : Nat → Bool) (hi : ops[i]? = some oi) (hs : Region.noSelect ops = true) (hf : Region.free md ops listed i = true) (hr : (Region.ready md ops listed).contains i = true) (hl : waitW md ops N W listed i = true) (hWs : ∀ j, W j = true → j < ops.size)
    (hQ : ∀ c a w, Q (.panic c) (a.put oi.dst v) w → Q (.panic c) a w) (hw : Region.wanted oi (yielded ops a.tmps) = true) (hy : ∀ w, S w → (execOp a.eval oi).run P w = .ok (.value v) w) (hS : S w) (h : wpE P md ops Q S N f (listed.setIfInBounds i true) (a.put oi.dst v) w) : wpE P md ops Q S N (f + 1) listed a w := by
  have hall := List.all_eq_true.1 hl
  refine wpE_firstW (T := S) (W := W) hi (Region.noSelect_spec hs) hQ (fun _ h _ => h) ?_ f listed a w ?_ (fun j oj h1 h2 hWj h3 h4 => ⟨Region.free_spec hi hf j oj h1 h2 h3 h4, fun w' hw' => hw' ?_⟩) (by simpa using hr) (Or.inl ⟨hw, hy⟩) hS h
  · intro j oj hj hWj
    have h1 := hall j (by simp; exact (Array.getElem?_eq_some_iff.1 hj).1)
    simp only [hWj, if_true, hj, Option.map_some, Option.getD_some, Bool.and_eq_true] at h1
    obtain ⟨e, he, hb⟩ := List.any_eq_true.1 (by rw [Array.any_toList]; exact h1.2)
    simp only [Bool.and_eq_true, Bool.or_eq_true, beq_iff_eq] at hb
    exact ⟨e, by simpa using he, hb.1, hb.2⟩
  · intro j hWj
    have h1 := hall j (by simp; exact hWs j hWj)
    simp only [hWj, if_true, Bool.and_eq_true, beq_iff_eq] at h1
    obtain ⟨h2, h3⟩ := Array.getElem?_eq_some_iff.1 h1.1
    exact ⟨h2, by simp [h2, h3]⟩
  · have h5 := hall j (by simp; exact (Array.getElem?_eq_some_iff.1 h1).1)
    simp only [hWj, Bool.false_eq_true, if_false, Bool.or_eq_true, beq_iff_eq] at h5
    rcases h5 with h5 | h5
    · exact h5
    · exact absurd h5 h2
theorem wpE_one {i : Nat} {f : Nat} {listed : Array Bool} {a : Act} {w : World} {oi : Oper} (hr : Region.ready md ops listed = [i]) (hi : ops[i]? = some oi) (hw : Region.wanted oi (yielded ops a.tmps) = true)
    (h : ∀ K : Act → World → Prop, (∀ a' w', (N i = true → S w') → wpE P md ops Q S N f (listed.setIfInBounds i true) a' w' → K a' w') → oi.wp P a w K Q) : wpE P md ops Q S N (f + 1) listed a w := by
  refine ⟨fun h0 => by rw [hr] at h0; simp at h0, fun j hj => ?_⟩
  rw [hr] at hj
  simp at hj
  subst hj
  unfold wpOp
  simp only [hi, hw, if_true]
  exact Or.inl (h _ (fun a' w' h1 h2 => ⟨h1, h2⟩))
theorem wpE_two {i j : Nat} {f : Nat} {listed : Array Bool} {a : Act} {w : World} {oi oj : Oper} (hr : Region.ready md ops listed = [i, j]) (hi : ops[i]? = some oi) (hj : ops[j]? = some oj) (hwi : Region.wanted oi (yielded ops a.tmps) = true) (hwj : Region.wanted oj (yielded ops a.tmps) = true)
    (h1 : ∀ K : Act → World → Prop, (∀ a' w', (N i = true → S w') → wpE P md ops Q S N f (listed.setIfInBounds i true) a' w' → K a' w') → oi.wp P a w K Q)
    (h2 : ∀ K : Act → World → Prop, (∀ a' w', (N j = true → S w') → wpE P md ops Q S N f (listed.setIfInBounds j true) a' w' → K a' w') → oj.wp P a w K Q) : wpE P md ops Q S N (f + 1) listed a w := by
  refine ⟨fun h0 => by rw [hr] at h0; simp at h0, fun k hk => ?_⟩
  rw [hr] at hk
  simp at hk
  unfold wpOp
  rcases hk with rfl | rfl
  · simp only [hi, hwi, if_true]
    exact Or.inl (h1 _ (fun a' w' h1 h2 => ⟨h1, h2⟩))
  · simp only [hj, hwj, if_true]
    exact Or.inl (h2 _ (fun a' w' h1 h2 => ⟨h1, h2⟩))
theorem wpE_done {f : Nat} {listed : Array Bool} {a : Act} {w : World} (hr : Region.ready md ops listed = []) (h : Q .normal a w) : wpE P md ops Q S N f listed a w := by
  cases f with
  | zero => exact ⟨hr, h⟩
  | succ f => exact ⟨fun _ => h, by rw [hr]; simp⟩
theorem wpE_begin {id : Nat} {a : Act} {w : World} (hm : P.follows .mixedOrders = true) (h : wpE P .any ops Q S N ops.size (Array.replicate ops.size false) a w.drew) : (Code.region id ops true).wp P Q a w := wp_region_any hm (wpE_any _ _ _ _ h)
end
end Go.Proofs.YtnijcolomoobnaaGreatDoor
namespace Go.Proofs.YtnijcolomoobnaaGreatDoor
open Go.RowKit
set_option linter.unusedVariables false
set_option linter.unusedSimpArgs false

set_option maxRecDepth 100000 in
set_option maxHeartbeats 1000000 in
theorem cmpi_any (a b : Int) (w : World) : Calls Tryz.prog 115 #[.int .i64 a, .int .i64 b] w fun e w' => e = .returned (.int .i64 (Lib.compareInt a b)) ∧ w' = w := by
  have h0 : (a != a) = false := by simp
  have h1 : (b != b) = false := by simp
  unfold Lib.compareInt
  by_cases h2 : a < b
  · rw [if_pos h2]
    go_enter Tryz.func115, Tryz.ntmps115
    go_wp2
    go_ret
    exact ⟨rfl, rfl⟩
  · rw [if_neg h2]
    by_cases h3 : a > b
    · rw [if_pos h3]
      have h3' : b < a := h3
      go_enter Tryz.func115, Tryz.ntmps115
      go_wp2
      go_ret
      exact ⟨rfl, rfl⟩
    · rw [if_neg h3]
      have h3' : ¬ b < a := h3
      go_enter Tryz.func115, Tryz.ntmps115
      go_wp2
      go_ret
      exact ⟨rfl, rfl⟩
set_option maxRecDepth 100000 in
set_option maxHeartbeats 1000000 in
theorem scmp_any (a b : ByteArray) (w : World) : Calls Tryz.prog 116 #[.string a, .string b] w fun e w' => e = .returned (.int .i64 (Lib.compareBytes a.data.toList b.data.toList)) ∧ w' = w := by
  go_enter Tryz.func116, Tryz.ntmps116
  go_wp2
  rw [run_callFunc_extern Tryz.func158 (by kernel_rfl) (by kernel_rfl) (by kernel_rfl) (e := Extern.BytealgCompare.compare) (by kernel_rfl), Lib.run_compareString]
  simp only [Result.andThen]
  rw [Oper.upon_value]
  go_wp2
  go_ret
  exact ⟨rfl, rfl⟩
theorem scmp_list (a b : List UInt8) (w : World) : Calls Tryz.prog 116 #[.string ⟨a.toArray⟩, .string ⟨b.toArray⟩] w fun e w' => e = .returned (.int .i64 (Lib.compareBytes a b)) ∧ w' = w := by
  have := scmp_any ⟨a.toArray⟩ ⟨b.toArray⟩ w
  simpa only [List.toList_toArray] using this
end Go.Proofs.YtnijcolomoobnaaGreatDoor
namespace Go.Proofs.YtnijcolomoobnaaGreatDoor
open Go.RowKit
set_option linter.unusedVariables false
set_option linter.unusedSimpArgs false

def CmpOk (B : Nat → Prop) (a : V) : Prop := ∀ (b : V) (sa sb : Value) (w : World), IsW B w a sa → IsW B w b sb →
    Calls Tryz.prog 78 #[.agg #[.int .i64 a.k, .int .i64 a.n, .string ⟨a.t.toArray⟩, sa], .agg #[.int .i64 b.k, .int .i64 b.n, .string ⟨b.t.toArray⟩, sb]] w fun r w' => r = .returned (.int .i64 (cmpV a b)) ∧ Below w.heap.size w w'
theorem cmpV_eq (a b : V) : cmpV a b = lx2 (Lib.compareInt a.k b.k) (lx2 (Lib.compareInt a.n b.n) (lx2 (Lib.compareBytes a.t b.t) (cmpVs a.l b.l))) := by
  cases a; cases b; rw [cmpV]; rfl
theorem lx2_ne {c d : Int} (h : ¬ c = 0) : lx2 c d = c := by unfold lx2; rw [if_neg h]
theorem lx2_eq {c d : Int} (h : c = 0) : lx2 c d = d := by unfold lx2; rw [if_pos h]

set_option maxRecDepth 100000 in
set_option maxHeartbeats 1000000 in
theorem cmpFunc_any {B : Nat → Prop} {l m : List V} (hok : ∀ x ∈ l, CmpOk B x) {aa ab : Option Addr} {ca cb : Nat} {w : World} (hl : IsVs B w l (.slice aa l.length ca)) (hm : IsVs B w m (.slice ab m.length cb)) :
    Calls Tryz.prog 117 #[.slice aa l.length ca, .slice ab m.length cb, .func (Fn.func 78) #[] #[]] w fun r w' => r = .returned (.int .i64 (cmpVs l m)) ∧ Below w.heap.size w w' := by
  obtain ⟨aa', ca', e, a1, a2⟩ := hl.slice
  simp only [Value.slice.injEq] at e
  obtain ⟨rfl, -, rfl⟩ := e
  obtain ⟨ab', cb', e, b1, b2⟩ := hm.slice
  simp only [Value.slice.injEq] at e
  obtain ⟨rfl, -, rfl⟩ := e
  have hround : ∀ (q : Nat) (wr : World), q < l.length → q < m.length → Below w.heap.size w wr →
      ∃ x y g o ax cx g' o' ay cy, l[q]? = some x ∧ m[q]? = some y ∧ aa = some ⟨g, o, none⟩ ∧ ab = some ⟨g', o', none⟩ ∧ g < wr.heap.size ∧ g' < wr.heap.size ∧
        (wr.cell? ⟨g, o + q * 4, none⟩ = some (.int .i64 x.k) ∧ wr.cell? ⟨g, o + q * 4 + 1, none⟩ = some (.int .i64 x.n) ∧ wr.cell? ⟨g, o + q * 4 + 2, none⟩ = some (.string ⟨x.t.toArray⟩) ∧ wr.cell? ⟨g, o + q * 4 + 3, none⟩ = some (.slice ax x.l.length cx)) ∧
        (wr.cell? ⟨g', o' + q * 4, none⟩ = some (.int .i64 y.k) ∧ wr.cell? ⟨g', o' + q * 4 + 1, none⟩ = some (.int .i64 y.n) ∧ wr.cell? ⟨g', o' + q * 4 + 2, none⟩ = some (.string ⟨y.t.toArray⟩) ∧ wr.cell? ⟨g', o' + q * 4 + 3, none⟩ = some (.slice ay y.l.length cy)) ∧
        ∀ w2, Below wr.heap.size wr w2 → Calls Tryz.prog 78 #[.agg #[.int .i64 x.k, .int .i64 x.n, .string ⟨x.t.toArray⟩, .slice ax x.l.length cx], .agg #[.int .i64 y.k, .int .i64 y.n, .string ⟨y.t.toArray⟩, .slice ay y.l.length cy]] w2 fun r w' => r = .returned (.int .i64 (cmpV x y)) ∧ Below w2.heap.size w2 w' := by
    intro q wr h1 h2 hB
    have hx : l[q]? = some l[q] := List.getElem?_eq_getElem h1
    have hy : m[q]? = some m[q] := List.getElem?_eq_getElem h2
    obtain ⟨g, o, ax, cx, e, _, hg, c0, c1, c2, c3, hw⟩ := (hl.below hB).get hx
    obtain ⟨g', o', ay, cy, e', _, hg', c0', c1', c2', c3', hw'⟩ := (hm.below hB).get hy
    exact ⟨l[q], m[q], g, o, ax, cx, g', o', ay, cy, hx, hy, e, e', hg, hg', ⟨c0, c1, c2, c3⟩, ⟨c0', c1', c2', c3'⟩, fun w2 hb2 => hok _ (List.getElem_mem h1) _ _ _ w2 (hw.below hb2) (hw'.below hb2)⟩
  have hfirst : ∀ (q : Nat) (wr : World), q < l.length → Below w.heap.size w wr →
      ∃ x g o ax cx, aa = some ⟨g, o, none⟩ ∧ g < wr.heap.size ∧
        (wr.cell? ⟨g, o + q * 4, none⟩ = some (.int .i64 x.k) ∧ wr.cell? ⟨g, o + q * 4 + 1, none⟩ = some (.int .i64 x.n) ∧ wr.cell? ⟨g, o + q * 4 + 2, none⟩ = some (.string ⟨x.t.toArray⟩) ∧ wr.cell? ⟨g, o + q * 4 + 3, none⟩ = some (.slice ax (V.l x).length cx)) := by
    intro q wr h1 hB
    obtain ⟨g, o, ax, cx, e, _, hg, c0, c1, c2, c3, hw⟩ := (hl.below hB).get (List.getElem?_eq_getElem h1)
    exact ⟨l[q], g, o, ax, cx, e, hg, c0, c1, c2, c3⟩
  clear hl hm hok
  go_enter Tryz.func117, Tryz.ntmps117
  go_wp2_with fail
  go_loopg [13] l.length (fun g i wr => ∃ q : Nat, q ≤ l.length ∧ q ≤ m.length ∧ g = l.length - q ∧ i = .int .i64 q ∧ Hid (cmpVs l m = cmpVs (l.drop q) (m.drop q)) ∧ Below w.heap.size w wr)
  case atStart => exact ⟨0, Nat.zero_le _, Nat.zero_le _, rfl, rfl, rfl, Below.refl _ _⟩
  case round =>
    obtain ⟨q, hq, hq2, rfl, rfl, HC, hB⟩ := hrel
    by_cases hlt : q < l.length
    · have hltI : (q : Int) < (l.length : Int) := by omega
      by_cases hlt2 : q < m.length
      · obtain ⟨x, y, g, o, ax, cx, g', o', ay, cy, hx, hy, rfl, rfl, hg, hg', ⟨c0, c1, c2, c3⟩, ⟨c0', c1', c2', c3'⟩, hcall⟩ := hround q wr hlt hlt2 hB
        clear hround hfirst
        have hltI2 : ¬ (m.length : Int) ≤ (q : Int) := by omega
        have hltI3 : (q : Int) < (m.length : Int) := by omega
        have hD : Hid (cmpVs (l.drop q) (m.drop q) = lx2 (cmpV x y) (cmpVs (l.drop (q + 1)) (m.drop (q + 1)))) := cmpVs_drop hx hy
        clear hx hy
        have hba : Below wr.heap.size wr ((wr.alloc (.cells #[.int .i64 x.k, .int .i64 x.n, .string ⟨x.t.toArray⟩, .slice ax x.l.length cx] 31)).alloc (.cells #[.int .i64 y.k, .int .i64 y.n, .string ⟨y.t.toArray⟩, .slice ay y.l.length cy] 31)) := ((Below.refl _ _).alloc (Nat.le_refl _) _).alloc (by simp) _
        go_wp2_with fail
        refine (hcall _ hba).mono ?_
        rintro e w3 ⟨rfl, hb3⟩
        clear hcall
        have hB3 : Below w.heap.size w w3 := hB.trans ((hba.trans (hb3.mono hba.size)).mono hB.size)
        by_cases hz : cmpV x y = 0
        · have hD2 : Hid (cmpVs l m = cmpVs (l.drop (q + 1)) (m.drop (q + 1))) := by
            show _ = _
            rw [HC.out, hD.out, lx2_eq hz]
          clear hD
          rw [hz]
          go_wp2_with fail
          go_roundg (l.length - (q + 1))
          case measure => omega
          case rel => exact ⟨q + 1, by omega, by omega, rfl, by go_num, hD2, hB3⟩
        · have hz' : (cmpV x y != 0) = true := by simp [hz]
          have hD2 : Hid (cmpVs l m = cmpV x y) := by
            show _ = _
            rw [HC.out, hD.out, lx2_ne hz]
          clear hD hba
          generalize cmpV x y = z at *
          go_wp2
          go_ret
          exact ⟨ret_int hD2.out.symm, hB3⟩
      · obtain ⟨x, g, o, ax, cx, rfl, hg, c0, c1, c2, c3⟩ := hfirst q wr hlt hB
        clear hround hfirst
        have hltI2 : (m.length : Int) ≤ (q : Int) := by omega
        have hD2 : Hid (cmpVs l m = 1) := by
          show _ = _
          rw [HC.out, cmpVs_end (Or.inr (by omega)) hq hq2, if_neg (by omega), if_pos (by omega)]
        clear HC
        go_wp2
        go_ret
        exact ⟨ret_int hD2.out.symm, hB.trans (((Below.refl _ _).alloc (Nat.le_refl _) _).mono hB.size)⟩
    · have hltI : ¬ (q : Int) < (l.length : Int) := by omega
      clear hround hfirst
      have hD2 : Hid (cmpVs l m = if l.length < m.length then -1 else 0) := by
        show _ = _
        rw [HC.out, cmpVs_end (Or.inl (by omega)) hq hq2]
        split
        · rfl
        · rw [if_neg (by omega)]
      clear HC
      by_cases hlm : l.length < m.length
      · have hlmI : (l.length : Int) < (m.length : Int) := by omega
        go_wp2
        go_ret
        exact ⟨ret_int (by rw [hD2.out, if_pos hlm]), hB⟩
      · have hlmI : ¬ (l.length : Int) < (m.length : Int) := by omega
        go_wp2
        go_ret
        exact ⟨ret_int (by rw [hD2.out, if_neg hlm]), hB⟩
set_option maxRecDepth 100000 in
set_option maxHeartbeats 1000000 in
theorem compare_step {B : Nat → Prop} {a : V} (hs : ∀ x ∈ a.l, CmpOk B x) : CmpOk B a := by
  intro b sa sb w ha hb
  obtain ⟨aa, ca, rfl, a1, a2⟩ := ha.vs.slice
  obtain ⟨ab, cb, rfl, b1, b2⟩ := hb.vs.slice
  obtain ⟨w0, w1, hW, hW1, hs0, hs1, hB, d0, d1, d2, d3, e0, e1, e2, e3⟩ := boxed2 w a (.slice aa a.l.length ca) b (.slice ab b.l.length cb)
  have h1 := cmpi_any a.k b.k w1
  have h2 := cmpi_any a.n b.n w1
  have h3 := scmp_list a.t b.t w1
  have hh : Hid (cmpV a b = lx2 (Lib.compareInt a.k b.k) (lx2 (Lib.compareInt a.n b.n) (lx2 (Lib.compareBytes a.t b.t) (cmpVs a.l b.l)))) := cmpV_eq a b
  generalize Lib.compareInt a.k b.k = z1 at *
  generalize Lib.compareInt a.n b.n = z2 at *
  generalize Lib.compareBytes a.t b.t = z3 at *
  have h4 := cmpFunc_any hs (ha.vs.below hB) (hb.vs.below hB)
  clear ha hb hs
  by_cases n1 : z1 = 0
  · subst n1
    go_enter Tryz.func78, Tryz.ntmps78
    go_wp2_with fail
    refine h1.mono ?_
    rintro e w2 ⟨rfl, rfl⟩
    go_wp2_with fail
    refine h2.mono ?_
    rintro e w3 ⟨rfl, rfl⟩
    by_cases n2 : z2 = 0
    · subst n2
      go_wp2_with fail
      refine h3.mono ?_
      rintro e w3 ⟨rfl, rfl⟩
      by_cases n3 : z3 = 0
      · subst n3
        go_wp2_with fail
        refine h4.mono ?_
        rintro e w4 ⟨rfl, hb4⟩
        go_wp2
        go_ret
        exact ⟨ret_int (by rw [hh.out, lx2_eq rfl, lx2_eq rfl, lx2_eq rfl]), hB.trans (hb4.mono hB.size)⟩
      · have n3' : (z3 != 0) = true := by simp [n3]
        go_wp2
        go_ret
        exact ⟨ret_int (by rw [hh.out, lx2_eq rfl, lx2_eq rfl, lx2_ne n3]), hB⟩
    · have n2' : (z2 != 0) = true := by simp [n2]
      go_wp2
      go_ret
      exact ⟨ret_int (by rw [hh.out, lx2_eq rfl, lx2_ne n2]), hB⟩
  · have n1' : (z1 != 0) = true := by simp [n1]
    go_enter Tryz.func78, Tryz.ntmps78
    go_wp2_with fail
    refine h1.mono ?_
    rintro e w2 ⟨rfl, rfl⟩
    go_wp2
    go_ret
    exact ⟨ret_int (by rw [hh.out, lx2_ne n1]), hB⟩
theorem cmp_all (B : Nat → Prop) : ∀ (N : Nat) (a : V), wt a < N → CmpOk B a := by
  intro N
  induction N with
  | zero => intro a h; omega
  | succ N ih =>
    intro a h
    refine compare_step fun x hx => ih x ?_
    have := wts_mem hx
    have := wt_eq a
    omega
theorem compare_any {B : Nat → Prop} {a b : V} {sa sb : Value} {w : World} (ha : IsW B w a sa) (hb : IsW B w b sb) :
    Calls Tryz.prog 78 #[.agg #[.int .i64 a.k, .int .i64 a.n, .string ⟨a.t.toArray⟩, sa], .agg #[.int .i64 b.k, .int .i64 b.n, .string ⟨b.t.toArray⟩, sb]] w fun r w' => r = .returned (.int .i64 (cmpV a b)) ∧ Below w.heap.size w w' := cmp_all B _ a (Nat.lt_succ_self _) b sa sb w ha hb
end Go.Proofs.YtnijcolomoobnaaGreatDoor
