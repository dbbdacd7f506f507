/- Texts of ours, joined: Sl, Sm. -/
import Derived.Test.YtnijcolomoobnaaGreatDoorK30
namespace Go.Proofs.YtnijcolomoobnaaGreatDoor
open Go.RowKit
set_option linter.unusedVariables false
set_option linter.unusedSimpArgs false

def rsN : Nx → Rs
  | .done o => if o.trap = 0 then .ret o.val o.sts o.fuel else .trap o.trap o.fuel
  | .go q loc stk sts fl => .go q loc stk sts fl
  | _ => .trap 0 0
def StepIs (m : Md) (states : Int) (n : Nat) (f : Fu) (H : Nat → Option Int) (g : Nat) (o : VOut) : Rs → Prop
  | .go q loc stk sts fl => Vst m states n f H q loc stk sts fl ∧ vmRun it15 m g n q loc stk sts fl = some o ∧ fl ≤ 4096
  | .ret v sts fl => o.val = v ∧ o.sts = sts ∧ o.fuel = fl ∧ o.trap = 0
  | .trap t fl => o.trap = t ∧ o.fuel = fl ∧ t ≠ 0
theorem rsN_op {m : Md} {i : In} {p : Nat} {loc s v sts : List V} {fl : Int} (h : 12 ≤ i.op) : rsN (vmI it15 m i p loc s v sts fl) = opR (opV it15 i v) (p + 1) loc s sts fl := by
  rw [vmI_op h]
  unfold opR
  split
  · rename_i c
    show (if _ = 0 then _ else _) = _
    rw [if_neg c]
  · rfl
theorem step_is {m : Md} {states : Int} (hr : Run m states) (hcon : Snds m.consts) {n : Nat} {f : Fu} {H : Nat → Option Int} {q g : Nat} {loc stk sts : List V} {fl : Int} {o : VOut} (hV : Vst m states n f H q loc stk sts fl) (hfl : fl ≤ 4096) (hrun : vmRun it15 m (g + 1) n q loc stk sts fl = some o) {i : In} (hc : f.code[q]? = some i) (h9 : i.op ≠ 9) :
    StepIs m states n f H g o (rsN (vmI it15 m i q loc (vBelow m i stk) (vPop m i stk) sts fl)) := by
  obtain ⟨i', hc', -, -, -, -, -, -, -, hN⟩ := hV.ins (it := it15) hr
  obtain rfl : i = i' := Option.some.inj (hc.symm.trans hc')
  rw [vmRun, hN] at hrun
  obtain ⟨r1, r2, -⟩ := run_go hrun
  rcases hx : vmI it15 m i q loc (vBelow m i stk) (vPop m i stk) sts fl with o' | ⟨p', loc', stk', sts', fl'⟩ | ⟨k, lk, s', fl'⟩ | _
  · obtain rfl := r2 o' hx
    show StepIs _ _ _ _ _ _ _ (if _ then _ else _)
    split
    · rename_i c
      exact ⟨rfl, rfl, rfl, c⟩
    · rename_i c
      exact ⟨rfl, rfl, c⟩
  · refine ⟨hV.go it15_len hr hcon hc hx, r1 _ _ _ _ _ hx, ?_⟩
    have := (vmI_go (run_inW hr f (List.mem_of_getElem? hV.hf) i (List.mem_of_getElem? hc)) hV.f0 hx).2.2.1
    omega
  · exact absurd (vmI_call hx).1 h9
  · exact absurd (vmI_bad hx).1 h9
theorem en_vm_doings_1 : Enters 39 := fun args wx => by kernel_rfl
theorem en_vm_doings_2 : Enters 41 := fun args wx => by kernel_rfl
theorem en_vm_doings_3 : Enters 42 := fun args wx => by kernel_rfl
theorem en_vm_doings_4 : Enters 44 := fun args wx => by kernel_rfl
theorem en_vm_doings_5 : Enters 45 := fun args wx => by kernel_rfl
theorem en_vm_doings_6 : Enters 46 := fun args wx => by kernel_rfl
theorem en_vmf_jump : Enters 47 := fun args wx => by kernel_rfl
theorem en_vmf_unless : Enters 48 := fun args wx => by kernel_rfl
theorem en_vmf_call : Enters 49 := fun args wx => by kernel_rfl
theorem en_vmf_ret : Enters 50 := fun args wx => by kernel_rfl
theorem en_vmf_binary : Enters 52 := fun args wx => by kernel_rfl
theorem en_vm_ofOne_1 : Enters 84 := fun args wx => by kernel_rfl
theorem en_vmf_not : Enters 55 := fun args wx => by kernel_rfl
theorem en_vmf_length : Enters 56 := fun args wx => by kernel_rfl
theorem en_vmf_has : Enters 58 := fun args wx => by kernel_rfl
theorem en_vm_ofTwo_1 : Enters 94 := fun args wx => by kernel_rfl
theorem en_vmf_put : Enters 62 := fun args wx => by kernel_rfl
theorem en_s_Neg : Enters 54 := fun args wx => by kernel_rfl
theorem en_s_Str : Enters 57 := fun args wx => by kernel_rfl
theorem en_v_At : Enters 60 := fun args wx => by kernel_rfl
theorem en_v_Push : Enters 61 := fun args wx => by kernel_rfl
theorem en_v_Del : Enters 63 := fun args wx => by kernel_rfl
section
variable {e : En} {P : Nat → Prop} {ks : Value} {loc stk sts s : List V} {fl : Int} {q : Nat} {w : World}
theorem row_cell {w : World} {gd : Nat} {arr : Array Value} {T : TypeId} (h : w.heap[gd]? = some (.cells arr T (0, 0))) (j : Nat) : w.cell? ⟨gd, j, none⟩ = arr[j]? := cell_block h j
def Doing (e : En) (gd : Nat) (i : In) (w : World) (R : Rs) : Prop := (∃ K caps, w.cell? ⟨gd, i.op.toNat, none⟩ = some (.func (Fn.func K) #[] caps) ∧ Enters K ∧ Calls Tryz.prog K (#[.pointer (some ⟨e.b, 0, none⟩), .int .i64 i.a] ++ caps) w (StP e w R)) ∨ (w.cell? ⟨gd, i.op.toNat, none⟩ = some (.func (Fn.methodOf 72 "quern/vm.charge") #[] #[]) ∧ Calls Tryz.prog 51 #[.pointer (some ⟨e.p, 0, none⟩), .int .i64 i.a] w (StP e w R))
theorem doing_any {states : Int} {n g : Nat} {f : Fu} {H : Nat → Option Int} {o : VOut} (hr : Run e.m states) (hcon : Snds e.m.consts) (hFn : FnOk e.m states g) (h : LS e P ks loc stk sts fl ((q + 1 : Nat) : Int) false V.zero (.slice none 0 0) w) (hV : Vst e.m states n f H q loc stk sts fl) (hfl : fl ≤ 4096) (hrun : vmRun it15 e.m (g + 1) n q loc stk sts fl = some o) {i : In} (hc : f.code[q]? = some i) :
    ∃ gd R, e.ds = .slice (some ⟨gd, 0, none⟩) 22 22 ∧ gd < w.heap.size ∧ StepIs e.m states n f H g o R ∧ 1 ≤ i.op ∧ i.op ≤ 21 ∧ Doing e gd i w R := by
  obtain ⟨gd, g13, g16, g18, g19, g21, hds, r0, r13, r16, r18, r19, r21, hk⟩ := h.dg
  have hrow := row_cell r0
  have hb : ∀ k, k = gd ∨ k = g13 ∨ k = g16 ∨ k = g18 ∨ k = g19 ∨ k = g21 → k ≠ e.b := fun k hh => by have := (hk k hh).1; have := h.lb; omega
  obtain ⟨i', hc', hin, a1, a2, a3, a4, a5, a6, hN⟩ := hV.ins (it := it15) hr
  obtain rfl : i = i' := Option.some.inj (hc.symm.trans hc')
  obtain ⟨lo1, lo2, lo3, lo4⟩ := inOk_iff.1 hin
  have hst : stk = vBelow e.m i stk ++ vPop e.m i stk := (List.take_append_drop _ _).symm
  have htop := hV.top
  have hn : (vBelow e.m i stk).length + 1 ≤ 900000 := by simp; omega
  have hn' : stk.length + 1 ≤ 900000 := by omega
  have hsv : Snds (vPop e.m i stk) := hV.sstk.drop _
  have h1 : ∀ {vs : List V}, vs.length = 1 → ∃ x0, vs = [x0] := fun {vs} h => List.length_eq_one_iff.1 h
  have h2 : ∀ {vs : List V}, vs.length = 2 → ∃ x0 x1, vs = [x0, x1] := fun {vs} h => by
    match vs, h with
    | [a, b], _ => exact ⟨a, b, rfl⟩
  have h3 : ∀ {vs : List V}, vs.length = 3 → ∃ x0 x1 x2, vs = [x0, x1, x2] := fun {vs} h => by
    match vs, h with
    | [a, b, c], _ => exact ⟨a, b, c, rfl⟩
  have hcell1 : ∀ {k : Nat} {v : Value} {T : TypeId}, w.heap[k]? = some (.cells #[v] T (0, 0)) → w.cell? ⟨k, 0, none⟩ = some v ∧ k < w.heap.size := fun {k v T} hh => ⟨cell_of_one hh, (Array.getElem?_eq_some_iff.1 hh).1⟩
  have hp12 : (i.op = 20 → (vPop e.m i stk).length = 3) ∧ (i.op = 12 ∨ i.op = 17 ∨ i.op = 18 ∨ i.op = 19 ∨ i.op = 21 → (vPop e.m i stk).length = 2) ∧ (i.op = 3 ∨ i.op = 5 ∨ i.op = 6 ∨ i.op = 8 ∨ i.op = 10 ∨ i.op = 13 ∨ i.op = 14 ∨ i.op = 15 ∨ i.op = 16 → (vPop e.m i stk).length = 1) ∧ (i.op = 1 ∨ i.op = 2 ∨ i.op = 4 ∨ i.op = 7 ∨ i.op = 11 → (vPop e.m i stk).length = 0) := by
    unfold popN pop1 pop2 at a2
    refine ⟨fun e => ?_, fun e => ?_, fun e => ?_, fun e => ?_⟩
    · rw [e] at a2; simp at a2; simp; omega
    · rcases e with e | e | e | e | e <;> rw [e] at a2 <;> simp at a2 <;> simp <;> omega
    · rcases e with e | e | e | e | e | e | e | e | e <;> rw [e] at a2 <;> simp at a2 <;> simp <;> omega
    · rcases e with e | e | e | e | e <;> rw [e] at a2 <;> simp at a2 <;> simp <;> omega
  obtain ⟨hp3, hp2, hp1, hp0⟩ := hp12
  have hgd := (Array.getElem?_eq_some_iff.1 r0).1
  by_cases h9 : i.op = 9
  · -- a call
    have hlo : 0 ≤ i.a := by unfold inLow at lo3; rw [h9] at lo3; simpa using lo3
    have hup : i.a < n := by unfold inTop at lo4; rw [h9] at lo4; simpa using lo4
    have hnl := (List.getElem?_eq_some_iff.1 hV.hf).1
    have hkl : i.a.toNat < e.m.funcs.length := by omega
    have hf' : e.m.funcs[i.a.toNat]? = some e.m.funcs[i.a.toNat] := List.getElem?_eq_getElem hkl
    generalize hff : e.m.funcs[i.a.toNat] = f' at hf'
    have hcellK : w.cell? ⟨gd, i.op.toNat, none⟩ = some (.func (Fn.func 49) #[] #[]) := by rw [hrow, h9]; rfl
    have hpar : ((vPop e.m i stk).length : Int) = f'.params := by
      rw [a2]
      unfold popN pop1 pop2
      rw [h9]
      simp [hf']
    have hia : ((i.a.toNat : Nat) : Int) = i.a := by omega
    rw [vmRun, hN] at hrun
    obtain ⟨r1, r2, r3⟩ := run_go hrun
    rw [hst] at h
    by_cases hf1 : fl < 1
    · have hx : vmI it15 e.m i q loc (vBelow e.m i stk) (vPop e.m i stk) sts fl = .done ⟨zV, sts, 0, 54⟩ := by
        unfold vmI
        rw [h9]
        simp [hf1]
      have ho := r2 _ hx
      refine ⟨gd, .trap 54 0, hds, hgd, ?_, lo1, lo2, Or.inl ⟨_, #[], hcellK, en_vmf_call, ?_⟩⟩
      · rw [← ho]; exact ⟨rfl, rfl, by omega⟩
      · have := do_call_few h hf' hpar hf1
        rw [hia] at this
        exact this
    · have hx : vmI it15 e.m i q loc (vBelow e.m i stk) (vPop e.m i stk) sts fl = .call i.a.toNat (loc0 f' (vPop e.m i stk)) (vBelow e.m i stk) (fl - 1) := by
        unfold vmI
        rw [h9]
        simp [hf1, hf']
      obtain ⟨o', ho', ht1, ht2⟩ := r3 _ _ _ _ hx
      obtain ⟨f2, H', hV'⟩ := hV.call it15_len hr hcon hc hx
      obtain rfl : f' = f2 := Option.some.inj (hf'.symm.trans hV'.hf)
      refine ⟨gd, callR o' (q + 1) loc (vBelow e.m i stk), hds, hgd, ?_, lo1, lo2, Or.inl ⟨_, #[], hcellK, en_vmf_call, ?_⟩⟩
      · unfold callR
        split
        · rename_i c
          rw [← ht1 c]
          exact ⟨rfl, rfl, c⟩
        · rename_i c
          have c0 : o'.trap = 0 := Classical.not_not.1 c
          refine ⟨hV.back it15_len hr hcon hc hx ho' c0, ht2 c0, ?_⟩
          have := (vm_fuel (run_inW hr) _ hV'.f0 ho').2.1
          omega
      · have := do_call hFn h hf' hpar hf1 hfl hV' ho' hn
        rw [hia] at this
        exact this
  have hstep := step_is hr hcon hV hfl hrun hc h9
  refine ⟨gd, _, hds, hgd, hstep, lo1, lo2, ?_⟩
  clear hrun hstep a5 a6 hN hFn
  obtain ⟨op, a⟩ := i
  simp only at *
  have hcs : op = 1 ∨ op = 2 ∨ op = 3 ∨ op = 4 ∨ op = 5 ∨ op = 6 ∨ op = 7 ∨ op = 8 ∨ op = 10 ∨ op = 11 ∨ op = 12 ∨ op = 13 ∨ op = 14 ∨ op = 15 ∨ op = 16 ∨ op = 17 ∨ op = 18 ∨ op = 19 ∨ op = 20 ∨ op = 21 := by omega
  rcases hcs with rfl | rfl | rfl | rfl | rfl | rfl | rfl | rfl | rfl | rfl | rfl | rfl | rfl | rfl | rfl | rfl | rfl | rfl | rfl | rfl
  · obtain ⟨k, rfl⟩ : ∃ k : Nat, a = (k : Int) := ⟨a.toNat, by unfold inLow at lo3; simp at lo3; omega⟩
    have hlt : k < e.m.consts.length := by unfold inTop at lo4; simp at lo4; omega
    have hcc := List.getElem?_eq_getElem hlt
    have hv0 : vPop e.m _ stk = [] := List.eq_nil_of_length_eq_zero (hp0 (by simp))
    rw [hv0, List.append_nil] at hst
    rw [hv0]
    generalize vBelow e.m _ stk = s at hst ⊢
    subst hst
    have e1 : rsN (vmI it15 e.m ⟨1, (k : Int)⟩ q loc stk [] sts fl) = .go (q + 1) loc (stk ++ [e.m.consts[k]]) sts fl := by simp [vmI, rsN, List.getD, hcc]
    rw [e1]
    exact Or.inl ⟨_, #[], by rw [hrow]; rfl, en_vm_doings_1, do_const h hcc hn'⟩
  · obtain ⟨k, rfl⟩ : ∃ k : Nat, a = (k : Int) := ⟨a.toNat, by unfold inLow at lo3; simp at lo3; omega⟩
    have hlt : k < loc.length := by have := hV.ll; unfold inTop at lo4; simp at lo4; omega
    have hcc := List.getElem?_eq_getElem hlt
    have hv0 : vPop e.m _ stk = [] := List.eq_nil_of_length_eq_zero (hp0 (by simp))
    rw [hv0, List.append_nil] at hst
    rw [hv0]
    generalize vBelow e.m _ stk = s at hst ⊢
    subst hst
    have e1 : rsN (vmI it15 e.m ⟨2, (k : Int)⟩ q loc stk [] sts fl) = .go (q + 1) loc (stk ++ [loc[k]]) sts fl := by simp [vmI, rsN, List.getD, hcc]
    rw [e1]
    exact Or.inl ⟨_, #[], by rw [hrow]; rfl, en_vm_doings_2, do_load h hcc hn'⟩
  · obtain ⟨k, rfl⟩ : ∃ k : Nat, a = (k : Int) := ⟨a.toNat, by unfold inLow at lo3; simp at lo3; omega⟩
    have hlt : k < loc.length := by have := hV.ll; unfold inTop at lo4; simp at lo4; omega
    obtain ⟨y, hv⟩ := h1 (hp1 (by simp))
    rw [hv] at hst hsv
    rw [hv]
    clear hp0 hp1 hp2 hp3 hv a2
    generalize vBelow e.m _ stk = s at hst hn ⊢
    subst hst
    have e1 : rsN (vmI it15 e.m ⟨3, (k : Int)⟩ q loc s [y] sts fl) = .go (q + 1) (loc.set k y) s sts fl := by simp [vmI, rsN]
    rw [e1]
    exact Or.inl ⟨_, #[], by rw [hrow]; rfl, en_vm_doings_3, do_store h hlt⟩
  · obtain ⟨k, rfl⟩ : ∃ k : Nat, a = (k : Int) := ⟨a.toNat, by unfold inLow at lo3; simp at lo3; omega⟩
    have hlt : k < sts.length := by have := hV.sl; unfold inTop at lo4; simp at lo4; omega
    have hcc := List.getElem?_eq_getElem hlt
    have hv0 : vPop e.m _ stk = [] := List.eq_nil_of_length_eq_zero (hp0 (by simp))
    rw [hv0, List.append_nil] at hst
    rw [hv0]
    generalize vBelow e.m _ stk = s at hst ⊢
    subst hst
    have e1 : rsN (vmI it15 e.m ⟨4, (k : Int)⟩ q loc stk [] sts fl) = .go (q + 1) loc (stk ++ [sts[k]]) sts fl := by simp [vmI, rsN, List.getD, hcc]
    rw [e1]
    exact Or.inl ⟨_, #[], by rw [hrow]; rfl, en_vm_doings_4, do_get h hcc hn'⟩
  · obtain ⟨k, rfl⟩ : ∃ k : Nat, a = (k : Int) := ⟨a.toNat, by unfold inLow at lo3; simp at lo3; omega⟩
    have hlt : k < sts.length := by have := hV.sl; unfold inTop at lo4; simp at lo4; omega
    obtain ⟨y, hv⟩ := h1 (hp1 (by simp))
    rw [hv] at hst hsv
    rw [hv]
    clear hp0 hp1 hp2 hp3 hv a2
    generalize vBelow e.m _ stk = s at hst hn ⊢
    subst hst
    have e1 : rsN (vmI it15 e.m ⟨5, (k : Int)⟩ q loc s [y] sts fl) = .go (q + 1) loc s (sts.set k y) fl := by simp [vmI, rsN]
    rw [e1]
    exact Or.inl ⟨_, #[], by rw [hrow]; rfl, en_vm_doings_5, do_set h hlt⟩
  · obtain ⟨y, hv⟩ := h1 (hp1 (by simp))
    rw [hv] at hst hsv
    rw [hv]
    clear hp0 hp1 hp2 hp3 hv a2
    generalize vBelow e.m _ stk = s at hst hn ⊢
    subst hst
    have e1 : rsN (vmI it15 e.m ⟨6, a⟩ q loc s [y] sts fl) = .go (q + 1) loc s sts fl := by simp [vmI, rsN]
    rw [e1]
    exact Or.inl ⟨_, #[], by rw [hrow]; rfl, en_vm_doings_6, do_pop a h⟩
  · obtain ⟨k, rfl⟩ : ∃ k : Nat, a = (k : Int) := ⟨a.toNat, by unfold inLow at lo3; simp at lo3; omega⟩
    have hv0 : vPop e.m _ stk = [] := List.eq_nil_of_length_eq_zero (hp0 (by simp))
    rw [hv0, List.append_nil] at hst
    rw [hv0]
    generalize vBelow e.m _ stk = s at hst ⊢
    subst hst
    have e1 : rsN (vmI it15 e.m ⟨7, (k : Int)⟩ q loc stk [] sts fl) = jmpR (q + 1) k loc stk sts fl := by
      unfold jmpR
      by_cases c : k < q + 1
      · have c' : k ≤ q := by omega
        rw [if_pos c]
        by_cases cf : fl < 1 <;> simp [vmI, rsN, cf, c']
      · have c' : ¬ k ≤ q := by omega
        rw [if_neg c]
        simp [vmI, rsN, c']
    rw [e1]
    exact Or.inl ⟨_, #[], by rw [hrow]; rfl, en_vmf_jump, do_jump h hfl⟩
  · obtain ⟨k, rfl⟩ : ∃ k : Nat, a = (k : Int) := ⟨a.toNat, by unfold inLow at lo3; simp at lo3; omega⟩
    obtain ⟨y, hv⟩ := h1 (hp1 (by simp))
    rw [hv] at hst hsv
    rw [hv]
    clear hp0 hp1 hp2 hp3 hv a2
    generalize vBelow e.m _ stk = s at hst hn ⊢
    subst hst
    have sy := hsv y (by simp)
    have e1 : rsN (vmI it15 e.m ⟨8, (k : Int)⟩ q loc s [y] sts fl) = unlR y (q + 1) k loc s sts fl := by
      unfold unlR
      by_cases c2 : y.k = 2
      · have hn2 : y.n = 0 ∨ y.n = 1 := by
          obtain ⟨k', n', t', l'⟩ := y
          obtain rfl : k' = 2 := c2
          exact (sd_2.1 sy.2).1
        rw [if_neg (by simp [c2])]
        rcases hn2 with hn2 | hn2
        · rw [hn2]
          unfold jmpR
          by_cases c : k < q + 1
          · have c' : k ≤ q := by omega
            rw [if_neg (by simp), if_pos c]
            by_cases cf : fl < 1 <;> simp [vmI, rsN, cf, c', c2, hn2]
          · have c' : ¬ k ≤ q := by omega
            rw [if_neg (by simp), if_neg c]
            simp [vmI, rsN, c', c2, hn2]
        · rw [hn2]
          simp [vmI, rsN, c2, hn2]
      · rw [if_pos c2]
        simp [vmI, rsN, c2]
    rw [e1]
    exact Or.inl ⟨_, #[], by rw [hrow]; rfl, en_vmf_unless, do_unless h hfl⟩
  · obtain ⟨y, hv⟩ := h1 (hp1 (by simp))
    rw [hv] at hst hsv
    rw [hv]
    clear hp0 hp1 hp2 hp3 hv a2
    generalize vBelow e.m _ stk = s at hst hn ⊢
    subst hst
    have e1 : rsN (vmI it15 e.m ⟨10, a⟩ q loc s [y] sts fl) = .ret y sts fl := by simp [vmI, rsN]
    rw [e1]
    exact Or.inl ⟨_, #[], by rw [hrow]; rfl, en_vmf_ret, do_ret a h⟩
  · have hv0 : vPop e.m _ stk = [] := List.eq_nil_of_length_eq_zero (hp0 (by simp))
    rw [hv0, List.append_nil] at hst
    rw [hv0]
    generalize vBelow e.m _ stk = s at hst ⊢
    subst hst
    have ha0 : 0 ≤ a := by unfold inLow at lo3; simpa using lo3
    refine Or.inr ⟨by rw [hrow]; rfl, ?_⟩
    by_cases cf : fl < a
    · have e1 : rsN (vmI it15 e.m ⟨11, a⟩ q loc stk [] sts fl) = .trap 54 0 := by simp [vmI, rsN, cf]
      rw [e1]
      refine (charge_few h.mc cf).mono ?_
      rintro r w' ⟨rfl, rfl⟩
      exact ⟨rfl, h.mc.set 0, h.fxp (Fr.set (by simp) _ _)⟩
    · have e1 : rsN (vmI it15 e.m ⟨11, a⟩ q loc stk [] sts fl) = .go (q + 1) loc stk sts (fl - a) := by simp [vmI, rsN, cf]
      rw [e1]
      refine (charge_ok h.mc cf ha0 hfl).mono ?_
      rintro r w' ⟨rfl, rfl⟩
      exact ⟨rfl, ⟨P, ks, h.fuel (Fr.set (by simp) _ _) (h.mc.set _)⟩, h.fxp (Fr.set (by simp) _ _)⟩
  · obtain ⟨y, z, hv⟩ := h2 (hp2 (by simp))
    rw [hv] at hst hsv
    rw [hv]
    clear hp0 hp1 hp2 hp3 hv a2
    generalize vBelow e.m _ stk = s at hst hn ⊢
    subst hst
    rw [rsN_op (by simp)]
    exact Or.inl ⟨_, #[], by rw [hrow]; rfl, en_vmf_binary, do_binary h (hsv y (by simp)) (hsv z (by simp)) hn⟩
  · obtain ⟨y, hv⟩ := h1 (hp1 (by simp))
    rw [hv] at hst hsv
    rw [hv]
    clear hp0 hp1 hp2 hp3 hv a2
    generalize vBelow e.m _ stk = s at hst hn ⊢
    subst hst
    rw [rsN_op (by simp)]
    obtain ⟨q1, q2⟩ := hcell1 r13
    obtain ⟨n1, n2, n3, n4⟩ := negV_w (a := y)
    exact Or.inl ⟨_, #[.pointer (some ⟨g13, 0, none⟩)], by rw [hrow]; rfl, en_vm_ofOne_1, do_one h en_s_Neg q1 q2 (hb _ (by simp)) (fun wx ay cy _ _ hy => (neg_any hy.nr wx).mono (fun r w' hr => hr.out n1 n2 n3 n4)) hn⟩
  · obtain ⟨y, hv⟩ := h1 (hp1 (by simp))
    rw [hv] at hst hsv
    rw [hv]
    clear hp0 hp1 hp2 hp3 hv a2
    generalize vBelow e.m _ stk = s at hst hn ⊢
    subst hst
    rw [rsN_op (by simp)]
    exact Or.inl ⟨_, #[], by rw [hrow]; rfl, en_vmf_not, do_not a h (hsv y (by simp)) hn⟩
  · obtain ⟨y, hv⟩ := h1 (hp1 (by simp))
    rw [hv] at hst hsv
    rw [hv]
    clear hp0 hp1 hp2 hp3 hv a2
    generalize vBelow e.m _ stk = s at hst hn ⊢
    subst hst
    rw [rsN_op (by simp)]
    exact Or.inl ⟨_, #[], by rw [hrow]; rfl, en_vmf_length, do_len a h (hsv y (by simp)) hn⟩
  · obtain ⟨y, hv⟩ := h1 (hp1 (by simp))
    rw [hv] at hst hsv
    rw [hv]
    clear hp0 hp1 hp2 hp3 hv a2
    generalize vBelow e.m _ stk = s at hst hn ⊢
    subst hst
    rw [rsN_op (by simp)]
    obtain ⟨q1, q2⟩ := hcell1 r16
    obtain ⟨n1, n2, n3, n4⟩ := strV_w y
    exact Or.inl ⟨_, #[.pointer (some ⟨g16, 0, none⟩)], by rw [hrow]; rfl, en_vm_ofOne_1, do_one h en_s_Str q1 q2 (hb _ (by simp)) (fun wx ay cy hbs htb hy => (str_any hbs htb hy.nr).mono (fun r w' hr => hr.out n1 n2 n3 n4)) hn⟩
  · obtain ⟨y, z, hv⟩ := h2 (hp2 (by simp))
    rw [hv] at hst hsv
    rw [hv]
    clear hp0 hp1 hp2 hp3 hv a2
    generalize vBelow e.m _ stk = s at hst hn ⊢
    subst hst
    rw [rsN_op (by simp)]
    exact Or.inl ⟨_, #[], by rw [hrow]; rfl, en_vmf_has, do_has a h (hsv y (by simp)) hn⟩
  · obtain ⟨y, z, hv⟩ := h2 (hp2 (by simp))
    rw [hv] at hst hsv
    rw [hv]
    clear hp0 hp1 hp2 hp3 hv a2
    generalize vBelow e.m _ stk = s at hst hn ⊢
    subst hst
    rw [rsN_op (by simp)]
    obtain ⟨q1, q2⟩ := hcell1 r18
    exact Or.inl ⟨_, #[.pointer (some ⟨g18, 0, none⟩)], by rw [hrow]; rfl, en_vm_ofTwo_1, do_two h en_v_At q1 q2 (hb _ (by simp)) (fun wx ay cy az cz hy hz => at_any hy hz (by have := (hsv y (by simp)).1; omega) (hsv y (by simp)).tidy) hn⟩
  · obtain ⟨y, z, hv⟩ := h2 (hp2 (by simp))
    rw [hv] at hst hsv
    rw [hv]
    clear hp0 hp1 hp2 hp3 hv a2
    generalize vBelow e.m _ stk = s at hst hn ⊢
    subst hst
    rw [rsN_op (by simp)]
    obtain ⟨q1, q2⟩ := hcell1 r19
    exact Or.inl ⟨_, #[.pointer (some ⟨g19, 0, none⟩)], by rw [hrow]; rfl, en_vm_ofTwo_1, do_two h en_v_Push q1 q2 (hb _ (by simp)) (fun wx ay cy az cz hy hz => push_any hy hz (by have := (hsv y (by simp)).1; omega) (by have := (hsv z (by simp)).1; omega)) hn⟩
  · obtain ⟨y, z, u, hv⟩ := h3 (hp3 (by simp))
    rw [hv] at hst hsv
    rw [hv]
    clear hp0 hp1 hp2 hp3 hv a2
    generalize vBelow e.m _ stk = s at hst hn ⊢
    subst hst
    rw [rsN_op (by simp)]
    exact Or.inl ⟨_, #[], by rw [hrow]; rfl, en_vmf_put, do_put a h (hsv y (by simp)) (hsv z (by simp)) (hsv u (by simp)) hn⟩
  · obtain ⟨y, z, hv⟩ := h2 (hp2 (by simp))
    rw [hv] at hst hsv
    rw [hv]
    clear hp0 hp1 hp2 hp3 hv a2
    generalize vBelow e.m _ stk = s at hst hn ⊢
    subst hst
    rw [rsN_op (by simp)]
    obtain ⟨q1, q2⟩ := hcell1 r21
    exact Or.inl ⟨_, #[.pointer (some ⟨g21, 0, none⟩)], by rw [hrow]; rfl, en_vm_ofTwo_1, do_two h en_v_Del q1 q2 (hb _ (by simp)) (fun wx ay cy az cz hy hz => del_any hy hz (by have := (hsv y (by simp)).1; omega) (hsv y (by simp)).tidy) hn⟩
end
end Go.Proofs.YtnijcolomoobnaaGreatDoor
namespace Go.Proofs.YtnijcolomoobnaaGreatDoor
open Go.RowKit
set_option linter.unusedVariables false
set_option linter.unusedSimpArgs false

theorem wp_call_value {P : Program} {w : World} {o : Oper} {a : Act} {K : Act → World → Prop} {Q : Exit → Act → World → Prop} (f x y : Operand) (t1 t2 : TypeId) (ho : o.op = .call { callee := .value f, args := #[x, y], argTypes := #[t1, t2] }) {fn : Fn} {caps : Array Value} (hf : a.eval f = .func fn #[] caps) {v1 v2 : Value} (hx : a.eval x = v1) (hy : a.eval y = v2) {G : FuncId} {args : Array Value} (hinv : (invoke (.fn fn caps) #[v1, v2]).run P w = .ok (.enter G args) w)
    (h : Calls P G args w fun r w' => match r with
      | .returned v => K (a.put o.dst v) w'
      | .panicked c => Q (.panic c) a w'
      | .outgrown => LetsOut Q) : o.wp P a w K Q := by
  unfold Oper.wp execOp
  simp [ho, resolve, Deferred.ofValue, hf, hx, hy, hinv]
  rw [Oper.upon_enter]
  refine h.mono ?_
  intro r w' hh
  cases r <;> exact hh
theorem inv_func {K : FuncId} (h : Enters K) (caps : Array Value) (v1 v2 : Value) (w : World) : (invoke (.fn (Fn.func K) caps) #[v1, v2]).run Tryz.prog w = .ok (.enter K (#[v1, v2] ++ caps)) w := by
  unfold invoke
  simp only []
  exact h _ w
theorem inv_charge {b p : Nat} {a : Value} {caps : Array Value} {w : World} (h : w.cell? ⟨b, 0, none⟩ = some (.pointer (some ⟨p, 0, none⟩))) (hl : b < w.heap.size) : (invoke (.fn (Fn.methodOf 72 "quern/vm.charge") caps) #[.pointer (some ⟨b, 0, none⟩), a]).run Tryz.prog w = .ok (.enter 51 #[.pointer (some ⟨p, 0, none⟩), a]) w := by
  have h1 : ((Tryz.prog.info? 72).bind fun i => i.methods.find? (·.name == "quern/vm.charge")).map (fun m => (m.path.toList, m.func)) = some ([{ struct := 75, index := 0, deref := true }], some (51, true)) := by kernel_rfl
  have h2 : (match Tryz.prog.underlying 75 with
    | some (.struct fs) => (fs[0]?).map (fun f => (f.type, f.offset))
    | _ => none) = some (58, 0) := by kernel_rfl
  have h3 : Tryz.prog.underlying 58 = some (.pointer 62) := by kernel_rfl
  have h4 : Tryz.prog.underlying 72 = some (.pointer 75) := by kernel_rfl
  have hen : ∀ (args : Array Value) (wx : World), (callFunc 51 args).run Tryz.prog wx = .ok (.enter 51 args) wx := fun args wx => by kernel_rfl
  rcases hi : Tryz.prog.info? 72 with _ | i
  · rw [hi] at h1; cases h1
  rw [hi] at h1
  rcases hm : i.methods.find? (·.name == "quern/vm.charge") with _ | m
  · simp [hm] at h1
  simp only [Option.bind_some, hm, Option.map_some, Option.some.injEq, Prod.mk.injEq] at h1
  obtain ⟨hp, hfn⟩ := h1
  rcases hu : Tryz.prog.underlying 75 with _ | d
  · rw [hu] at h2; cases h2
  rw [hu] at h2
  cases d <;> simp only [] at h2 <;> try (cases h2)
  rename_i fs
  rcases hf0 : fs[0]? with _ | f0
  · rw [hf0] at h2; cases h2
  rw [hf0] at h2
  simp only [Option.map_some, Option.some.injEq, Prod.mk.injEq] at h2
  obtain ⟨ht, ho⟩ := h2
  have hsz : ∀ wx : World, (sizeOf 58).run Tryz.prog wx = .ok 1 wx := fun wx => by kernel_rfl
  have hag : ∀ wx : World, (isAgg 58).run Tryz.prog wx = .ok false wx := fun wx => by kernel_rfl
  have hld : (loadVar 58 ⟨b, 0, none⟩).run Tryz.prog w = .ok (.pointer (some ⟨p, 0, none⟩)) w := by
    unfold loadVar
    simp [hag, go_sem, h, hl]
  have hfp : (fieldPlace ⟨b, 0, none⟩ f0).run Tryz.prog w = .ok ⟨b, 0, none⟩ w := by
    unfold fieldPlace
    rw [ht, ho]
    simp [hsz, Addr.add]
  have hfl : (follow [{ struct := 75, index := 0, deref := true }] 72 (.val (.pointer (some ⟨b, 0, none⟩)))).run Tryz.prog w = .ok (58, .var ⟨b, 0, none⟩) w := by
    simp [follow, run_underlying hu, hf0, Place.get, asAddr, hfp, ht]
  have hrv : (receiverAt 58 (.var ⟨b, 0, none⟩) true none).run Tryz.prog w = .ok (.pointer (some ⟨p, 0, none⟩)) w := by
    simp [receiverAt, run_underlying h3, Place.get, hld]
  obtain ⟨N, hN⟩ : ∃ N, Tryz.prog.types.size + Made.depth = N + 1 := ⟨Tryz.prog.types.size + Made.depth - 1, by unfold Made.depth; omega⟩
  have hpe : ¬ m.path = #[] := by
    intro h0
    rw [h0] at hp
    cases hp
  have hti : (typeInfo 72).run Tryz.prog w = .ok i w := by simp [typeInfo, hi]
  have hme : (method (N + 1) 72 (.pointer (some ⟨b, 0, none⟩)) "quern/vm.charge").run Tryz.prog w = .ok (51, .pointer (some ⟨p, 0, none⟩)) w := by
    unfold method
    simp [hti, hm, hp, hfl, hfn, hpe, hrv]
  have hcm : (callMethod (.iface 72 (.pointer (some ⟨b, 0, none⟩))) "quern/vm.charge" #[a]).run Tryz.prog w = .ok (.enter 51 #[.pointer (some ⟨p, 0, none⟩), a]) w := by
    simp only [callMethod, Sem.run_bind, run_program, Result.andThen_ok]
    rw [hN, hme]
    simp only [Result.andThen_ok]
    exact hen _ _
  unfold invoke
  simp [run_underlying h4, hcm]
end Go.Proofs.YtnijcolomoobnaaGreatDoor
