/- Texts of ours, joined: Nb, Nc, Nd, Ne. -/
import Derived.Test.YtnijcolomoobnaaGreatDoorK08
import Derived.Test.YtnijcolomoobnaaGreatDoorK03
import Derived.Test.YtnijcolomoobnaaGreatDoorK01
import Derived.Test.YtnijcolomoobnaaGreatDoorK07
namespace Go.Proofs.YtnijcolomoobnaaGreatDoor
set_option linter.unusedVariables false
set_option linter.unusedSimpArgs false

structure VOut where
  val : V
  sts : List V
  fuel : Int
  trap : Int
def opV (it : Int → List UInt8) (i : In) (v : List V) : V × Int :=
  if i.op = 12 then binV i.a (v.getD 0 zV) (v.getD 1 zV)
  else if i.op = 13 then negV (v.getD 0 zV)
  else if i.op = 14 then (bV' (decide ((v.getD 0 zV).n = 0)), if (v.getD 0 zV).k = 2 then 0 else 40)
  else if i.op = 15 then (nV (lenV (v.getD 0 zV)).1, (lenV (v.getD 0 zV)).2)
  else if i.op = 16 then (if (v.getD 0 zV).k = 1 then (tV (it (v.getD 0 zV).n), 0) else (zV, 40))
  else if i.op = 17 then (bV' (decide ((atV (v.getD 0 zV) (v.getD 1 zV)).2 = 0)), if (v.getD 0 zV).k = 5 then 0 else 40)
  else if i.op = 18 then atV (v.getD 0 zV) (v.getD 1 zV)
  else if i.op = 19 then pushV (v.getD 0 zV) (v.getD 1 zV)
  else if i.op = 20 then putV (v.getD 0 zV) (v.getD 1 zV) (v.getD 2 zV)
  else if i.op = 21 then delV (v.getD 0 zV) (v.getD 1 zV)
  else (zV, 0)
def loc0 (f : Fu) (args : List V) : List V := args ++ List.replicate (f.locals.toNat - args.length) (nV 0)
inductive Nx where
  | done (o : VOut)
  | go (p : Nat) (loc stk sts : List V) (fl : Int)
  | call (k : Nat) (loc s : List V) (fl : Int)
  | bad
def vmI (it : Int → List UInt8) (m : Md) (i : In) (p : Nat) (loc s v sts : List V) (fl : Int) : Nx :=
  if i.op = 1 then .go (p + 1) loc (s ++ [m.consts.getD i.a.toNat zV]) sts fl
  else if i.op = 2 then .go (p + 1) loc (s ++ [loc.getD i.a.toNat zV]) sts fl
  else if i.op = 3 then .go (p + 1) (loc.set i.a.toNat (v.getD 0 zV)) s sts fl
  else if i.op = 4 then .go (p + 1) loc (s ++ [sts.getD i.a.toNat zV]) sts fl
  else if i.op = 5 then .go (p + 1) loc s (sts.set i.a.toNat (v.getD 0 zV)) fl
  else if i.op = 6 then .go (p + 1) loc s sts fl
  else if i.op = 8 ∧ (v.getD 0 zV).k ≠ 2 then .done ⟨zV, sts, fl, 40⟩
  else if i.op = 7 ∨ (i.op = 8 ∧ (v.getD 0 zV).n = 0) then
    (if i.a ≤ p then (if fl < 1 then .done ⟨zV, sts, 0, 54⟩ else .go i.a.toNat loc s sts (fl - 1)) else .go i.a.toNat loc s sts fl)
  else if i.op = 8 then .go (p + 1) loc s sts fl
  else if i.op = 9 then (if fl < 1 then .done ⟨zV, sts, 0, 54⟩ else match m.funcs[i.a.toNat]? with
      | none => .bad
      | some f' => .call i.a.toNat (loc0 f' v) s (fl - 1))
  else if i.op = 10 then .done ⟨v.getD 0 zV, sts, fl, 0⟩
  else if i.op = 11 then (if fl < i.a then .done ⟨zV, sts, 0, 54⟩ else .go (p + 1) loc s sts (fl - i.a))
  else if (opV it i v).2 ≠ 0 then .done ⟨zV, sts, fl, (opV it i v).2⟩
  else .go (p + 1) loc (s ++ [(opV it i v).1]) sts fl
def vmN (it : Int → List UInt8) (m : Md) (n p : Nat) (loc stk sts : List V) (fl : Int) : Nx :=
  match (m.funcs[n]?).bind (fun f => f.code[p]?) with
  | none => .bad
  | some i => vmI it m i p loc (stk.take (stk.length - (popN m.funcs i).toNat)) (stk.drop (stk.length - (popN m.funcs i).toNat)) sts fl
def vmRun (it : Int → List UInt8) (m : Md) : Nat → Nat → Nat → List V → List V → List V → Int → Option VOut
  | 0, _, _, _, _, _, _ => none
  | g + 1, n, p, loc, stk, sts, fl =>
    match vmN it m n p loc stk sts fl with
    | .bad => none
    | .done o => some o
    | .go p' loc' stk' sts' fl' => vmRun it m g n p' loc' stk' sts' fl'
    | .call k lk s fl' =>
      match vmRun it m g k 0 lk [] sts fl' with
      | none => none
      | some o => if o.trap ≠ 0 then some o else vmRun it m g n (p + 1) loc (s ++ [o.val]) o.sts o.fuel
theorem vm_mono {it : Int → List UInt8} {m : Md} : ∀ (g : Nat) {n p : Nat} {loc stk sts : List V} {fl : Int} {o : VOut}, vmRun it m g n p loc stk sts fl = some o → vmRun it m (g + 1) n p loc stk sts fl = some o
  | 0, n, p, loc, stk, sts, fl, o, h => by rw [vmRun] at h; cases h
  | g + 1, n, p, loc, stk, sts, fl, o, h => by
    rw [vmRun] at h ⊢
    generalize vmN it m n p loc stk sts fl = x at h ⊢
    rcases x with o' | ⟨p', loc', stk', sts', fl'⟩ | ⟨k, lk, s, fl'⟩ | _
    · exact h
    · exact vm_mono g h
    · have h' : (match vmRun it m g k 0 lk [] sts fl' with
        | none => none
        | some o => if o.trap ≠ 0 then some o else vmRun it m g n (p + 1) loc (s ++ [o.val]) o.sts o.fuel) = some o := h
      show (match vmRun it m (g + 1) k 0 lk [] sts fl' with
        | none => none
        | some o => if o.trap ≠ 0 then some o else vmRun it m (g + 1) n (p + 1) loc (s ++ [o.val]) o.sts o.fuel) = some o
      rcases ho : vmRun it m g k 0 lk [] sts fl' with _ | o'
      · rw [ho] at h'; cases h'
      rw [ho] at h'
      rw [vm_mono g ho]
      have h2 : (if o'.trap ≠ 0 then some o' else vmRun it m g n (p + 1) loc (s ++ [o'.val]) o'.sts o'.fuel) = some o := h'
      show (if o'.trap ≠ 0 then some o' else vmRun it m (g + 1) n (p + 1) loc (s ++ [o'.val]) o'.sts o'.fuel) = some o
      split
      · rename_i c; rw [if_pos c] at h2; exact h2
      · rename_i c; rw [if_neg c] at h2; exact vm_mono g h2
    · exact h
theorem vm_le {it : Int → List UInt8} {m : Md} {g g' : Nat} (hg : g ≤ g') {n p : Nat} {loc stk sts : List V} {fl : Int} {o : VOut} (h : vmRun it m g n p loc stk sts fl = some o) : vmRun it m g' n p loc stk sts fl = some o := by
  obtain ⟨d, rfl⟩ : ∃ d, g' = g + d := ⟨g' - g, by omega⟩
  clear hg
  induction d with
  | zero => exact h
  | succ d ih => exact vm_mono _ ih
def Nx.more (k : Int) : Nx → Nx
  | .done o => if o.trap = 54 then .done o else .done ⟨o.val, o.sts, o.fuel + k, o.trap⟩
  | .go p loc stk sts fl => .go p loc stk sts (fl + k)
  | .call n loc s fl => .call n loc s (fl + k)
  | .bad => .bad
end Go.Proofs.YtnijcolomoobnaaGreatDoor
namespace Go.Proofs.YtnijcolomoobnaaGreatDoor
set_option linter.unusedVariables false
set_option linter.unusedSimpArgs false

theorem exR_54 (x : Int) : (exR x).2 ≠ 54 := by unfold exR; split <;> simp
theorem arZ_54 (op a b : Int) : (arZ op a b).2 ≠ 54 := by
  unfold arZ
  repeat' split
  all_goals first
    | exact exR_54 _
    | simp
theorem binV_54 (op : Int) (a b : V) : (binV op a b).2 ≠ 54 := by
  unfold binV
  repeat' split
  all_goals first
    | exact arZ_54 _ _ _
    | simp
theorem negV_54 (a : V) : (negV a).2 ≠ 54 := by
  unfold negV
  repeat' split
  all_goals first
    | exact exR_54 _
    | simp
theorem plV_54 (v k : V) : (plV v k).2 ≠ 54 := by
  unfold plV
  repeat' split
  all_goals simp
theorem wgV_54 (v : V) : (wgV v).2 ≠ 54 := by unfold wgV; split <;> simp
theorem atV_54 (v k : V) : (atV v k).2 ≠ 54 := by
  unfold atV
  split
  · simp
  · exact plV_54 _ _
theorem opV_54 (it : Int → List UInt8) (i : In) (v : List V) : (opV it i v).2 ≠ 54 := by
  unfold opV
  split
  · exact binV_54 _ _ _
  split
  · exact negV_54 _
  split
  · dsimp only; split <;> simp
  split
  · unfold lenV; repeat' split
    all_goals simp
  split
  · split <;> simp
  split
  · dsimp only; split <;> simp
  split
  · exact atV_54 _ _
  split
  · unfold pushV
    repeat' split
    all_goals first
      | exact wgV_54 _
      | simp
  split
  · unfold putV
    repeat' split
    all_goals first
      | exact wgV_54 _
      | exact plV_54 _ _
      | simp
  split
  · unfold delV
    repeat' split
    all_goals simp
  · simp
structure InW (i : In) : Prop where
  lo : 1 ≤ i.op
  hi : i.op ≤ 21
  pos : i.op = 7 ∨ i.op = 8 ∨ i.op = 11 → 0 ≤ i.a
theorem vmI_go {it : Int → List UInt8} {m : Md} {i : In} (hw : InW i) {p : Nat} {loc s v sts : List V} {fl : Int} (h0 : 0 ≤ fl) {p' : Nat} {loc' stk' sts' : List V} {fl' : Int} (h : vmI it m i p loc s v sts fl = .go p' loc' stk' sts' fl') : p' ∈ nxt p i ∧ (stk'.length : Int) = s.length + psh i.op ∧ fl' ≤ fl ∧ 0 ≤ fl' ∧ (p' ≤ p → fl' < fl) := by
  have hlo := hw.lo
  have hhi := hw.hi
  have hpos := hw.pos
  have hn : ∀ q : Nat, i.op ≠ 7 → i.op ≠ 10 → q = p + 1 → q ∈ nxt p i := fun q h7 h10 e => by
    unfold nxt
    rw [if_neg (show ¬ (i.op = 7 ∨ i.op = 10) by omega), e]
    simp
  have hj : i.op = 7 ∨ i.op = 8 → i.a.toNat ∈ nxt p i := fun h => by
    unfold nxt
    rw [if_pos h]
    simp
  unfold vmI at h
  by_cases c1 : i.op = 1
  · simp only [if_pos c1, Nx.go.injEq] at h
    obtain ⟨rfl, rfl, rfl, rfl, rfl⟩ := h
    exact ⟨hn _ (by omega) (by omega) rfl, by rw [c1]; simp [psh, pshB], by omega, h0, by omega⟩
  simp only [if_neg c1] at h
  by_cases c2 : i.op = 2
  · simp only [if_pos c2, Nx.go.injEq] at h
    obtain ⟨rfl, rfl, rfl, rfl, rfl⟩ := h
    exact ⟨hn _ (by omega) (by omega) rfl, by rw [c2]; simp [psh, pshB], by omega, h0, by omega⟩
  simp only [if_neg c2] at h
  by_cases c3 : i.op = 3
  · simp only [if_pos c3, Nx.go.injEq] at h
    obtain ⟨rfl, rfl, rfl, rfl, rfl⟩ := h
    exact ⟨hn _ (by omega) (by omega) rfl, by rw [c3]; simp [psh, pshB], by omega, h0, by omega⟩
  simp only [if_neg c3] at h
  by_cases c4 : i.op = 4
  · simp only [if_pos c4, Nx.go.injEq] at h
    obtain ⟨rfl, rfl, rfl, rfl, rfl⟩ := h
    exact ⟨hn _ (by omega) (by omega) rfl, by rw [c4]; simp [psh, pshB], by omega, h0, by omega⟩
  simp only [if_neg c4] at h
  by_cases c5 : i.op = 5
  · simp only [if_pos c5, Nx.go.injEq] at h
    obtain ⟨rfl, rfl, rfl, rfl, rfl⟩ := h
    exact ⟨hn _ (by omega) (by omega) rfl, by rw [c5]; simp [psh, pshB], by omega, h0, by omega⟩
  simp only [if_neg c5] at h
  by_cases c6 : i.op = 6
  · simp only [if_pos c6, Nx.go.injEq] at h
    obtain ⟨rfl, rfl, rfl, rfl, rfl⟩ := h
    exact ⟨hn _ (by omega) (by omega) rfl, by rw [c6]; simp [psh, pshB], by omega, h0, by omega⟩
  simp only [if_neg c6] at h
  by_cases c7 : i.op = 8 ∧ (v.getD 0 zV).k ≠ 2
  · simp only [if_pos c7] at h; cases h
  simp only [if_neg c7] at h
  by_cases c8 : i.op = 7 ∨ (i.op = 8 ∧ (v.getD 0 zV).n = 0)
  · simp only [if_pos c8] at h
    have hps : psh i.op = 0 := by rcases c8 with e | ⟨e, -⟩ <;> rw [e] <;> simp [psh, pshB]
    have hjj := hj (by omega)
    have ha : 0 ≤ i.a := hpos (by omega)
    by_cases ca : i.a ≤ p
    · simp only [if_pos ca] at h
      by_cases cf : fl < 1
      · simp only [if_pos cf] at h; cases h
      · simp only [if_neg cf, Nx.go.injEq] at h
        obtain ⟨rfl, rfl, rfl, rfl, rfl⟩ := h
        exact ⟨hjj, by rw [hps]; omega, by omega, by omega, by omega⟩
    · simp only [if_neg ca, Nx.go.injEq] at h
      obtain ⟨rfl, rfl, rfl, rfl, rfl⟩ := h
      exact ⟨hjj, by rw [hps]; omega, by omega, by omega, by omega⟩
  simp only [if_neg c8] at h
  by_cases c9 : i.op = 8
  · simp only [if_pos c9, Nx.go.injEq] at h
    obtain ⟨rfl, rfl, rfl, rfl, rfl⟩ := h
    exact ⟨hn _ (by omega) (by omega) rfl, by rw [c9]; simp [psh, pshB], by omega, h0, by omega⟩
  simp only [if_neg c9] at h
  by_cases c10 : i.op = 9
  · simp only [if_pos c10] at h
    by_cases cf : fl < 1
    · simp only [if_pos cf] at h; cases h
    · simp only [if_neg cf] at h
      rcases hf : m.funcs[i.a.toNat]? with _ | f'
      · rw [hf] at h; cases h
      · rw [hf] at h; cases h
  simp only [if_neg c10] at h
  by_cases c11 : i.op = 10
  · simp only [if_pos c11] at h; cases h
  simp only [if_neg c11] at h
  by_cases c12 : i.op = 11
  · simp only [if_pos c12] at h
    have ha : 0 ≤ i.a := hpos (by omega)
    by_cases cf : fl < i.a
    · simp only [if_pos cf] at h; cases h
    · simp only [if_neg cf, Nx.go.injEq] at h
      obtain ⟨rfl, rfl, rfl, rfl, rfl⟩ := h
      exact ⟨hn _ (by omega) (by omega) rfl, by rw [c12]; simp [psh, pshB], by omega, by omega, by omega⟩
  simp only [if_neg c12] at h
  by_cases c13 : (opV it i v).2 ≠ 0
  · simp only [if_pos c13] at h; cases h
  · simp only [if_neg c13, Nx.go.injEq] at h
    obtain ⟨rfl, rfl, rfl, rfl, rfl⟩ := h
    have hps : psh i.op = 1 := by
      have : i.op = 12 ∨ i.op = 13 ∨ i.op = 14 ∨ i.op = 15 ∨ i.op = 16 ∨ i.op = 17 ∨ i.op = 18 ∨ i.op = 19 ∨ i.op = 20 ∨ i.op = 21 := by omega
      rcases this with e | e | e | e | e | e | e | e | e | e <;> rw [e] <;> simp [psh, pshB]
    exact ⟨hn _ (by omega) (by omega) rfl, by rw [hps]; simp, by omega, h0, by omega⟩
end Go.Proofs.YtnijcolomoobnaaGreatDoor
namespace Go.Proofs.YtnijcolomoobnaaGreatDoor
set_option linter.unusedVariables false
set_option linter.unusedSimpArgs false

theorem vmI_call {it : Int → List UInt8} {m : Md} {i : In} {p : Nat} {loc s v sts : List V} {fl : Int} {k : Nat} {lk s' : List V} {fl' : Int} (h : vmI it m i p loc s v sts fl = .call k lk s' fl') : i.op = 9 ∧ k = i.a.toNat ∧ s' = s ∧ fl' = fl - 1 ∧ 0 ≤ fl' ∧ ∃ f', m.funcs[k]? = some f' ∧ lk = loc0 f' v := by
  unfold vmI at h
  by_cases c1 : i.op = 1
  · simp only [if_pos c1] at h; cases h
  simp only [if_neg c1] at h
  by_cases c2 : i.op = 2
  · simp only [if_pos c2] at h; cases h
  simp only [if_neg c2] at h
  by_cases c3 : i.op = 3
  · simp only [if_pos c3] at h; cases h
  simp only [if_neg c3] at h
  by_cases c4 : i.op = 4
  · simp only [if_pos c4] at h; cases h
  simp only [if_neg c4] at h
  by_cases c5 : i.op = 5
  · simp only [if_pos c5] at h; cases h
  simp only [if_neg c5] at h
  by_cases c6 : i.op = 6
  · simp only [if_pos c6] at h; cases h
  simp only [if_neg c6] at h
  by_cases c7 : i.op = 8 ∧ (v.getD 0 zV).k ≠ 2
  · simp only [if_pos c7] at h; cases h
  simp only [if_neg c7] at h
  by_cases c8 : i.op = 7 ∨ (i.op = 8 ∧ (v.getD 0 zV).n = 0)
  · simp only [if_pos c8] at h
    by_cases ca : i.a ≤ p
    · simp only [if_pos ca] at h
      by_cases cf : fl < 1
      · simp only [if_pos cf] at h; cases h
      · simp only [if_neg cf] at h; cases h
    · simp only [if_neg ca] at h; cases h
  simp only [if_neg c8] at h
  by_cases c9 : i.op = 8
  · simp only [if_pos c9] at h; cases h
  simp only [if_neg c9] at h
  by_cases c10 : i.op = 9
  · simp only [if_pos c10] at h
    by_cases cf : fl < 1
    · simp only [if_pos cf] at h; cases h
    · simp only [if_neg cf] at h
      rcases hf : m.funcs[i.a.toNat]? with _ | f'
      · rw [hf] at h; cases h
      · rw [hf] at h
        have h' : Nx.call i.a.toNat (loc0 f' v) s (fl - 1) = .call k lk s' fl' := h
        simp only [Nx.call.injEq] at h'
        obtain ⟨rfl, rfl, rfl, rfl⟩ := h'
        exact ⟨c10, rfl, rfl, rfl, by omega, f', hf, rfl⟩
  simp only [if_neg c10] at h
  by_cases c11 : i.op = 10
  · simp only [if_pos c11] at h; cases h
  simp only [if_neg c11] at h
  by_cases c12 : i.op = 11
  · simp only [if_pos c12] at h
    by_cases cf : fl < i.a
    · simp only [if_pos cf] at h; cases h
    · simp only [if_neg cf] at h; cases h
  simp only [if_neg c12] at h
  by_cases c13 : (opV it i v).2 ≠ 0
  · simp only [if_pos c13] at h; cases h
  · simp only [if_neg c13] at h; cases h
theorem vmI_bad {it : Int → List UInt8} {m : Md} {i : In} {p : Nat} {loc s v sts : List V} {fl : Int} (h : vmI it m i p loc s v sts fl = .bad) : i.op = 9 ∧ m.funcs[i.a.toNat]? = none := by
  unfold vmI at h
  by_cases c1 : i.op = 1
  · simp only [if_pos c1] at h; cases h
  simp only [if_neg c1] at h
  by_cases c2 : i.op = 2
  · simp only [if_pos c2] at h; cases h
  simp only [if_neg c2] at h
  by_cases c3 : i.op = 3
  · simp only [if_pos c3] at h; cases h
  simp only [if_neg c3] at h
  by_cases c4 : i.op = 4
  · simp only [if_pos c4] at h; cases h
  simp only [if_neg c4] at h
  by_cases c5 : i.op = 5
  · simp only [if_pos c5] at h; cases h
  simp only [if_neg c5] at h
  by_cases c6 : i.op = 6
  · simp only [if_pos c6] at h; cases h
  simp only [if_neg c6] at h
  by_cases c7 : i.op = 8 ∧ (v.getD 0 zV).k ≠ 2
  · simp only [if_pos c7] at h; cases h
  simp only [if_neg c7] at h
  by_cases c8 : i.op = 7 ∨ (i.op = 8 ∧ (v.getD 0 zV).n = 0)
  · simp only [if_pos c8] at h
    by_cases ca : i.a ≤ p
    · simp only [if_pos ca] at h
      by_cases cf : fl < 1
      · simp only [if_pos cf] at h; cases h
      · simp only [if_neg cf] at h; cases h
    · simp only [if_neg ca] at h; cases h
  simp only [if_neg c8] at h
  by_cases c9 : i.op = 8
  · simp only [if_pos c9] at h; cases h
  simp only [if_neg c9] at h
  by_cases c10 : i.op = 9
  · simp only [if_pos c10] at h
    by_cases cf : fl < 1
    · simp only [if_pos cf] at h; cases h
    · simp only [if_neg cf] at h
      rcases hf : m.funcs[i.a.toNat]? with _ | f'
      · exact ⟨c10, rfl⟩
      · rw [hf] at h; cases h
  simp only [if_neg c10] at h
  by_cases c11 : i.op = 10
  · simp only [if_pos c11] at h; cases h
  simp only [if_neg c11] at h
  by_cases c12 : i.op = 11
  · simp only [if_pos c12] at h
    by_cases cf : fl < i.a
    · simp only [if_pos cf] at h; cases h
    · simp only [if_neg cf] at h; cases h
  simp only [if_neg c12] at h
  by_cases c13 : (opV it i v).2 ≠ 0
  · simp only [if_pos c13] at h; cases h
  · simp only [if_neg c13] at h; cases h
theorem vmI_done {it : Int → List UInt8} {m : Md} {i : In} {p : Nat} {loc s v sts : List V} {fl : Int} (h0 : 0 ≤ fl) {o : VOut} (h : vmI it m i p loc s v sts fl = .done o) : 0 ≤ o.fuel ∧ o.fuel ≤ fl ∧ (o.trap = 54 → o.fuel = 0) := by
  unfold vmI at h
  by_cases c1 : i.op = 1
  · simp only [if_pos c1] at h; cases h
  simp only [if_neg c1] at h
  by_cases c2 : i.op = 2
  · simp only [if_pos c2] at h; cases h
  simp only [if_neg c2] at h
  by_cases c3 : i.op = 3
  · simp only [if_pos c3] at h; cases h
  simp only [if_neg c3] at h
  by_cases c4 : i.op = 4
  · simp only [if_pos c4] at h; cases h
  simp only [if_neg c4] at h
  by_cases c5 : i.op = 5
  · simp only [if_pos c5] at h; cases h
  simp only [if_neg c5] at h
  by_cases c6 : i.op = 6
  · simp only [if_pos c6] at h; cases h
  simp only [if_neg c6] at h
  by_cases c7 : i.op = 8 ∧ (v.getD 0 zV).k ≠ 2
  · simp only [if_pos c7] at h; cases h; exact ⟨h0, Int.le_refl _, fun h => by cases h⟩
  simp only [if_neg c7] at h
  by_cases c8 : i.op = 7 ∨ (i.op = 8 ∧ (v.getD 0 zV).n = 0)
  · simp only [if_pos c8] at h
    by_cases ca : i.a ≤ p
    · simp only [if_pos ca] at h
      by_cases cf : fl < 1
      · simp only [if_pos cf] at h; cases h; exact ⟨Int.le_refl _, h0, fun _ => rfl⟩
      · simp only [if_neg cf] at h; cases h
    · simp only [if_neg ca] at h; cases h
  simp only [if_neg c8] at h
  by_cases c9 : i.op = 8
  · simp only [if_pos c9] at h; cases h
  simp only [if_neg c9] at h
  by_cases c10 : i.op = 9
  · simp only [if_pos c10] at h
    by_cases cf : fl < 1
    · simp only [if_pos cf] at h; cases h; exact ⟨Int.le_refl _, h0, fun _ => rfl⟩
    · simp only [if_neg cf] at h
      rcases hf : m.funcs[i.a.toNat]? with _ | f'
      · rw [hf] at h; cases h
      · rw [hf] at h; cases h
  simp only [if_neg c10] at h
  by_cases c11 : i.op = 10
  · simp only [if_pos c11] at h; cases h; exact ⟨h0, Int.le_refl _, fun h => by cases h⟩
  simp only [if_neg c11] at h
  by_cases c12 : i.op = 11
  · simp only [if_pos c12] at h
    by_cases cf : fl < i.a
    · simp only [if_pos cf] at h; cases h; exact ⟨Int.le_refl _, h0, fun _ => rfl⟩
    · simp only [if_neg cf] at h; cases h
  simp only [if_neg c12] at h
  by_cases c13 : (opV it i v).2 ≠ 0
  · simp only [if_pos c13] at h; cases h; exact ⟨h0, Int.le_refl _, fun h => absurd h (opV_54 _ _ _)⟩
  · simp only [if_neg c13] at h; cases h
end Go.Proofs.YtnijcolomoobnaaGreatDoor
namespace Go.Proofs.YtnijcolomoobnaaGreatDoor
set_option linter.unusedVariables false
set_option linter.unusedSimpArgs false

theorem InOk.w {nc : Nat} {states : Int} {n : Nat} {f : Fu} {i : In} (h : InOk nc states n f i) : InW i := by
  obtain ⟨h1, h2, h3, h4⟩ := inOk_iff.1 h
  refine ⟨h1, h2, fun hp => ?_⟩
  unfold inLow at h3
  split at h3
  · rename_i c; simp at c; omega
  · exact h3
theorem vm_fuel {it : Int → List UInt8} {m : Md} (hw : ∀ f ∈ m.funcs, ∀ i ∈ f.code, InW i) : ∀ (g : Nat) {n p : Nat} {loc stk sts : List V} {fl : Int} {o : VOut}, 0 ≤ fl → vmRun it m g n p loc stk sts fl = some o → 0 ≤ o.fuel ∧ o.fuel ≤ fl ∧ (o.trap = 54 → o.fuel = 0)
  | 0, n, p, loc, stk, sts, fl, o, h0, h => by rw [vmRun] at h; cases h
  | g + 1, n, p, loc, stk, sts, fl, o, h0, h => by
    rw [vmRun] at h
    rcases hi : (m.funcs[n]?).bind (fun f => f.code[p]?) with _ | i
    · have hN : vmN it m n p loc stk sts fl = .bad := by unfold vmN; rw [hi]
      rw [hN] at h
      cases h
    have hiw : InW i := by
      obtain ⟨f, hf, hc⟩ := Option.bind_eq_some_iff.1 hi
      exact hw f (List.mem_of_getElem? hf) i (List.mem_of_getElem? hc)
    have hN : vmN it m n p loc stk sts fl = vmI it m i p loc (stk.take (stk.length - (popN m.funcs i).toNat)) (stk.drop (stk.length - (popN m.funcs i).toNat)) sts fl := by unfold vmN; rw [hi]
    rw [hN] at h
    rcases hx : vmI it m i p loc (stk.take (stk.length - (popN m.funcs i).toNat)) (stk.drop (stk.length - (popN m.funcs i).toNat)) sts fl with o' | ⟨p', loc', stk', sts', fl'⟩ | ⟨q, lk, s, fl'⟩ | _
    all_goals rw [hx] at h
    · have e : o' = o := Option.some.inj h
      subst e
      exact vmI_done h0 hx
    · obtain ⟨-, -, h1, h2, -⟩ := vmI_go hiw h0 hx
      obtain ⟨h3, h4, h5⟩ := vm_fuel hw g h2 h
      exact ⟨h3, by omega, h5⟩
    · obtain ⟨-, -, -, h1, h2, -⟩ := vmI_call hx
      have h' : (match vmRun it m g q 0 lk [] sts fl' with
        | none => none
        | some o => if o.trap ≠ 0 then some o else vmRun it m g n (p + 1) loc (s ++ [o.val]) o.sts o.fuel) = some o := h
      rcases ho : vmRun it m g q 0 lk [] sts fl' with _ | o'
      · rw [ho] at h'; cases h'
      rw [ho] at h'
      have h6 : (if o'.trap ≠ 0 then some o' else vmRun it m g n (p + 1) loc (s ++ [o'.val]) o'.sts o'.fuel) = some o := h'
      obtain ⟨h3, h4, h5⟩ := vm_fuel hw g h2 ho
      by_cases c : o'.trap ≠ 0
      · rw [if_pos c] at h6
        have e : o' = o := Option.some.inj h6
        subst e
        exact ⟨h3, by omega, h5⟩
      · rw [if_neg c] at h6
        obtain ⟨h7, h8, h9⟩ := vm_fuel hw g h3 h6
        exact ⟨h7, by omega, h9⟩
    · cases h
theorem vm_ends {it : Int → List UInt8} {m : Md} {states : Int} (hr : Run m states) : ∀ (n : Nat) (f : Fu), m.funcs[n]? = some f → ∀ (H : Nat → Option Int), Lab m.funcs f H → ∀ (F : Nat) (d p : Nat) (loc stk sts : List V) (fl : Int), 0 ≤ fl → fl.toNat ≤ F → f.code.length - p ≤ d → H p = some (stk.length : Int) → ∃ g o, vmRun it m g n p loc stk sts fl = some o := by
  have hw : ∀ f ∈ m.funcs, ∀ i ∈ f.code, InW i := fun f hf i hi => by
    obtain ⟨k, hk⟩ := List.mem_iff_getElem?.1 hf
    exact ((hr.fun_ k f hk).ins i hi).w
  intro n
  induction n using Nat.strongRecOn with
  | _ n ihn =>
  intro f hf H hH F
  have hfo := hr.fun_ n f hf
  induction F using Nat.strongRecOn with
  | _ F ihF =>
  intro d
  induction d using Nat.strongRecOn with
  | _ d ihd =>
  intro p loc stk sts fl h0 hF hd hp
  obtain ⟨i, hc, a1, a2, a3⟩ := hH.step p _ hp
  have hpl := (List.getElem?_eq_some_iff.1 hc).1
  have him := List.mem_of_getElem? hc
  have hiw := hw f (List.mem_of_getElem? hf) i him
  have hpop : 0 ≤ popN m.funcs i := by
    unfold popN
    split
    · omega
    split
    · omega
    split
    · omega
    split
    · rename_i h9
      have h := (hfo.ins i him).call (by simpa using h9)
      rcases hg : m.funcs[i.a.toNat]? with _ | f'
      · simp
      · have := (hr.fun_ _ f' hg).num
        unfold NumOk at this
        simpa using this.1
    · omega
  have hb : (m.funcs[n]?).bind (fun f => f.code[p]?) = some i := by rw [hf]; exact hc
  have hN : vmN it m n p loc stk sts fl = vmI it m i p loc (stk.take (stk.length - (popN m.funcs i).toNat)) (stk.drop (stk.length - (popN m.funcs i).toNat)) sts fl := by unfold vmN; rw [hb]
  have hsl : ((stk.take (stk.length - (popN m.funcs i).toNat)).length : Int) = stk.length - popN m.funcs i := by
    rw [List.length_take]
    omega
  rcases hx : vmN it m n p loc stk sts fl with o' | ⟨p', loc', stk', sts', fl'⟩ | ⟨q, lk, s, fl'⟩ | _
  · exact ⟨1, o', by rw [vmRun, hx]⟩
  · rw [hN] at hx
    obtain ⟨b1, b2, b3, b4, b5⟩ := vmI_go hiw h0 hx
    rw [← hN] at hx
    have hH' : H p' = some (stk'.length : Int) := by
      rw [a3 p' b1, b2, hsl]
      rfl
    have hrec : ∃ g o, vmRun it m g n p' loc' stk' sts' fl' = some o := by
      by_cases hle : p' ≤ p
      · have := b5 hle
        exact ihF (F - 1) (by omega) (f.code.length - p') p' loc' stk' sts' fl' b4 (by omega) (Nat.le_refl _) hH'
      · exact ihd (f.code.length - p') (by omega) p' loc' stk' sts' fl' b4 (by omega) (Nat.le_refl _) hH'
    obtain ⟨g, o, hg⟩ := hrec
    exact ⟨g + 1, o, by rw [vmRun, hx]; exact hg⟩
  · rw [hN] at hx
    obtain ⟨b1, b2, b3, b4, b5, f', b6, b7⟩ := vmI_call hx
    rw [← hN] at hx
    have hca := (hfo.ins i him).call b1
    obtain ⟨H', hH'⟩ := (hr.fun_ q f' b6).walk
    obtain ⟨g1, o1, hg1⟩ := ihn q (by omega) f' b6 H' hH' fl'.toNat f'.code.length 0 lk [] sts fl' b5 (Nat.le_refl _) (by omega) hH'.zero
    by_cases ht : o1.trap ≠ 0
    · exact ⟨g1 + 1, o1, by rw [vmRun, hx]; show (match vmRun it m g1 q 0 lk [] sts fl' with | none => none | some o => _) = _; rw [hg1]; show (if _ then _ else _) = _; rw [if_pos ht]⟩
    · obtain ⟨c1, c2, -⟩ := vm_fuel hw g1 b5 hg1
      have hnx : p + 1 ∈ nxt p i := by
        unfold nxt
        rw [if_neg (show ¬ (i.op = 7 ∨ i.op = 10) by omega)]
        simp
      have hps : psh i.op = 1 := by rw [b1]; simp [psh, pshB]
      have hH2 : H (p + 1) = some ((s ++ [o1.val]).length : Int) := by
        rw [a3 _ hnx, b3, List.length_append]
        unfold hgt
        rw [hps]
        simp only [List.length_singleton]
        congr 1
        omega
      obtain ⟨g2, o2, hg2⟩ := ihd (f.code.length - (p + 1)) (by omega) (p + 1) loc (s ++ [o1.val]) o1.sts o1.fuel c1 (by omega) (Nat.le_refl _) hH2
      refine ⟨max g1 g2 + 1, o2, ?_⟩
      rw [vmRun, hx]
      show (match vmRun it m (max g1 g2) q 0 lk [] sts fl' with | none => none | some o => _) = _
      rw [vm_le (Nat.le_max_left _ _) hg1]
      show (if _ then _ else _) = _
      rw [if_neg ht]
      exact vm_le (Nat.le_max_right _ _) hg2
  · rw [hN] at hx
    obtain ⟨b1, b2⟩ := vmI_bad hx
    have hca := (hfo.ins i him).call b1
    have hnl := (List.getElem?_eq_some_iff.1 hf).1
    have := List.getElem?_eq_none_iff.1 b2
    omega
end Go.Proofs.YtnijcolomoobnaaGreatDoor
