/- Texts of ours, joined: Vt, Vs, Kx, Km. -/
import Derived.Test.YtnijcolomoobnaaGreatDoorK00
import Derived.Lib.Small
import Derived.Lib.Strings
namespace Go.Proofs.YtnijcolomoobnaaGreatDoor
set_option linter.unusedVariables false
set_option linter.unusedSimpArgs false

def betw (s a c : List UInt8) : Option (List UInt8) := if (Lib.hasPrefix s a && Lib.hasSuffix (Lib.trimPrefix s a) c) = true then some (Lib.trimSuffix (Lib.trimPrefix s a) c) else none
theorem pre_iff (s a : List UInt8) : Lib.hasPrefix s a = true ↔ ∃ y, s = a ++ y := by
  rw [Lib.hasPrefix, List.isPrefixOf_iff_prefix]
  exact ⟨fun ⟨y, h⟩ => ⟨y, h.symm⟩, fun ⟨y, h⟩ => ⟨y, h.symm⟩⟩
theorem suf_iff (s a : List UInt8) : Lib.hasSuffix s a = true ↔ ∃ y, s = y ++ a := by
  rw [Lib.hasSuffix, List.isSuffixOf_iff_suffix]
  exact ⟨fun ⟨y, h⟩ => ⟨y, h.symm⟩, fun ⟨y, h⟩ => ⟨y, h.symm⟩⟩
theorem betw_iff (s a c y : List UInt8) : betw s a c = some y ↔ s = a ++ y ++ c := by
  unfold betw
  constructor
  · intro h
    split at h
    · rename_i h1
      simp only [Bool.and_eq_true] at h1
      obtain ⟨z, rfl⟩ := (pre_iff s a).1 h1.1
      have e : Lib.trimPrefix (a ++ z) a = z := by simp [Lib.trimPrefix, h1.1]
      rw [e] at h h1
      obtain ⟨z2, rfl⟩ := (suf_iff z c).1 h1.2
      simp [Lib.trimSuffix, h1.2] at h
      subst h
      simp
    · cases h
  · rintro rfl
    have h1 : Lib.hasPrefix (a ++ y ++ c) a = true := (pre_iff _ _).2 ⟨y ++ c, by simp⟩
    have e : Lib.trimPrefix (a ++ y ++ c) a = y ++ c := by rw [Lib.trimPrefix, if_pos h1]; simp
    have h2 : Lib.hasSuffix (y ++ c) c = true := (suf_iff _ _).2 ⟨y, rfl⟩
    rw [e, h1, h2]
    simp [Lib.trimSuffix, h2]
def elemT (s : List UInt8) : Option (List UInt8) :=
  match betw s [91] [93] with
  | some y => some y
  | none => match betw s [123, 105, 110, 116, 58] [125] with
    | some y => some y
    | none => betw s [123, 116, 101, 120, 116, 58] [125]
theorem betw_none (s a c : List UInt8) (h : ∀ y, s ≠ a ++ y ++ c) : betw s a c = none := by
  rcases hb : betw s a c with _ | y
  · rfl
  · exact absurd ((betw_iff s a c y).1 hb) (h y)

inductive Ty where
  | int | bool | text
  | list (t : Ty)
  | map (k : Bool) (t : Ty)
  deriving DecidableEq
def keyT (k : Bool) : List UInt8 := if k then [105, 110, 116] else [116, 101, 120, 116]
def tyT : Ty → List UInt8
  | .int => [105, 110, 116]
  | .bool => [98, 111, 111, 108]
  | .text => [116, 101, 120, 116]
  | .list t => [91] ++ tyT t ++ [93]
  | .map k t => [123] ++ keyT k ++ [58] ++ tyT t ++ [125]
def Ty.dp : Ty → Nat
  | .int => 1 | .bool => 1 | .text => 1
  | .list t => t.dp + 1
  | .map _ t => t.dp + 1
def rdTy : Nat → List UInt8 → Option Ty
  | 0, _ => none
  | f + 1, s => if s = [105, 110, 116] then some .int else if s = [98, 111, 111, 108] then some .bool else if s = [116, 101, 120, 116] then some .text else
    match betw s [91] [93] with
    | some y => (rdTy f y).map .list
    | none => match betw s [123, 105, 110, 116, 58] [125] with
      | some y => (rdTy f y).map (.map true)
      | none => match betw s [123, 116, 101, 120, 116, 58] [125] with
        | some y => (rdTy f y).map (.map false)
        | none => none
def tyOf (s : List UInt8) : Option Ty := rdTy 4 s
def tyF : Nat → List UInt8 → Bool
  | 0, _ => false
  | f + 1, s => if s = [105, 110, 116] ∨ s = [98, 111, 111, 108] ∨ s = [116, 101, 120, 116] then true else match elemT s with
    | some y => tyF f y
    | none => false
theorem tyF_rd : ∀ (f : Nat) (s : List UInt8), tyF f s = (rdTy f s).isSome
  | 0, s => rfl
  | f + 1, s => by
    rw [tyF, rdTy]
    by_cases h1 : s = [105, 110, 116]
    · rw [if_pos (Or.inl h1), if_pos h1]; rfl
    by_cases h2 : s = [98, 111, 111, 108]
    · rw [if_pos (Or.inr (Or.inl h2)), if_neg h1, if_pos h2]; rfl
    by_cases h3 : s = [116, 101, 120, 116]
    · rw [if_pos (Or.inr (Or.inr h3)), if_neg h1, if_neg h2, if_pos h3]; rfl
    rw [if_neg (by rintro (h | h | h) <;> contradiction), if_neg h1, if_neg h2, if_neg h3]
    unfold elemT
    rcases betw s [91] [93] with _ | y
    · rcases betw s [123, 105, 110, 116, 58] [125] with _ | y
      · rcases betw s [123, 116, 101, 120, 116, 58] [125] with _ | y
        · rfl
        · simp [tyF_rd f y]
      · simp [tyF_rd f y]
    · simp [tyF_rd f y]
def gType (s : List UInt8) : Bool := (tyOf s).isSome
theorem gType_tyF (s : List UInt8) : gType s = tyF 4 s := (tyF_rd 4 s).symm
theorem rdTy_of : ∀ (f : Nat) (s : List UInt8) (T : Ty), rdTy f s = some T → tyT T = s ∧ T.dp ≤ f
  | 0, s, T, h => by simp [rdTy] at h
  | f + 1, s, T, h => by
    rw [rdTy] at h
    by_cases h1 : s = [105, 110, 116]
    · rw [if_pos h1] at h; cases h; subst h1; exact ⟨rfl, by simp [Ty.dp]⟩
    rw [if_neg h1] at h
    by_cases h2 : s = [98, 111, 111, 108]
    · rw [if_pos h2] at h; cases h; subst h2; exact ⟨rfl, by simp [Ty.dp]⟩
    rw [if_neg h2] at h
    by_cases h3 : s = [116, 101, 120, 116]
    · rw [if_pos h3] at h; cases h; subst h3; exact ⟨rfl, by simp [Ty.dp]⟩
    rw [if_neg h3] at h
    rcases e1 : betw s [91] [93] with _ | y
    · rw [e1] at h
      rcases e2 : betw s [123, 105, 110, 116, 58] [125] with _ | y
      · rw [e2] at h
        rcases e3 : betw s [123, 116, 101, 120, 116, 58] [125] with _ | y
        · rw [e3] at h; simp at h
        · rw [e3] at h
          simp only [Option.map_eq_some_iff] at h
          obtain ⟨T', h, rfl⟩ := h
          obtain ⟨g1, g2⟩ := rdTy_of f y T' h
          have := (betw_iff _ _ _ _).1 e3
          exact ⟨by rw [this]; simp [tyT, keyT, g1], by simp [Ty.dp]; omega⟩
      · rw [e2] at h
        simp only [Option.map_eq_some_iff] at h
        obtain ⟨T', h, rfl⟩ := h
        obtain ⟨g1, g2⟩ := rdTy_of f y T' h
        have := (betw_iff _ _ _ _).1 e2
        exact ⟨by rw [this]; simp [tyT, keyT, g1], by simp [Ty.dp]; omega⟩
    · rw [e1] at h
      simp only [Option.map_eq_some_iff] at h
      obtain ⟨T', h, rfl⟩ := h
      obtain ⟨g1, g2⟩ := rdTy_of f y T' h
      have := (betw_iff _ _ _ _).1 e1
      exact ⟨by rw [this]; simp [tyT, g1], by simp [Ty.dp]; omega⟩
theorem rdTy_ty : ∀ (T : Ty) (f : Nat), T.dp ≤ f → rdTy f (tyT T) = some T
  | .int, f + 1, h => by simp [rdTy, tyT]
  | .bool, f + 1, h => by simp [rdTy, tyT]
  | .text, f + 1, h => by simp [rdTy, tyT]
  | .list t, f + 1, h => by
    have ih := rdTy_ty t f (by simp [Ty.dp] at h; omega)
    rw [rdTy, tyT, if_neg (by simp), if_neg (by simp), if_neg (by simp), (betw_iff _ _ _ (tyT t)).2 rfl]
    simp [ih]
  | .map true t, f + 1, h => by
    have ih := rdTy_ty t f (by simp [Ty.dp] at h; omega)
    rw [rdTy, tyT, if_neg (by simp), if_neg (by simp), if_neg (by simp), betw_none _ _ _ (fun z => by simp), (betw_iff _ _ _ (tyT t)).2 (by simp [keyT])]
    simp [ih]
  | .map false t, f + 1, h => by
    have ih := rdTy_ty t f (by simp [Ty.dp] at h; omega)
    rw [rdTy, tyT, if_neg (by simp), if_neg (by simp), if_neg (by simp), betw_none _ _ _ (fun z => by simp), betw_none _ _ _ (fun z => by simp [keyT]), (betw_iff _ _ _ (tyT t)).2 (by simp [keyT])]
    simp [ih]
theorem tyOf_iff (s : List UInt8) (T : Ty) : tyOf s = some T ↔ tyT T = s ∧ T.dp ≤ 4 :=
  ⟨rdTy_of 4 s T, fun ⟨h1, h2⟩ => by rw [← h1]; exact rdTy_ty T 4 h2⟩
theorem tyOf_ty {T : Ty} (h : T.dp ≤ 4) : tyOf (tyT T) = some T := (tyOf_iff _ _).2 ⟨rfl, h⟩
theorem tyT_len : ∀ T : Ty, 3 ≤ (tyT T).length ∧ (tyT T).length ≤ 7 * T.dp
  | .int => by simp [tyT, Ty.dp] | .bool => by simp [tyT, Ty.dp] | .text => by simp [tyT, Ty.dp]
  | .list t => by have := tyT_len t; simp [tyT, Ty.dp]; omega
  | .map k t => by have := tyT_len t; cases k <;> (simp [tyT, Ty.dp, keyT]; omega)
end Go.Proofs.YtnijcolomoobnaaGreatDoor
namespace Go.Proofs.YtnijcolomoobnaaGreatDoor
set_option linter.unusedVariables false
set_option linter.unusedSimpArgs false

def kd : Ty → Int
  | .int => 1 | .bool => 2 | .text => 3 | .list _ => 4 | .map _ _ => 5
def kdOf (s : List UInt8) : Int := match tyOf s with
  | none => 0
  | some T => kd T
def elT (s : List UInt8) : List UInt8 × Bool := match tyOf s with
  | some (.list T) => (tyT T, true)
  | _ => ([], false)
def mpT (s : List UInt8) : List UInt8 × List UInt8 × Bool := match tyOf s with
  | some (.map k T) => (keyT k, tyT T, true)
  | _ => ([], [], false)
def keyTy (k : Bool) : Ty := if k then .int else .text
theorem keyTy_T (k : Bool) : tyT (keyTy k) = keyT k := by cases k <;> rfl
theorem keyTy_dp (k : Bool) : (keyTy k).dp = 1 := by cases k <;> rfl
def bareB (v : V) : Bool := ((v.k == 1 || v.k == 2) || v.n == 0) && ((v.k == 3) || v.t == []) && ((v.k == 4 || v.k == 5) || v.l.length == 0)
def KeyS : Bool → V → Prop
  | true, v => v.k = 1 ∧ v.t = [] ∧ v.l = []
  | false, v => v.k = 3 ∧ v.n = 0 ∧ v.l = [] ∧ v.t.length ≤ 256
def Shp : Ty → V → Prop
  | .int, v => v.k = 1 ∧ v.t = [] ∧ v.l = []
  | .bool, v => v.k = 2 ∧ v.t = [] ∧ v.l = [] ∧ (v.n = 0 ∨ v.n = 1)
  | .text, v => v.k = 3 ∧ v.n = 0 ∧ v.l = [] ∧ v.t.length ≤ 256
  | .list T, v => v.k = 4 ∧ v.n = 0 ∧ v.t = [] ∧ v.l.length ≤ 64 ∧ ∀ x ∈ v.l, Shp T x
  | .map k T, v => v.k = 5 ∧ v.n = 0 ∧ v.t = [] ∧ v.l.length % 2 = 0 ∧ v.l.length ≤ 128 ∧
      (∀ i x, v.l[2 * i]? = some x → KeyS k x) ∧ (∀ i x, v.l[2 * i + 1]? = some x → Shp T x) ∧ (∀ i x y, v.l[2 * i]? = some x → v.l[2 * i + 2]? = some y → cmpV x y < 0)
theorem keyS_shp (k : Bool) (v : V) : KeyS k v ↔ Shp (keyTy k) v := by
  cases k
  · show _ ↔ Shp .text v
    rw [Shp, KeyS]
  · show _ ↔ Shp .int v
    rw [Shp, KeyS]
noncomputable def shpB (T : Ty) (v : V) : Bool := @decide (Shp T v) (Classical.propDecidable _)
theorem shpB_iff {T : Ty} {v : V} : shpB T v = true ↔ Shp T v := by unfold shpB; simp
theorem shpB_false {T : Ty} {v : V} : shpB T v = false ↔ ¬ Shp T v := by unfold shpB; simp
noncomputable def shpS (s : List UInt8) (v : V) : Bool := match tyOf s with
  | none => false
  | some T => shpB T v
noncomputable def fitS (s : List UInt8) (v : V) : Bool := shpS s v && decide (wt v ≤ 16384)
theorem Shp.kind : ∀ {T : Ty} {v : V}, Shp T v → v.k = kd T
  | .int, v, h => by rw [Shp] at h; exact h.1
  | .bool, v, h => by rw [Shp] at h; exact h.1
  | .text, v, h => by rw [Shp] at h; exact h.1
  | .list T, v, h => by rw [Shp] at h; exact h.1
  | .map k T, v, h => by rw [Shp] at h; exact h.1
theorem Shp.bare : ∀ {T : Ty} {v : V}, Shp T v → bareB v = true
  | .int, v, h => by rw [Shp] at h; simp [bareB, h]
  | .bool, v, h => by rw [Shp] at h; simp [bareB, h.1, h.2.1, h.2.2.1]
  | .text, v, h => by rw [Shp] at h; simp [bareB, h.1, h.2.1, h.2.2.1]
  | .list T, v, h => by rw [Shp] at h; simp [bareB, h.1, h.2.1, h.2.2.1]
  | .map k T, v, h => by rw [Shp] at h; simp [bareB, h.1, h.2.1, h.2.2.1]
theorem shp_int {v : V} (h1 : v.k = 1) (h2 : bareB v = true) : Shp .int v := by
  rw [Shp]; simp [bareB, h1] at h2; exact ⟨h1, h2.1, h2.2⟩
theorem shp_bool {v : V} (h1 : v.k = 2) (h2 : bareB v = true) : Shp .bool v ↔ (v.n = 0 ∨ v.n = 1) := by
  rw [Shp]; simp [bareB, h1] at h2; exact ⟨fun h => h.2.2.2, fun h => ⟨h1, h2.1, h2.2, h⟩⟩
theorem shp_text {v : V} (h1 : v.k = 3) (h2 : bareB v = true) : Shp .text v ↔ v.t.length ≤ 256 := by
  rw [Shp]; simp [bareB, h1] at h2; exact ⟨fun h => h.2.2.2, fun h => ⟨h1, h2.1, h2.2, h⟩⟩
theorem shp_list {T : Ty} {v : V} (h1 : v.k = 4) (h2 : bareB v = true) : Shp (.list T) v ↔ v.l.length ≤ 64 ∧ ∀ x ∈ v.l, Shp T x := by
  rw [Shp]; simp [bareB, h1] at h2; exact ⟨fun h => h.2.2.2, fun h => ⟨h1, h2.1, h2.2, h⟩⟩
theorem shp_map {k : Bool} {T : Ty} {v : V} (h1 : v.k = 5) (h2 : bareB v = true) : Shp (.map k T) v ↔ v.l.length % 2 = 0 ∧ v.l.length ≤ 128 ∧
      (∀ i x, v.l[2 * i]? = some x → KeyS k x) ∧ (∀ i x, v.l[2 * i + 1]? = some x → Shp T x) ∧ (∀ i x y, v.l[2 * i]? = some x → v.l[2 * i + 2]? = some y → cmpV x y < 0) := by
  rw [Shp]; simp [bareB, h1] at h2; exact ⟨fun h => h.2.2.2, fun h => ⟨h1, h2.1, h2.2, h⟩⟩
theorem shpS_ty {T : Ty} (h : T.dp ≤ 4) (v : V) : shpS (tyT T) v = shpB T v := by unfold shpS; rw [tyOf_ty h]
end Go.Proofs.YtnijcolomoobnaaGreatDoor
namespace Go.Proofs.YtnijcolomoobnaaGreatDoor
set_option linter.unusedVariables false
set_option linter.unusedSimpArgs false

structure In where
  op : Int
  a : Int
structure Fu where
  params : Int
  locals : Int
  zero : Int
  stack : Int
  code : List In
structure Md where
  consts : List V
  funcs : List Fu
def Md.no : Md := ⟨[], []⟩
def pshB (op : Int) : Bool := op == 1 || op == 2 || op == 4 || op == 9 || op == 12 || op == 13 || op == 14 || op == 15 || op == 16 || op == 17 || op == 18 || op == 19 || op == 20 || op == 21
def psh (op : Int) : Int := if pshB op then 1 else 0
def pop1 (op : Int) : Bool := op == 3 || op == 5 || op == 6 || op == 8 || op == 10 || op == 13 || op == 14 || op == 15 || op == 16
def pop2 (op : Int) : Bool := op == 12 || op == 17 || op == 18 || op == 19 || op == 21
def popN (fs : List Fu) (i : In) : Int := if pop1 i.op then 1 else if pop2 i.op then 2 else if i.op == 20 then 3 else if i.op == 9 then ((fs[i.a.toNat]?).map Fu.params).getD 0 else 0
def hgt (fs : List Fu) (i : In) (x : Int) : Int := x - popN fs i + psh i.op
def nxt (p : Nat) (i : In) : List Nat := (if i.op = 7 ∨ i.op = 8 then [i.a.toNat] else []) ++ (if i.op = 7 ∨ i.op = 10 then [] else [p + 1])
structure Lab (fs : List Fu) (f : Fu) (H : Nat → Option Int) : Prop where
  zero : H 0 = some 0
  step : ∀ p x, H p = some x → ∃ i, f.code[p]? = some i ∧ 0 ≤ x - popN fs i ∧ hgt fs i x ≤ f.stack ∧ ∀ q ∈ nxt p i, H q = some (hgt fs i x)
def WalkOk (fs : List Fu) (f : Fu) : Prop := ∃ H, Lab fs f H
def inLow (op : Int) : Int := if op == 12 then 3 else 0
def inTop (nc : Nat) (states : Int) (n : Nat) (f : Fu) (op : Int) : Int :=
  if op == 1 then nc else if op == 2 || op == 3 then f.locals else if op == 4 || op == 5 then states else if op == 7 || op == 8 then f.code.length
  else if op == 9 then n else if op == 11 then 1099511627777 else if op == 12 then 14 else 1
def inB (nc : Nat) (states : Int) (n : Nat) (f : Fu) (i : In) : Bool := decide (1 ≤ i.op) && decide (i.op ≤ 21) && decide (inLow i.op ≤ i.a) && decide (i.a < inTop nc states n f i.op)
def InOk (nc : Nat) (states : Int) (n : Nat) (f : Fu) (i : In) : Prop := inB nc states n f i = true
theorem inOk_iff {nc : Nat} {states : Int} {n : Nat} {f : Fu} {i : In} : InOk nc states n f i ↔ 1 ≤ i.op ∧ i.op ≤ 21 ∧ inLow i.op ≤ i.a ∧ i.a < inTop nc states n f i.op := by
  unfold InOk inB
  simp [and_assoc]
def NumOk (nc : Nat) (f : Fu) : Prop := 0 ≤ f.params ∧ f.params ≤ 8 ∧ f.params ≤ f.locals ∧ f.locals ≤ 256 ∧ 0 ≤ f.zero ∧ f.zero < nc ∧ 1 ≤ f.stack ∧ f.stack ≤ 256 ∧ 1 ≤ f.code.length ∧ f.code.length ≤ 16384
structure FuOk (nc : Nat) (states : Int) (fs : List Fu) (n : Nat) (f : Fu) : Prop where
  num : NumOk nc f
  ins : ∀ i ∈ f.code, InOk nc states n f i
  walk : WalkOk fs f
def tys : List (List UInt8) := [[105, 110, 116], [98, 111, 111, 108], [116, 101, 120, 116], [91, 105, 110, 116, 93], [123, 105, 110, 116, 58, 105, 110, 116, 125]]
noncomputable def ctype (v : V) : List UInt8 := if v.l = [] then (tys.find? fun t => fitS t v).getD [] else []
structure Run (m : Md) (states : Int) : Prop where
  st : 0 ≤ states ∧ states ≤ 32
  few : m.funcs.length ≤ 32 ∧ m.consts.length ≤ 16384
  con : ∀ v ∈ m.consts, ctype v ≠ []
  fun_ : ∀ n f, m.funcs[n]? = some f → FuOk m.consts.length states m.funcs n f
open Classical in
noncomputable def vfy (m : Md) (states : Int) : Int := if Run m states then 0 else 40
theorem vfy_ok {m : Md} {states : Int} (h : Run m states) : vfy m states = 0 := by unfold vfy; rw [if_pos h]
theorem vfy_no {m : Md} {states : Int} (h : ¬ Run m states) : vfy m states = 40 := by unfold vfy; rw [if_neg h]
/-! What grows. -/
theorem popN_pre {fs gs : List Fu} {i : In} {n : Nat} (hn : n ≤ fs.length) (hi : i.op = 9 → 0 ≤ i.a ∧ i.a < n) (hg : ∀ k, k < n → gs[k]? = fs[k]?) : popN gs i = popN fs i := by
  unfold popN
  split
  · rfl
  split
  · rfl
  split
  · rfl
  split
  · rename_i h
    have := hi (by simpa using h)
    rw [hg i.a.toNat (by omega)]
  · rfl
theorem WalkOk.funs {fs gs : List Fu} {f : Fu} {n : Nat} (hn : n ≤ fs.length) (hi : ∀ i ∈ f.code, i.op = 9 → 0 ≤ i.a ∧ i.a < n) (hg : ∀ k, k < n → gs[k]? = fs[k]?) (h : WalkOk fs f) : WalkOk gs f := by
  obtain ⟨H, h0, h1⟩ := h
  refine ⟨H, h0, fun p x hp => ?_⟩
  obtain ⟨i, hc, a1, a2, a3⟩ := h1 p x hp
  have e : popN gs i = popN fs i := popN_pre hn (hi i (List.mem_of_getElem? hc)) hg
  refine ⟨i, hc, by rw [e]; exact a1, ?_, fun q hq => ?_⟩
  · show x - popN gs i + psh i.op ≤ _
    rw [e]; exact a2
  · show H q = some (x - popN gs i + psh i.op)
    rw [e]; exact a3 q hq
theorem WalkOk.push {fs : List Fu} {f : Fu} (i : In) (h : WalkOk fs f) : WalkOk fs { f with code := f.code ++ [i] } := by
  obtain ⟨H, h0, h1⟩ := h
  refine ⟨H, h0, fun p x hp => ?_⟩
  obtain ⟨j, hc, a1, a2, a3⟩ := h1 p x hp
  exact ⟨j, by show (f.code ++ [i])[p]? = _; rw [List.getElem?_append_left (List.getElem?_eq_some_iff.1 hc).1]; exact hc, a1, a2, a3⟩
theorem inTop_mono {nc nc' : Nat} {st st' : Int} {n : Nat} {f g : Fu} (h1 : nc ≤ nc') (h2 : st ≤ st') (h3 : f.locals = g.locals) (h4 : f.code.length ≤ g.code.length) (op : Int) : inTop nc st n f op ≤ inTop nc' st' n g op := by
  unfold inTop
  repeat' split
  all_goals omega
theorem InOk.mono {nc nc' : Nat} {st st' : Int} {n : Nat} {f g : Fu} {i : In} (h : InOk nc st n f i) (h1 : nc ≤ nc') (h2 : st ≤ st') (h3 : f.locals = g.locals) (h4 : f.code.length ≤ g.code.length) : InOk nc' st' n g i := by
  obtain ⟨a, b, c, d⟩ := inOk_iff.1 h
  exact inOk_iff.2 ⟨a, b, c, Int.lt_of_lt_of_le d (inTop_mono h1 h2 h3 h4 i.op)⟩
theorem InOk.call {nc : Nat} {st : Int} {n : Nat} {f : Fu} {i : In} (h : InOk nc st n f i) (h9 : i.op = 9) : 0 ≤ i.a ∧ i.a < n := by
  obtain ⟨a, b, c, d⟩ := inOk_iff.1 h
  unfold inLow at c
  unfold inTop at d
  rw [h9] at c d
  simp at c d
  omega
theorem NumOk.mono {nc nc' : Nat} {f : Fu} (h : NumOk nc f) (h1 : nc ≤ nc') : NumOk nc' f := by
  unfold NumOk at *
  omega
theorem FuOk.mono {nc nc' : Nat} {st st' : Int} {fs : List Fu} {n : Nat} {f : Fu} (h : FuOk nc st fs n f) (h1 : nc ≤ nc') (h2 : st ≤ st') : FuOk nc' st' fs n f :=
  ⟨h.num.mono h1, fun i hi => (h.ins i hi).mono h1 h2 rfl (Nat.le_refl _), h.walk⟩
theorem Run.states {m : Md} {st st' : Int} (h : Run m st) (h1 : st ≤ st') (h2 : st' ≤ 32) : Run m st' :=
  ⟨⟨by have := h.st; omega, h2⟩, h.few, h.con, fun n f hf => (h.fun_ n f hf).mono (Nat.le_refl _) h1⟩
theorem Run.less {m : Md} {st : Int} {fs : List Fu} {f : Fu} (h : Run m st) (hm : m.funcs = fs ++ [f]) : Run ⟨m.consts, fs⟩ st := by
  have hl : m.funcs.length = fs.length + 1 := by rw [hm]; simp
  refine ⟨h.st, ⟨by have := h.few.1; show fs.length ≤ 32; omega, h.few.2⟩, h.con, fun n g hg => ?_⟩
  have hg' : fs[n]? = some g := hg
  have hn := (List.getElem?_eq_some_iff.1 hg').1
  have h1 := h.fun_ n g (by rw [hm, List.getElem?_append_left hn]; exact hg')
  refine ⟨h1.num, h1.ins, ?_⟩
  exact h1.walk.funs (n := n) (by omega) (fun i hi h9 => (h1.ins i hi).call h9) (fun k hk => by show fs[k]? = _; rw [hm, List.getElem?_append_left (by omega)])
theorem Run.pop {m : Md} {st : Int} {fs : List Fu} {f : Fu} (h : Run m st) (hm : m.funcs = fs ++ [f]) (hl : f.code.length + 1 ≤ 16384) : Run ⟨m.consts, fs ++ [{ f with code := f.code ++ [⟨6, 0⟩] }]⟩ st := by
  have hln : m.funcs.length = fs.length + 1 := by rw [hm]; simp
  refine ⟨h.st, ⟨by have := h.few.1; show (fs ++ [_]).length ≤ 32; simp; omega, h.few.2⟩, h.con, fun n g hg => ?_⟩
  have hg' : (fs ++ [{ f with code := f.code ++ [⟨6, 0⟩] }])[n]? = some g := hg
  have hpre : ∀ k, k < fs.length → (fs ++ [{ f with code := f.code ++ [⟨6, 0⟩] }])[k]? = m.funcs[k]? := fun k hk => by rw [hm, List.getElem?_append_left hk, List.getElem?_append_left hk]
  by_cases hn : n < fs.length
  · have h1 := h.fun_ n g (by rw [← hpre n hn]; exact hg')
    exact ⟨h1.num, h1.ins, h1.walk.funs (n := n) (by omega) (fun i hi h9 => (h1.ins i hi).call h9) (fun k hk => hpre k (by omega))⟩
  · rw [List.getElem?_append_right (by omega)] at hg'
    have hn0 : n = fs.length := by
      have := (List.getElem?_eq_some_iff.1 hg').1
      simp at this; omega
    subst hn0
    simp at hg'
    subst hg'
    have h1 := h.fun_ fs.length f (by rw [hm]; simp)
    refine ⟨?_, fun i hi => ?_, ?_⟩
    · have := h1.num
      unfold NumOk at *
      simp
      omega
    · rcases List.mem_append.1 hi with hi | hi
      · exact (h1.ins i hi).mono (Nat.le_refl _) (Int.le_refl _) rfl (by simp)
      · simp at hi; subst hi
        rw [inOk_iff]
        simp [inLow, inTop]
    · exact (h1.walk.funs (n := fs.length) (by omega) (fun i hi h9 => (h1.ins i hi).call h9) (fun k hk => hpre k hk)).push _
end Go.Proofs.YtnijcolomoobnaaGreatDoor
namespace Go.Proofs.YtnijcolomoobnaaGreatDoor
open Go.RowKit
set_option linter.unusedVariables false
set_option linter.unusedSimpArgs false

def inCells (i : In) : List Value := [.int .i64 i.op, .int .i64 i.a]
structure IsIs (B : Nat → Prop) (w : World) (l : List In) (sl : Value) : Prop where
  row : SlRow B w 2 sl l.length (l.flatMap inCells)
  rng : ∀ i ∈ l, InR i.op ∧ InR i.a
structure IsFn (B : Nat → Prop) (w : World) (f : Fu) (sl : Value) : Prop where
  p : InR f.params
  l : InR f.locals
  z : InR f.zero
  s : InR f.stack
  code : IsIs B w f.code sl
def IsFu (B : Nat → Prop) (w : World) (f : Fu) (cs : List Value) : Prop := ∃ ao cap, cs = [.int .i64 f.params, .int .i64 f.locals, .int .i64 f.zero, .int .i64 f.stack, .slice ao f.code.length cap] ∧ IsFn B w f (.slice ao f.code.length cap)
def AllFu (B : Nat → Prop) (w : World) : List Fu → List Value → Prop
  | [], cs => cs = []
  | e :: r, cs => ∃ c1 c2, cs = c1 ++ c2 ∧ IsFu B w e c1 ∧ AllFu B w r c2
def IsFus (B : Nat → Prop) (w : World) (l : List Fu) (sl : Value) : Prop := ∃ row, SlRow B w 5 sl l.length row ∧ AllFu B w l row
structure IsMd (B : Nat → Prop) (w : World) (m : Md) (cs fs : Value) : Prop where
  con : IsVs B w m.consts cs
  fun_ : IsFus B w m.funcs fs
theorem IsIs.since {B : Nat → Prop} {w w' : World} {l : List In} {sl : Value} (h : IsIs B w l sl) (s : Since B w w') : IsIs B w' l sl := ⟨h.row.since s, h.rng⟩
theorem IsIs.base {B B' : Nat → Prop} {w : World} {l : List In} {sl : Value} (h : IsIs B w l sl) (hb : ∀ k, B k → k < w.heap.size → B' k) : IsIs B' w l sl := ⟨h.row.base hb, h.rng⟩
theorem IsFn.since {B : Nat → Prop} {w w' : World} {f : Fu} {sl : Value} (h : IsFn B w f sl) (s : Since B w w') : IsFn B w' f sl := ⟨h.p, h.l, h.z, h.s, h.code.since s⟩
theorem IsFn.below {B : Nat → Prop} {w w' : World} {f : Fu} {sl : Value} (h : IsFn B w f sl) (s : Below w.heap.size w w') : IsFn B w' f sl := h.since (Since.of_below s)
theorem IsFn.base {B B' : Nat → Prop} {w : World} {f : Fu} {sl : Value} (h : IsFn B w f sl) (hb : ∀ k, B k → k < w.heap.size → B' k) : IsFn B' w f sl := ⟨h.p, h.l, h.z, h.s, h.code.base hb⟩
theorem IsFu.since {B : Nat → Prop} {w w' : World} {f : Fu} {cs : List Value} (h : IsFu B w f cs) (s : Since B w w') : IsFu B w' f cs := by
  obtain ⟨ao, cap, h1, h2⟩ := h
  exact ⟨ao, cap, h1, h2.since s⟩
theorem IsFu.base {B B' : Nat → Prop} {w : World} {f : Fu} {cs : List Value} (h : IsFu B w f cs) (hb : ∀ k, B k → k < w.heap.size → B' k) : IsFu B' w f cs := by
  obtain ⟨ao, cap, h1, h2⟩ := h
  exact ⟨ao, cap, h1, h2.base hb⟩
theorem AllFu.since {B : Nat → Prop} {w w' : World} (s : Since B w w') : ∀ {l : List Fu} {cs : List Value}, AllFu B w l cs → AllFu B w' l cs
  | [], cs, h => by rw [AllFu] at h ⊢; exact h
  | e :: r, cs, h => by
    rw [AllFu] at h ⊢
    obtain ⟨c1, c2, hc, h1, h2⟩ := h
    exact ⟨c1, c2, hc, h1.since s, AllFu.since s h2⟩
theorem AllFu.base {B B' : Nat → Prop} {w : World} (hb : ∀ k, B k → k < w.heap.size → B' k) : ∀ {l : List Fu} {cs : List Value}, AllFu B w l cs → AllFu B' w l cs
  | [], cs, h => by rw [AllFu] at h ⊢; exact h
  | e :: r, cs, h => by
    rw [AllFu] at h ⊢
    obtain ⟨c1, c2, hc, h1, h2⟩ := h
    exact ⟨c1, c2, hc, h1.base hb, AllFu.base hb h2⟩
theorem IsFus.since {B : Nat → Prop} {w w' : World} {l : List Fu} {sl : Value} (h : IsFus B w l sl) (s : Since B w w') : IsFus B w' l sl := by
  obtain ⟨row, h1, h2⟩ := h
  exact ⟨row, h1.since s, h2.since s⟩
theorem IsFus.base {B B' : Nat → Prop} {w : World} {l : List Fu} {sl : Value} (h : IsFus B w l sl) (hb : ∀ k, B k → k < w.heap.size → B' k) : IsFus B' w l sl := by
  obtain ⟨row, h1, h2⟩ := h
  exact ⟨row, h1.base hb, h2.base hb⟩
theorem IsMd.since {B : Nat → Prop} {w w' : World} {m : Md} {cs fs : Value} (h : IsMd B w m cs fs) (s : Since B w w') : IsMd B w' m cs fs := ⟨h.con.since s, h.fun_.since s⟩
theorem IsMd.below {B : Nat → Prop} {w w' : World} {m : Md} {cs fs : Value} (h : IsMd B w m cs fs) (s : Below w.heap.size w w') : IsMd B w' m cs fs := h.since (Since.of_below s)
theorem IsMd.base {B B' : Nat → Prop} {w : World} {m : Md} {cs fs : Value} (h : IsMd B w m cs fs) (hb : ∀ k, B k → k < w.heap.size → B' k) : IsMd B' w m cs fs := ⟨h.con.base hb, h.fun_.base hb⟩
theorem IsFu.len {B : Nat → Prop} {w : World} {e : Fu} {cs : List Value} (h : IsFu B w e cs) : cs.length = 5 := by
  obtain ⟨ao, cap, rfl, _⟩ := h; rfl
theorem AllFu.get {B : Nat → Prop} {w : World} : ∀ {l : List Fu} {row : List Value} {i : Nat} {e : Fu}, AllFu B w l row → l[i]? = some e → ∃ cs, IsFu B w e cs ∧ ∀ j, j < 5 → row[i * 5 + j]? = cs[j]?
  | [], row, i, e, h, hi => by simp at hi
  | a :: r, row, 0, e, h, hi => by
    rw [AllFu] at h
    obtain ⟨c1, c2, hc, h1, h2⟩ := h
    simp at hi; subst hi
    exact ⟨c1, h1, fun j hj => by rw [hc, List.getElem?_append_left (by have := h1.len; omega)]; simp⟩
  | a :: r, row, i + 1, e, h, hi => by
    rw [AllFu] at h
    obtain ⟨c1, c2, hc, h1, h2⟩ := h
    obtain ⟨cs, k1, k2⟩ := AllFu.get h2 (by simpa using hi)
    refine ⟨cs, k1, fun j hj => ?_⟩
    have := h1.len
    rw [hc, List.getElem?_append_right (by omega), ← k2 j hj]
    congr 1
    omega
theorem SlRow.val5 {B : Nat → Prop} {w : World} {sz : Nat} {v : Value} {n : Nat} {row : List Value} (h : SlRow B w sz v n row) : ∃ ao cap, v = .slice ao n cap ∧ n ≤ cap ∧ cap ≤ 9223372036854775807 := by
  rcases h.2 with ⟨h1, rfl⟩ | ⟨g, o, cap, rfl, h1, h2, _⟩
  · rcases h1 with rfl | ⟨a, cap, rfl, hc⟩
    · exact ⟨none, 0, rfl, Nat.le_refl _, by omega⟩
    · exact ⟨some a, cap, rfl, Nat.zero_le _, by unfold maxLen at hc; omega⟩
  · exact ⟨_, cap, rfl, h1, by unfold maxLen at h2; omega⟩
theorem inRow_get : ∀ {l : List In} {i : Nat} {s : In}, l[i]? = some s → (l.flatMap inCells)[i * 2]? = some (.int .i64 s.op) ∧ (l.flatMap inCells)[i * 2 + 1]? = some (.int .i64 s.a)
  | [], i, s, h => by simp at h
  | a :: r, 0, s, h => by simp at h; subst h; simp [inCells]
  | a :: r, i + 1, s, h => by
    have ih := inRow_get (l := r) (i := i) (by simpa using h)
    have e : ((a :: r).flatMap inCells) = .int .i64 a.op :: .int .i64 a.a :: (r.flatMap inCells) := by simp [inCells]
    rw [e]
    refine ⟨?_, ?_⟩
    · rw [show (i + 1) * 2 = i * 2 + 1 + 1 by omega]; simpa using ih.1
    · rw [show (i + 1) * 2 + 1 = i * 2 + 1 + 1 + 1 by omega]; simpa using ih.2
theorem IsIs.get {B : Nat → Prop} {w : World} {l : List In} {ao : Option Addr} {n cap : Nat} (h : IsIs B w l (.slice ao n cap)) {i : Nat} {x : In} (hi : l[i]? = some x) : ∃ g o, ao = some ⟨g, o, none⟩ ∧ B g ∧ g < w.heap.size ∧ w.cell? ⟨g, o + i * 2, none⟩ = some (.int .i64 x.op) ∧ w.cell? ⟨g, o + i * 2 + 1, none⟩ = some (.int .i64 x.a) ∧ InR x.op ∧ InR x.a := by
  obtain ⟨⟨h1, h2⟩, h3⟩ := h
  have hlt := (List.getElem?_eq_some_iff.1 hi).1
  rcases h2 with ⟨_, h4⟩ | ⟨g, o, cap', e, h5, h6, h7, h8, h9⟩
  · omega
  · simp only [Value.slice.injEq] at e
    obtain ⟨g1, g2⟩ := inRow_get hi
    have h10 := h3 x (List.mem_of_getElem? hi)
    exact ⟨g, o, e.1, h7, h8, h9 _ _ g1, by have := h9 _ _ g2; rwa [← Nat.add_assoc] at this, h10⟩
theorem IsFus.get {B : Nat → Prop} {w : World} {l : List Fu} {ao : Option Addr} {n cap : Nat} (h : IsFus B w l (.slice ao n cap)) {i : Nat} {f : Fu} (hi : l[i]? = some f) : ∃ g o ac cc, ao = some ⟨g, o, none⟩ ∧ B g ∧ g < w.heap.size ∧ w.cell? ⟨g, o + i * 5, none⟩ = some (.int .i64 f.params) ∧ w.cell? ⟨g, o + i * 5 + 1, none⟩ = some (.int .i64 f.locals) ∧ w.cell? ⟨g, o + i * 5 + 2, none⟩ = some (.int .i64 f.zero) ∧ w.cell? ⟨g, o + i * 5 + 3, none⟩ = some (.int .i64 f.stack) ∧ w.cell? ⟨g, o + i * 5 + 4, none⟩ = some (.slice ac f.code.length cc) ∧ IsFn B w f (.slice ac f.code.length cc) := by
  obtain ⟨row, ⟨h1, h2⟩, h3⟩ := h
  have hlt := (List.getElem?_eq_some_iff.1 hi).1
  rcases h2 with ⟨_, h4⟩ | ⟨g, o, cap', e, h5, h6, h7, h8, h9⟩
  · omega
  · simp only [Value.slice.injEq] at e
    obtain ⟨cs, ⟨ac, cc, rfl, hf⟩, hrow⟩ := h3.get hi
    have hc : ∀ (j : Nat) (u : Value), j < 5 → ([Value.int .i64 f.params, .int .i64 f.locals, .int .i64 f.zero, .int .i64 f.stack, .slice ac f.code.length cc] : List Value)[j]? = some u → w.cell? ⟨g, o + i * 5 + j, none⟩ = some u := fun j u hj hu => by
      have := h9 _ u ((hrow j hj).trans hu)
      rwa [← Nat.add_assoc] at this
    exact ⟨g, o, ac, cc, e.1, h7, h8, hc 0 _ (by omega) rfl, hc 1 _ (by omega) rfl, hc 2 _ (by omega) rfl, hc 3 _ (by omega) rfl, hc 4 _ (by omega) rfl, hf⟩
theorem IsFus.slice {B : Nat → Prop} {w : World} {l : List Fu} {sl : Value} (h : IsFus B w l sl) : ∃ ao cap, sl = .slice ao l.length cap ∧ l.length ≤ cap ∧ cap ≤ 9223372036854775807 := by
  obtain ⟨row, h1, _⟩ := h
  exact h1.val5
theorem IsIs.slice {B : Nat → Prop} {w : World} {l : List In} {sl : Value} (h : IsIs B w l sl) : ∃ ao cap, sl = .slice ao l.length cap ∧ l.length ≤ cap ∧ cap ≤ 9223372036854775807 := h.row.val5
end Go.Proofs.YtnijcolomoobnaaGreatDoor
