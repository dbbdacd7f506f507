/- Texts of ours, joined: Dvc, Ec, Ecl, Kb0, Kb, Kn. -/
import Derived.Test.YtndahpcjkcihlaaG33
import Derived.Test.YtndahpcjkcihlaaG34
import Derived.Test.YtndahpcjkcihlaaG31
import Derived.Test.YtndahpcjkcihlaaG22
import Derived.Lib.AppendStr
import Derived.Test.YtndahpcjkcihlaaG14
import Derived.Test.YtndahpcjkcihlaaG17
import Derived.Test.YtndahpcjkcihlaaG20
/- What is read was written so. Plain mathematics. -/
namespace Go.Proofs.Ytndahpcjkcihlaa
set_option linter.unusedVariables false
set_option linter.unusedSimpArgs false

theorem rdN_back {st : RSt} {r : List UInt8} (h : (rdN st).2 = some r) : st = some (num (rdN st).1 ++ r) := by
  rcases st with _ | bs
  · simp [rdN] at h
  · simp only [rdN] at h ⊢
    split at h
    · simp at h
    · rename_i h0
      rw [if_neg h0]
      obtain ⟨h1, h2, _⟩ := tk_back (bs := bs) (X := (tk bs).1) (k := (tk bs).2) rfl (by omega)
      simp only [Option.some.injEq] at h ⊢
      rw [← h2, ← h, List.take_append_drop]
theorem rdU_back {lim : Nat} {st : RSt} {r : List UInt8} (h : (rdU lim st).2 = some r) : st = some (num (rdU lim st).1 ++ r) := by
  unfold rdU at h ⊢
  split at h
  · simp at h
  · rename_i h0
    rw [if_neg h0]
    exact rdN_back h
theorem rdI_back {st : RSt} {r : List UInt8} (h : (rdI st).2 = some r) : st = some ((if (rdI st).1 < 0 then num 1 ++ num (-((rdI st).1 + 1)).toNat else num 0 ++ num (rdI st).1.toNat) ++ r) := by
  have h2 : (rdN (rdU 1 st).2).2 = some r := h
  have h3 := rdN_back h2
  have h4 := rdU_back h3
  have h5 := rdU_le 1 st
  unfold rdI
  dsimp only
  by_cases h1 : (rdU 1 st).1 = 1
  · rw [if_pos h1, if_pos (by omega)]
    have e : (-(-((rdN (rdU 1 st).2).1 : Int) - 1 + 1)).toNat = (rdN (rdU 1 st).2).1 := by omega
    rw [e]
    rw [h1] at h4
    rw [List.append_assoc]
    exact h4
  · rw [if_neg h1, if_neg (by omega)]
    have e : (((rdN (rdU 1 st).2).1 : Int)).toNat = (rdN (rdU 1 st).2).1 := by omega
    have e0 : (rdU 1 st).1 = 0 := by omega
    rw [e]
    rw [e0] at h4
    rw [List.append_assoc]
    exact h4
theorem rdB_back {n : Nat} {st : RSt} {r : List UInt8} (h : (rdB n st).2 = some r) : st = some ((rdB n st).1 ++ r) ∧ (rdB n st).1.length = n := by
  rcases st with _ | bs
  · simp [rdB] at h
  · simp only [rdB] at h ⊢
    split at h
    · simp at h
    · rename_i h0
      rw [if_neg h0]
      simp only [Option.some.injEq] at h ⊢
      rw [← h, List.take_append_drop]
      refine ⟨rfl, ?_⟩
      simp; omega
theorem rdInt_back {st : RSt} {r : List UInt8} (h : (rdInt st).2 = some r) : st = some (enc (rdInt st).1 ++ r) := by
  have h1 := rdI_back (st := st) (r := r) h
  unfold rdInt
  dsimp only
  rw [enc, if_pos rfl, encs, List.append_nil]
  exact h1
theorem rdText_back {st : RSt} {r : List UInt8} (h : (rdText st).2 = some r) : st = some (enc (rdText st).1 ++ r) := by
  obtain ⟨h1, h2⟩ := rdB_back (n := (rdU 256 st).1) (st := (rdU 256 st).2) (r := r) h
  have h3 := rdU_back h1
  unfold rdText
  dsimp only
  rw [enc, if_neg (by decide), if_neg (by decide), if_pos rfl, encs, List.append_nil, h2, List.append_assoc]
  exact h3
theorem rdK_back (kb : Bool) {st : RSt} {r : List UInt8} (h : (rdK kb st).2 = some r) : st = some (enc (rdK kb st).1 ++ r) := by
  cases kb
  · exact rdText_back h
  · exact rdInt_back h
theorem rdLs_back {f : RSt → V × RSt} (hf : ∀ st r, (f st).2 = some r → st = some (enc (f st).1 ++ r)) : ∀ (n : Nat) (st : RSt) (r : List UInt8), (rdLs f n st).2 = some r → st = some (encs (rdLs f n st).1 ++ r)
  | 0, st, r, h => by simpa [rdLs, encs] using h
  | n + 1, st, r, h => by
    have h1 := rdLs_back hf n (f st).2 r h
    have h2 := hf st _ h1
    rw [rdLs]
    dsimp only
    rw [encs, List.append_assoc]
    exact h2
theorem rdMs_back {f g : RSt → V × RSt} (hf : ∀ st r, (f st).2 = some r → st = some (enc (f st).1 ++ r)) (hg : ∀ st r, (g st).2 = some r → st = some (enc (g st).1 ++ r)) : ∀ (n : Nat) (st : RSt) (r : List UInt8), (rdMs f g n st).2 = some r → st = some (encs (rdMs f g n st).1 ++ r)
  | 0, st, r, h => by simpa [rdMs, encs] using h
  | n + 1, st, r, h => by
    have h1 := rdMs_back hf hg n (g (f st).2).2 r h
    have h2 := hg (f st).2 _ h1
    have h3 := hf st _ h2
    rw [rdMs]
    dsimp only
    rw [encs, encs, List.append_assoc, List.append_assoc]
    exact h3
theorem rdV_back : ∀ (T : Ty) (st : RSt) (r : List UInt8), (rdV T st).2 = some r → st = some (enc (rdV T st).1 ++ r)
  | .int, st, r, h => rdInt_back h
  | .bool, st, r, h => by
    have h1 := rdU_back (lim := 1) (st := st) (r := r) h
    show st = some (enc (.mk 2 ((rdU 1 st).1 : Nat) [] []) ++ r)
    rw [enc, if_neg (by decide), if_pos rfl, encs, List.append_nil]
    exact h1
  | .text, st, r, h => rdText_back h
  | .list E, st, r, h => by
    have h1 := rdLs_back (rdV_back E) (rdU 64 st).1 (rdU 64 st).2 r h
    have h2 := rdU_back h1
    show st = some (enc (.mk 4 0 [] (rdLs (rdV E) (rdU 64 st).1 (rdU 64 st).2).1) ++ r)
    rw [enc, if_neg (by decide), if_neg (by decide), if_neg (by decide), if_pos rfl, rdLs_len, List.append_assoc]
    exact h2
  | .map kb E, st, r, h => by
    have h1 := rdMs_back (fun st r => rdK_back kb) (rdV_back E) (rdU 64 st).1 (rdU 64 st).2 r h
    have h2 := rdU_back h1
    show st = some (enc (.mk 5 0 [] (rdMs (rdK kb) (rdV E) (rdU 64 st).1 (rdU 64 st).2).1) ++ r)
    rw [enc, if_neg (by decide), if_neg (by decide), if_neg (by decide), if_neg (by decide), if_pos rfl, rdMs_len, show 2 * (rdU 64 st).1 / 2 = (rdU 64 st).1 by omega, List.append_assoc]
    exact h2
theorem rdInt_ok (st : RSt) : OkV (rdInt st).1 := by
  have h := rdN_le (rdU 1 st).2
  unfold rdInt rdI
  rw [OkV, OkVs]
  refine ⟨?_, by unfold InR; omega, Nat.zero_le _, Nat.zero_le _, trivial⟩
  dsimp only
  unfold InR
  split <;> omega
theorem rdText_ok (st : RSt) : OkV (rdText st).1 := by
  have h1 := rdU_le 256 st
  have h2 := rdB_len (rdU 256 st).1 (rdU 256 st).2
  unfold rdText
  rw [OkV, OkVs]
  exact ⟨by unfold InR; omega, by unfold InR; omega, by omega, Nat.zero_le _, trivial⟩
theorem rdK_ok (kb : Bool) (st : RSt) : OkV (rdK kb st).1 := by
  cases kb
  · exact rdText_ok st
  · exact rdInt_ok st
theorem rdLs_ok {f : RSt → V × RSt} (hf : ∀ st, OkV (f st).1) : ∀ (n : Nat) (st : RSt), OkVs (rdLs f n st).1
  | 0, st => by rw [rdLs, OkVs]; trivial
  | n + 1, st => by rw [rdLs, OkVs]; exact ⟨hf st, rdLs_ok hf n _⟩
theorem rdMs_ok {f g : RSt → V × RSt} (hf : ∀ st, OkV (f st).1) (hg : ∀ st, OkV (g st).1) : ∀ (n : Nat) (st : RSt), OkVs (rdMs f g n st).1
  | 0, st => by rw [rdMs, OkVs]; trivial
  | n + 1, st => by rw [rdMs, OkVs, OkVs]; exact ⟨hf st, hg _, rdMs_ok hf hg n _⟩
theorem rdV_ok : ∀ (T : Ty) (st : RSt), OkV (rdV T st).1
  | .int, st => rdInt_ok st
  | .bool, st => by
    have h1 := rdU_le 1 st
    show OkV (.mk 2 ((rdU 1 st).1 : Nat) [] [])
    rw [OkV, OkVs]
    exact ⟨by unfold InR; omega, by unfold InR; omega, Nat.zero_le _, Nat.zero_le _, trivial⟩
  | .text, st => rdText_ok st
  | .list E, st => by
    have h1 := rdU_le 64 st
    show OkV (.mk 4 0 [] (rdLs (rdV E) (rdU 64 st).1 (rdU 64 st).2).1)
    rw [OkV, rdLs_len]
    exact ⟨by unfold InR; omega, by unfold InR; omega, Nat.zero_le _, by omega, rdLs_ok (rdV_ok E) _ _⟩
  | .map kb E, st => by
    have h1 := rdU_le 64 st
    show OkV (.mk 5 0 [] (rdMs (rdK kb) (rdV E) (rdU 64 st).1 (rdU 64 st).2).1)
    rw [OkV, rdMs_len]
    exact ⟨by unfold InR; omega, by unfold InR; omega, Nat.zero_le _, by omega, rdMs_ok (rdK_ok kb) (rdV_ok E) _ _⟩
theorem fit_shp {y : List UInt8} {v : V} (h : fitS y v = true) : ∃ T, tyOf y = some T ∧ Shp T v := by
  unfold fitS at h
  rw [Bool.and_eq_true] at h
  have h1 := h.1
  unfold shpS at h1
  rcases hT : tyOf y with _ | T
  · rw [hT] at h1; simp at h1
  · rw [hT] at h1; exact ⟨T, rfl, shpB_iff.1 h1⟩
/-- A value's bytes are it. -/
theorem dc_enc {y : List UInt8} {v : V} (h : fitS y v = true) (ho : OkV v) : dcV y (enc v) = (v, 0) := by
  obtain ⟨T, hT, hs⟩ := fit_shp h
  have h1 := rdV_enc T v [] hs ho
  rw [List.append_nil] at h1
  unfold dcV
  rw [hT]
  simp only
  rw [h1]
  simp only
  rw [if_pos trivial, if_pos h]
/-- With more behind they are none. -/
theorem dc_more {y : List UInt8} {v : V} (h : fitS y v = true) (ho : OkV v) {r : List UInt8} (hr : r ≠ []) : dcV y (enc v ++ r) = (V.zero, 11) := by
  obtain ⟨T, hT, hs⟩ := fit_shp h
  have h1 := rdV_enc T v r hs ho
  unfold dcV
  rw [hT]
  simp only
  rw [h1]
  simp only [Option.some.injEq]
  rw [if_neg hr]
/-- Bytes that are a value are its bytes. -/
theorem dc_back {y b : List UInt8} {p : V} (h : dcV y b = (p, 0)) : fitS y p = true ∧ enc p = b ∧ OkV p := by
  unfold dcV at h
  rcases hT : tyOf y with _ | T
  · rw [hT] at h; simp at h
  · rw [hT] at h
    simp only at h
    split at h
    · rename_i h1
      split at h
      · rename_i h2
        simp only [Prod.mk.injEq, and_true] at h
        have h3 := rdV_back T _ _ h1
        rw [List.append_nil] at h3
        rw [← h]
        exact ⟨h2, (Option.some.inj h3).symm, rdV_ok T _⟩
      · simp at h
    · simp at h
theorem dc_err {y b : List UInt8} (h : (dcV y b).2 ≠ 0) : (dcV y b).1 = V.zero ∧ ((dcV y b).2 = 1 ↔ gType y = false) ∧ (gType y = true → (dcV y b).2 = 11) := by
  unfold dcV gType at *
  rcases hT : tyOf y with _ | T
  · simp
  · rw [hT] at h
    simp only at h ⊢
    split
    · rename_i h1
      rw [if_pos h1] at h
      split
      · rename_i h2
        rw [if_pos h2] at h
        simp at h
      · simp
    · simp
/-- No proper beginning is one. -/
theorem dc_part {y : List UInt8} {v : V} (h : fitS y v = true) (ho : OkV v) {i : Nat} (hi : i < (enc v).length) : (dcV y ((enc v).take i)).2 = 11 := by
  obtain ⟨T, hT, hs⟩ := fit_shp h
  by_cases h0 : (dcV y ((enc v).take i)).2 = 0
  · exfalso
    obtain ⟨h1, h2, h3⟩ := dc_back (y := y) (b := (enc v).take i) (p := (dcV y ((enc v).take i)).1) (by rw [← h0])
    obtain ⟨T', hT', hs'⟩ := fit_shp h1
    rw [hT] at hT'
    obtain rfl := Option.some.inj hT'
    have e1 := rdV_enc T v [] hs ho
    have e2 := rdV_enc T _ ((enc v).drop i) hs' h3
    rw [h2, List.take_append_drop] at e2
    rw [List.append_nil, e2] at e1
    simp only [Prod.mk.injEq, Option.some.injEq] at e1
    have := List.length_drop (i := i) (l := enc v)
    rw [e1.2] at this
    simp at this
    omega
  · exact (dc_err h0).2.2 (by unfold gType; rw [hT]; rfl)
end Go.Proofs.Ytndahpcjkcihlaa
/- Bytes: the document's. -/
namespace Go.Proofs.Ytndahpcjkcihlaa
open Go.RowKit
set_option linter.unusedVariables false
set_option linter.unusedSimpArgs false
attribute [local go_sem ↓] Go.wp_at_zero Go.wp_at_succ

mutual
/-- Of a kind that there is, in all depths, and nothing within what is no list and no map. -/
def Tm : V → Prop
  | .mk k n t l => ((k = 1 ∧ l = []) ∨ (k = 2 ∧ 0 ≤ n ∧ l = []) ∨ (k = 3 ∧ l = []) ∨ k = 4 ∨ k = 5) ∧ Tms l
def Tms : List V → Prop
  | [] => True
  | v :: r => Tm v ∧ Tms r
end
theorem tms_of : ∀ {l : List V}, (∀ x ∈ l, Tm x) → Tms l
  | [], _ => by rw [Tms]; trivial
  | x :: r, h => by rw [Tms]; exact ⟨h x (List.mem_cons_self ..), tms_of (fun y hy => h y (List.mem_cons_of_mem _ hy))⟩
theorem tms_mem : ∀ {l : List V} {x : V}, Tms l → x ∈ l → Tm x
  | [], x, _, h => by cases h
  | y :: r, x, h, hx => by
    rw [Tms] at h
    rcases List.mem_cons.1 hx with rfl | hx
    · exact h.1
    · exact tms_mem h.2 hx
theorem Tm.cases {v : V} (h : Tm v) : ((v.k = 1 ∧ v.l = []) ∨ (v.k = 2 ∧ 0 ≤ v.n ∧ v.l = []) ∨ (v.k = 3 ∧ v.l = []) ∨ v.k = 4 ∨ v.k = 5) ∧ ∀ x ∈ v.l, Tm x := by
  obtain ⟨k, n, t, l⟩ := v
  rw [Tm] at h
  exact ⟨h.1, fun x hx => tms_mem h.2 hx⟩
theorem keyS_tm : ∀ {kb : Bool} {v : V}, KeyS kb v → Tm v
  | true, .mk k n t l, h => by
    rw [KeyS] at h
    obtain ⟨h1, h2, h3⟩ := h
    simp only [V.k, V.t, V.l] at h1 h2 h3
    subst h3
    rw [Tm]; exact ⟨Or.inl ⟨h1, rfl⟩, by rw [Tms]; trivial⟩
  | false, .mk k n t l, h => by
    rw [KeyS] at h
    obtain ⟨h1, h2, h3, h4⟩ := h
    simp only [V.k, V.t, V.l, V.n] at h1 h2 h3 h4
    subst h3
    rw [Tm]; exact ⟨Or.inr (Or.inr (Or.inl ⟨h1, rfl⟩)), by rw [Tms]; trivial⟩
theorem shp_tm : ∀ {T : Ty} {v : V}, Shp T v → Tm v
  | .int, .mk k n t l, h => by
    rw [Shp] at h
    obtain ⟨h1, h2, h3⟩ := h
    simp only [V.k, V.t, V.l] at h1 h2 h3
    subst h3
    rw [Tm]; exact ⟨Or.inl ⟨h1, rfl⟩, by rw [Tms]; trivial⟩
  | .bool, .mk k n t l, h => by
    rw [Shp] at h
    obtain ⟨h1, h2, h3, h4⟩ := h
    simp only [V.k, V.t, V.l, V.n] at h1 h2 h3 h4
    subst h3
    rw [Tm]; exact ⟨Or.inr (Or.inl ⟨h1, by omega, rfl⟩), by rw [Tms]; trivial⟩
  | .text, .mk k n t l, h => by
    rw [Shp] at h
    obtain ⟨h1, h2, h3, h4⟩ := h
    simp only [V.k, V.t, V.l, V.n] at h1 h2 h3 h4
    subst h3
    rw [Tm]; exact ⟨Or.inr (Or.inr (Or.inl ⟨h1, rfl⟩)), by rw [Tms]; trivial⟩
  | .list E, .mk k n t l, h => by
    rw [Shp] at h
    obtain ⟨h1, h2, h3, h4, h5⟩ := h
    simp only [V.k, V.t, V.l, V.n] at h1 h2 h3 h4 h5
    rw [Tm]; exact ⟨Or.inr (Or.inr (Or.inr (Or.inl h1))), tms_of (fun x hx => shp_tm (h5 x hx))⟩
  | .map kb E, .mk k n t l, h => by
    rw [Shp] at h
    obtain ⟨h1, h2, h3, h4, h5, h6, h7, h8⟩ := h
    simp only [V.k, V.t, V.l, V.n] at h1 h2 h3 h4 h5 h6 h7
    rw [Tm]
    refine ⟨Or.inr (Or.inr (Or.inr (Or.inr h1))), tms_of (fun x hx => ?_)⟩
    obtain ⟨i, hi, rfl⟩ := List.getElem_of_mem hx
    have hg := List.getElem?_eq_getElem hi
    rcases Nat.mod_two_eq_zero_or_one i with e | e
    · exact keyS_tm (h6 (i / 2) _ (by rw [show 2 * (i / 2) = i by omega]; exact hg))
    · exact shp_tm (h7 (i / 2) _ (by rw [show 2 * (i / 2) + 1 = i by omega]; exact hg))
theorem one8 (w : World) (b : UInt8) : IsB Any (w.alloc (.cells #[.int .u8 b.toNat] 5)) (.slice (some ⟨w.heap.size, 0, none⟩) 1 1) [b] := by
  refine ⟨some ⟨w.heap.size, 0, none⟩, 1, rfl, Nat.le_refl _, by omega, (fun h => by cases h), fun _ => ⟨w.heap.size, 0, rfl, trivial, by simp, fun i c hi => ?_⟩⟩
  have hj := (List.getElem?_eq_some_iff.1 hi).1
  simp at hj
  subst hj
  simp at hi
  subst hi
  exact cell_of_one (heap_new w _)
theorem OutB.of {base base' : Nat} {w w1 : World} {bs bs' : List UInt8} {r : Ending} {w' : World} (h : OutB base w1 bs r w') (e : bs = bs') (hb : Below base' w w1) (hm : base' ≤ base) : OutB base' w bs' r w' := by
  obtain ⟨⟨a, c, h1, h2⟩, h3⟩ := h
  subst e
  exact ⟨⟨a, c, h1, owns_base h2 hm⟩, hb.trans (h3.mono hm)⟩
end Go.Proofs.Ytndahpcjkcihlaa
/- Bytes of lists and maps, Encode: the document's. -/
namespace Go.Proofs.Ytndahpcjkcihlaa
open Go.RowKit
set_option linter.unusedVariables false
set_option linter.unusedSimpArgs false

end Go.Proofs.Ytndahpcjkcihlaa
/- A module's bytes, in plain mathematics; rows of bytes under way. -/
namespace Go.Proofs.Ytndahpcjkcihlaa
open Go.RowKit
set_option linter.unusedVariables false
set_option linter.unusedSimpArgs false

def eI (i : In) : List UInt8 := num i.op.toNat ++ num i.a.toNat
def xsF (f : Fu) : List Int := [f.params, f.locals, f.zero, f.stack, f.code.length]
def nInt (x : Int) : List UInt8 := num x.toNat
def eF (f : Fu) : List UInt8 := (xsF f).flatMap nInt ++ f.code.flatMap eI
def eC (v : V) : List UInt8 := num v.k.toNat ++ enc v
/-- A module's bytes. -/
def encM (m : Md) : List UInt8 := num m.consts.length ++ num m.funcs.length ++ m.consts.flatMap eC ++ m.funcs.flatMap eF
theorem flat_take {α : Type} {l : List α} {q : Nat} {x : α} (g : α → List UInt8) (h : l[q]? = some x) : (l.take (q + 1)).flatMap g = (l.take q).flatMap g ++ g x := by
  rw [List.take_add_one, h, List.flatMap_append]; simp
theorem flat_take_le {α : Type} (l : List α) (q : Nat) (g : α → List UInt8) : ((l.take q).flatMap g).length ≤ (l.flatMap g).length := by
  have h : l.flatMap g = (l.take q).flatMap g ++ (l.drop q).flatMap g := by rw [← List.flatMap_append, List.take_append_drop]
  rw [h]; simp
theorem flat_mem_le {α : Type} {l : List α} {q : Nat} {x : α} (g : α → List UInt8) (h : l[q]? = some x) : ((l.take q).flatMap g).length + (g x).length ≤ (l.flatMap g).length := by
  have := flat_take_le l (q + 1) g
  rw [flat_take g h] at this
  simpa using this
/-- A row of bytes of one's own, so and so long. -/
def OwnN (w : World) (base : Nat) (a : Option Addr) (N c : Nat) (bs : List UInt8) : Prop := N = bs.length ∧ Own8 w base a c bs
def OutN (w : World) (bs : List UInt8) (r : Ending) (w' : World) : Prop := (∃ a N c, r = .returned (.slice a N c) ∧ OwnN w' w.heap.size a N c bs) ∧ Below w.heap.size w w'
theorem OwnN.low {w : World} {base base' : Nat} {a : Option Addr} {N c : Nat} {bs : List UInt8} (h : OwnN w base a N c bs) (hb : base' ≤ base) : OwnN w base' a N c bs := ⟨h.1, owns_base h.2 hb⟩
theorem OwnN.keep {w w' : World} {base : Nat} {a : Option Addr} {N c : Nat} {bs : List UInt8} (h : OwnN w base a N c bs) (hb : Below w.heap.size w w') : OwnN w' base a N c bs := by
  refine ⟨h.1, h.2.1, ?_⟩
  rcases h.2.2 with q | ⟨g, cap, cur, q1, q2, q3, q4⟩
  · exact Or.inl q
  · exact Or.inr ⟨g, cap, cur, q1, q2, by rw [hb.block g (Array.getElem?_eq_some_iff.1 q3).1]; exact q3, q4⟩
/-- Bytes behind those of one's own. -/
theorem appN {w : World} {base : Nat} {a : Option Addr} {N c : Nat} {bs ys : List UInt8} {B : Nat → Prop} {a5 : Option Addr} {n5 c5 : Nat} (h : OwnN w base a N c bs) (hy : IsB B w (.slice a5 n5 c5) ys) (hb : base ≤ w.heap.size) (hl : bs.length + ys.length ≤ 900000) : ∃ a6 N6 c6 w6, (Builtin.append_ #[34, 34] 34 #[.slice a N c, .slice a5 n5 c5]).run Try.prog w = .ok (.slice a6 N6 c6) w6 ∧ OwnN w6 base a6 N6 c6 (bs ++ ys) ∧ Below base w w6 := by
  obtain ⟨rfl, ho⟩ := h
  have hn5 := hy.len
  subst hn5
  obtain ⟨n1, n2⟩ := hy.news
  obtain ⟨a6, c6, w6, hr, ho6, hb6, _⟩ := app_run Try.underlying34 byteInfo rfl (by decide) 34 (news := c8 ys) ho n1 (by rw [c8_len]; omega) n2 (c8_one _) (by omega) (by decide) hb
  refine ⟨a6, bs.length + ys.length, c6, w6, hr, ⟨by simp, ?_⟩, hb6⟩
  show w6.ownsRow base _ 1 (.slice a6 (bs ++ ys).length c6) (bs ++ ys).length (c8 (bs ++ ys))
  rw [List.length_append, c8_append]
  exact ho6
/-- What a constant is. -/
theorem ctype_shp {v : V} (h : ctype v ≠ []) : v.l = [] ∧ wt v ≤ 16384 ∧ ∃ T, Shp T v := by
  refine ⟨?_, ?_⟩
  · unfold ctype at h
    split at h
    · assumption
    · exact absurd rfl h
  · have hl : v.l = [] := by
      unfold ctype at h
      split at h
      · assumption
      · exact absurd rfl h
    unfold ctype at h
    rw [if_pos hl] at h
    rcases hf : tys.find? (fun t => fitS t v) with _ | t
    · rw [hf] at h; exact absurd rfl h
    · have h1 := List.find?_some hf
      have h1' : fitS t v = true := h1
      obtain ⟨T, -, hS⟩ := fit_shp h1'
      exact ⟨fit_wt h1', T, hS⟩
theorem shp_kpos {T : Ty} {v : V} (h : Shp T v) : 0 ≤ v.k := by
  have := h.kind
  rw [this]
  cases T <;> simp [kd]
end Go.Proofs.Ytndahpcjkcihlaa
/- A module's bytes: the document's. -/
namespace Go.Proofs.Ytndahpcjkcihlaa
open Go.RowKit
set_option linter.unusedVariables false
set_option linter.unusedSimpArgs false
attribute [local go_sem ↓] Go.wp_at_zero Go.wp_at_succ

theorem okV_w {B : Nat → Prop} {w : World} {v : V} {sl : Value} (h : IsW B w v sl) (hl : v.l = []) : OkV v := by
  obtain ⟨k, n, t, l⟩ := v
  have hl' : l = [] := hl
  subst hl'
  have := h.txt
  rw [OkV]
  exact ⟨h.nr, h.kr, by unfold maxLen at this; simp only [V.t] at this; omega, by simp, by rw [OkVs]; trivial⟩
theorem ints_of {w : World} {g : Nat} {f : Fu} (h : w.heap[g]? = some (.cells #[.int .i64 f.params, .int .i64 f.locals, .int .i64 f.zero, .int .i64 f.stack, .int .i64 f.code.length] 3 (0, 0))) : Ints w g (xsF f) := h
end Go.Proofs.Ytndahpcjkcihlaa
/- How long a module's bytes are; Encode: the document's. -/
namespace Go.Proofs.Ytndahpcjkcihlaa
open Go.RowKit
set_option linter.unusedVariables false
set_option linter.unusedSimpArgs false
attribute [local go_sem ↓] Go.wp_at_zero Go.wp_at_succ

theorem num_le9 {n : Nat} (h : n ≤ 9223372036854775807) : (num n).length ≤ 9 := (num_len10 h).2
theorem eC_len {v : V} (ho : OkV v) (hl : v.l = []) (hk : v.k ≤ 5) : (eC v).length ≤ 27 * (1 + v.t.length + v.l.length) := by
  have h1 := enc_len v ho
  have h2 := num_le9 (n := v.k.toNat) (by omega)
  have h3 : wt v = 1 + v.t.length := by
    obtain ⟨k, n, t, l⟩ := v
    have hl' : l = [] := hl
    subst hl'
    simp [wt, wts, V.t]
  unfold eC
  simp only [List.length_append]
  omega
theorem eI_len {nc : Nat} {states : Int} {n : Nat} {f : Fu} {i : In} (h : InOk nc states n f i) (hf : NumOk nc f) (hn : n ≤ 32) (hc : nc ≤ 16384) (hs : states ≤ 32) : (eI i).length ≤ 18 := by
  obtain ⟨h1, h2, h3, h4⟩ := inOk_iff.1 h
  unfold NumOk at hf
  have h5 : inTop nc states n f i.op ≤ 1099511627777 := by
    unfold inTop
    repeat' split
    all_goals omega
  have h6 := num_le9 (n := i.op.toNat) (by omega)
  have h7 := num_le9 (n := i.a.toNat) (by omega)
  unfold eI
  simp only [List.length_append]
  omega
theorem flat_len {α : Type} {l : List α} {g : α → List UInt8} {k : Nat} (h : ∀ x ∈ l, (g x).length ≤ k) : (l.flatMap g).length ≤ l.length * k := by
  induction l with
  | nil => simp
  | cons a r ih =>
    have h1 := h a (by simp)
    have h2 := ih (fun x hx => h x (by simp [hx]))
    simp only [List.flatMap_cons, List.length_append, List.length_cons, Nat.add_mul]
    omega
theorem eF_len {nc : Nat} {states : Int} {fs : List Fu} {n : Nat} {f : Fu} (h : FuOk nc states fs n f) (hn : n ≤ 32) (hc : nc ≤ 16384) (hs : states ≤ 32) : (eF f).length ≤ 45 * (1 + f.code.length) := by
  have h1 : (f.code.flatMap eI).length ≤ f.code.length * 18 := flat_len (fun i hi => eI_len (h.ins i hi) h.num hn hc hs)
  have hf := h.num
  unfold NumOk at hf
  have h2 : ((xsF f).flatMap nInt).length ≤ (xsF f).length * 9 := flat_len (fun x hx => by
    simp only [xsF, List.mem_cons, List.not_mem_nil, or_false] at hx
    unfold nInt
    refine num_le9 ?_
    rcases hx with rfl | rfl | rfl | rfl | rfl <;> omega)
  have h3 : (xsF f).length = 5 := rfl
  unfold eF
  simp only [List.length_append]
  omega
theorem cs_len : ∀ {l : List V}, (∀ v ∈ l, (eC v).length ≤ 27 * (1 + v.t.length + v.l.length)) → (l.flatMap eC).length ≤ 27 * csz l
  | [], h => by simp [csz]
  | a :: r, h => by
    have h1 := h a (by simp)
    have h2 := cs_len (l := r) (fun x hx => h x (by simp [hx]))
    simp only [List.flatMap_cons, List.length_append, csz]
    omega
theorem fs_len : ∀ {l : List Fu}, (∀ f ∈ l, (eF f).length ≤ 45 * (1 + f.code.length)) → (l.flatMap eF).length ≤ 45 * fsz l
  | [], h => by simp [fsz]
  | a :: r, h => by
    have h1 := h a (by simp)
    have h2 := fs_len (l := r) (fun x hx => h x (by simp [hx]))
    simp only [List.flatMap_cons, List.length_append, fsz]
    omega
/-- A module's bytes are not too many. -/
theorem encM_len {m : Md} {states : Int} (hr : Run m states) (ho : ∀ v ∈ m.consts, OkV v) (hc : csz m.consts ≤ 10000) (hf : fsz m.funcs ≤ 10000) : (encM m).length ≤ 800000 := by
  have h1 := cs_len (l := m.consts) (fun v hv => by
    obtain ⟨hl, -, T, hS⟩ := ctype_shp (hr.con v hv)
    refine eC_len (ho v hv) hl ?_
    have := hS.kind
    rw [this]
    cases T <;> simp [kd])
  have hst := hr.st
  have hfw := hr.few
  have h2 := fs_len (l := m.funcs) (fun f hf => by
    obtain ⟨i, hi⟩ := List.mem_iff_getElem?.1 hf
    have hil := (List.getElem?_eq_some_iff.1 hi).1
    exact eF_len (hr.fun_ i f hi) (by omega) (by omega) (by omega))
  have h3 := num_le9 (n := m.consts.length) (by omega)
  have h4 := num_le9 (n := m.funcs.length) (by omega)
  unfold encM
  simp only [List.length_append]
  omega
theorem okVs_w {B : Nat → Prop} {w : World} {l : List V} {ao : Option Addr} {n cap : Nat} (h : IsVs B w l (.slice ao n cap)) (hl : ∀ v ∈ l, v.l = []) : ∀ v ∈ l, OkV v := fun v hv => by
  obtain ⟨i, hi⟩ := List.mem_iff_getElem?.1 hv
  obtain ⟨g, o, ax, cx, _, _, _, _, _, _, _, hw⟩ := h.get hi
  exact okV_w hw (hl v hv)
open Classical in
/-- What Encode answers. -/
noncomputable def encE (m : Md) (states : Int) : List UInt8 × Int := if Run m states then (encM m, 0) else ([], 40)
def OutE (w : World) (x : List UInt8 × Int) (r : Ending) (w' : World) : Prop := (∃ a N c, r = .returned (.tuple #[.slice a N c, .int .i64 x.2]) ∧ OwnN w' w.heap.size a N c x.1) ∧ Below w.heap.size w w'
end Go.Proofs.Ytndahpcjkcihlaa
