/- Texts of ours, joined: Dvc, Ec. -/
import Derived.Test.YtndahpcjkcihlaaGreatG28
import Derived.Test.YtndahpcjkcihlaaGreatG29
import Derived.Test.YtndahpcjkcihlaaGreatG26
import Derived.Test.YtndahpcjkcihlaaGreatG20
import Derived.Lib.AppendStr
/- What is read was written so. Plain mathematics. -/
namespace Go.Proofs.YtndahpcjkcihlaaGreat
set_option linter.unusedVariables false
set_option linter.unusedSimpArgs false

theorem rdN_back {st : RSt} {r : List UInt8} (h : (rdN st).2 = some r) : st = some (num (rdN st).1 ++ r) := by
  rcases st with _ | bs
  · simp [rdN] at h
  · simp only [rdN] at h ⊢
    split at h
    · simp at h
    · rename_i h0
      rw [if_neg h0]
      obtain ⟨h1, h2, _⟩ := tk_back (bs := bs) (X := (tk bs).1) (k := (tk bs).2) rfl (by omega)
      simp only [Option.some.injEq] at h ⊢
      rw [← h2, ← h, List.take_append_drop]
theorem rdU_back {lim : Nat} {st : RSt} {r : List UInt8} (h : (rdU lim st).2 = some r) : st = some (num (rdU lim st).1 ++ r) := by
  unfold rdU at h ⊢
  split at h
  · simp at h
  · rename_i h0
    rw [if_neg h0]
    exact rdN_back h
theorem rdI_back {st : RSt} {r : List UInt8} (h : (rdI st).2 = some r) : st = some ((if (rdI st).1 < 0 then num 1 ++ num (-((rdI st).1 + 1)).toNat else num 0 ++ num (rdI st).1.toNat) ++ r) := by
  have h2 : (rdN (rdU 1 st).2).2 = some r := h
  have h3 := rdN_back h2
  have h4 := rdU_back h3
  have h5 := rdU_le 1 st
  unfold rdI
  dsimp only
  by_cases h1 : (rdU 1 st).1 = 1
  · rw [if_pos h1, if_pos (by omega)]
    have e : (-(-((rdN (rdU 1 st).2).1 : Int) - 1 + 1)).toNat = (rdN (rdU 1 st).2).1 := by omega
    rw [e]
    rw [h1] at h4
    rw [List.append_assoc]
    exact h4
  · rw [if_neg h1, if_neg (by omega)]
    have e : (((rdN (rdU 1 st).2).1 : Int)).toNat = (rdN (rdU 1 st).2).1 := by omega
    have e0 : (rdU 1 st).1 = 0 := by omega
    rw [e]
    rw [e0] at h4
    rw [List.append_assoc]
    exact h4
theorem rdB_back {n : Nat} {st : RSt} {r : List UInt8} (h : (rdB n st).2 = some r) : st = some ((rdB n st).1 ++ r) ∧ (rdB n st).1.length = n := by
  rcases st with _ | bs
  · simp [rdB] at h
  · simp only [rdB] at h ⊢
    split at h
    · simp at h
    · rename_i h0
      rw [if_neg h0]
      simp only [Option.some.injEq] at h ⊢
      rw [← h, List.take_append_drop]
      refine ⟨rfl, ?_⟩
      simp; omega
theorem rdInt_back {st : RSt} {r : List UInt8} (h : (rdInt st).2 = some r) : st = some (enc (rdInt st).1 ++ r) := by
  have h1 := rdI_back (st := st) (r := r) h
  unfold rdInt
  dsimp only
  rw [enc, if_pos rfl, encs, List.append_nil]
  exact h1
theorem rdText_back {st : RSt} {r : List UInt8} (h : (rdText st).2 = some r) : st = some (enc (rdText st).1 ++ r) := by
  obtain ⟨h1, h2⟩ := rdB_back (n := (rdU 256 st).1) (st := (rdU 256 st).2) (r := r) h
  have h3 := rdU_back h1
  unfold rdText
  dsimp only
  rw [enc, if_neg (by decide), if_neg (by decide), if_pos rfl, encs, List.append_nil, h2, List.append_assoc]
  exact h3
theorem rdK_back (kb : Bool) {st : RSt} {r : List UInt8} (h : (rdK kb st).2 = some r) : st = some (enc (rdK kb st).1 ++ r) := by
  cases kb
  · exact rdText_back h
  · exact rdInt_back h
theorem rdLs_back {f : RSt → V × RSt} (hf : ∀ st r, (f st).2 = some r → st = some (enc (f st).1 ++ r)) : ∀ (n : Nat) (st : RSt) (r : List UInt8), (rdLs f n st).2 = some r → st = some (encs (rdLs f n st).1 ++ r)
  | 0, st, r, h => by simpa [rdLs, encs] using h
  | n + 1, st, r, h => by
    have h1 := rdLs_back hf n (f st).2 r h
    have h2 := hf st _ h1
    rw [rdLs]
    dsimp only
    rw [encs, List.append_assoc]
    exact h2
theorem rdMs_back {f g : RSt → V × RSt} (hf : ∀ st r, (f st).2 = some r → st = some (enc (f st).1 ++ r)) (hg : ∀ st r, (g st).2 = some r → st = some (enc (g st).1 ++ r)) : ∀ (n : Nat) (st : RSt) (r : List UInt8), (rdMs f g n st).2 = some r → st = some (encs (rdMs f g n st).1 ++ r)
  | 0, st, r, h => by simpa [rdMs, encs] using h
  | n + 1, st, r, h => by
    have h1 := rdMs_back hf hg n (g (f st).2).2 r h
    have h2 := hg (f st).2 _ h1
    have h3 := hf st _ h2
    rw [rdMs]
    dsimp only
    rw [encs, encs, List.append_assoc, List.append_assoc]
    exact h3
theorem rdV_back : ∀ (T : Ty) (st : RSt) (r : List UInt8), (rdV T st).2 = some r → st = some (enc (rdV T st).1 ++ r)
  | .int, st, r, h => rdInt_back h
  | .bool, st, r, h => by
    have h1 := rdU_back (lim := 1) (st := st) (r := r) h
    show st = some (enc (.mk 2 ((rdU 1 st).1 : Nat) [] []) ++ r)
    rw [enc, if_neg (by decide), if_pos rfl, encs, List.append_nil]
    exact h1
  | .text, st, r, h => rdText_back h
  | .list E, st, r, h => by
    have h1 := rdLs_back (rdV_back E) (rdU 64 st).1 (rdU 64 st).2 r h
    have h2 := rdU_back h1
    show st = some (enc (.mk 4 0 [] (rdLs (rdV E) (rdU 64 st).1 (rdU 64 st).2).1) ++ r)
    rw [enc, if_neg (by decide), if_neg (by decide), if_neg (by decide), if_pos rfl, rdLs_len, List.append_assoc]
    exact h2
  | .map kb E, st, r, h => by
    have h1 := rdMs_back (fun st r => rdK_back kb) (rdV_back E) (rdU 64 st).1 (rdU 64 st).2 r h
    have h2 := rdU_back h1
    show st = some (enc (.mk 5 0 [] (rdMs (rdK kb) (rdV E) (rdU 64 st).1 (rdU 64 st).2).1) ++ r)
    rw [enc, if_neg (by decide), if_neg (by decide), if_neg (by decide), if_neg (by decide), if_pos rfl, rdMs_len, show 2 * (rdU 64 st).1 / 2 = (rdU 64 st).1 by omega, List.append_assoc]
    exact h2
theorem rdInt_ok (st : RSt) : OkV (rdInt st).1 := by
  have h := rdN_le (rdU 1 st).2
  unfold rdInt rdI
  rw [OkV, OkVs]
  refine ⟨?_, by unfold InR; omega, Nat.zero_le _, Nat.zero_le _, trivial⟩
  dsimp only
  unfold InR
  split <;> omega
theorem rdText_ok (st : RSt) : OkV (rdText st).1 := by
  have h1 := rdU_le 256 st
  have h2 := rdB_len (rdU 256 st).1 (rdU 256 st).2
  unfold rdText
  rw [OkV, OkVs]
  exact ⟨by unfold InR; omega, by unfold InR; omega, by omega, Nat.zero_le _, trivial⟩
theorem rdK_ok (kb : Bool) (st : RSt) : OkV (rdK kb st).1 := by
  cases kb
  · exact rdText_ok st
  · exact rdInt_ok st
theorem rdLs_ok {f : RSt → V × RSt} (hf : ∀ st, OkV (f st).1) : ∀ (n : Nat) (st : RSt), OkVs (rdLs f n st).1
  | 0, st => by rw [rdLs, OkVs]; trivial
  | n + 1, st => by rw [rdLs, OkVs]; exact ⟨hf st, rdLs_ok hf n _⟩
theorem rdMs_ok {f g : RSt → V × RSt} (hf : ∀ st, OkV (f st).1) (hg : ∀ st, OkV (g st).1) : ∀ (n : Nat) (st : RSt), OkVs (rdMs f g n st).1
  | 0, st => by rw [rdMs, OkVs]; trivial
  | n + 1, st => by rw [rdMs, OkVs, OkVs]; exact ⟨hf st, hg _, rdMs_ok hf hg n _⟩
theorem rdV_ok : ∀ (T : Ty) (st : RSt), OkV (rdV T st).1
  | .int, st => rdInt_ok st
  | .bool, st => by
    have h1 := rdU_le 1 st
    show OkV (.mk 2 ((rdU 1 st).1 : Nat) [] [])
    rw [OkV, OkVs]
    exact ⟨by unfold InR; omega, by unfold InR; omega, Nat.zero_le _, Nat.zero_le _, trivial⟩
  | .text, st => rdText_ok st
  | .list E, st => by
    have h1 := rdU_le 64 st
    show OkV (.mk 4 0 [] (rdLs (rdV E) (rdU 64 st).1 (rdU 64 st).2).1)
    rw [OkV, rdLs_len]
    exact ⟨by unfold InR; omega, by unfold InR; omega, Nat.zero_le _, by omega, rdLs_ok (rdV_ok E) _ _⟩
  | .map kb E, st => by
    have h1 := rdU_le 64 st
    show OkV (.mk 5 0 [] (rdMs (rdK kb) (rdV E) (rdU 64 st).1 (rdU 64 st).2).1)
    rw [OkV, rdMs_len]
    exact ⟨by unfold InR; omega, by unfold InR; omega, Nat.zero_le _, by omega, rdMs_ok (rdK_ok kb) (rdV_ok E) _ _⟩
theorem fit_shp {y : List UInt8} {v : V} (h : fitS y v = true) : ∃ T, tyOf y = some T ∧ Shp T v := by
  unfold fitS at h
  rw [Bool.and_eq_true] at h
  have h1 := h.1
  unfold shpS at h1
  rcases hT : tyOf y with _ | T
  · rw [hT] at h1; simp at h1
  · rw [hT] at h1; exact ⟨T, rfl, shpB_iff.1 h1⟩
/-- A value's bytes are it. -/
theorem dc_enc {y : List UInt8} {v : V} (h : fitS y v = true) (ho : OkV v) : dcV y (enc v) = (v, 0) := by
  obtain ⟨T, hT, hs⟩ := fit_shp h
  have h1 := rdV_enc T v [] hs ho
  rw [List.append_nil] at h1
  unfold dcV
  rw [hT]
  simp only
  rw [h1]
  simp only
  rw [if_pos trivial, if_pos h]
/-- With more behind they are none. -/
theorem dc_more {y : List UInt8} {v : V} (h : fitS y v = true) (ho : OkV v) {r : List UInt8} (hr : r ≠ []) : dcV y (enc v ++ r) = (V.zero, 11) := by
  obtain ⟨T, hT, hs⟩ := fit_shp h
  have h1 := rdV_enc T v r hs ho
  unfold dcV
  rw [hT]
  simp only
  rw [h1]
  simp only [Option.some.injEq]
  rw [if_neg hr]
/-- Bytes that are a value are its bytes. -/
theorem dc_back {y b : List UInt8} {p : V} (h : dcV y b = (p, 0)) : fitS y p = true ∧ enc p = b ∧ OkV p := by
  unfold dcV at h
  rcases hT : tyOf y with _ | T
  · rw [hT] at h; simp at h
  · rw [hT] at h
    simp only at h
    split at h
    · rename_i h1
      split at h
      · rename_i h2
        simp only [Prod.mk.injEq, and_true] at h
        have h3 := rdV_back T _ _ h1
        rw [List.append_nil] at h3
        rw [← h]
        exact ⟨h2, (Option.some.inj h3).symm, rdV_ok T _⟩
      · simp at h
    · simp at h
theorem dc_err {y b : List UInt8} (h : (dcV y b).2 ≠ 0) : (dcV y b).1 = V.zero ∧ ((dcV y b).2 = 1 ↔ gType y = false) ∧ (gType y = true → (dcV y b).2 = 11) := by
  unfold dcV gType at *
  rcases hT : tyOf y with _ | T
  · simp
  · rw [hT] at h
    simp only at h ⊢
    split
    · rename_i h1
      rw [if_pos h1] at h
      split
      · rename_i h2
        rw [if_pos h2] at h
        simp at h
      · simp
    · simp
/-- No proper beginning is one. -/
theorem dc_part {y : List UInt8} {v : V} (h : fitS y v = true) (ho : OkV v) {i : Nat} (hi : i < (enc v).length) : (dcV y ((enc v).take i)).2 = 11 := by
  obtain ⟨T, hT, hs⟩ := fit_shp h
  by_cases h0 : (dcV y ((enc v).take i)).2 = 0
  · exfalso
    obtain ⟨h1, h2, h3⟩ := dc_back (y := y) (b := (enc v).take i) (p := (dcV y ((enc v).take i)).1) (by rw [← h0])
    obtain ⟨T', hT', hs'⟩ := fit_shp h1
    rw [hT] at hT'
    obtain rfl := Option.some.inj hT'
    have e1 := rdV_enc T v [] hs ho
    have e2 := rdV_enc T _ ((enc v).drop i) hs' h3
    rw [h2, List.take_append_drop] at e2
    rw [List.append_nil, e2] at e1
    simp only [Prod.mk.injEq, Option.some.injEq] at e1
    have := List.length_drop (i := i) (l := enc v)
    rw [e1.2] at this
    simp at this
    omega
  · exact (dc_err h0).2.2 (by unfold gType; rw [hT]; rfl)
end Go.Proofs.YtndahpcjkcihlaaGreat
/- Bytes: the document's. -/
namespace Go.Proofs.YtndahpcjkcihlaaGreat
open Go.RowKit
set_option linter.unusedVariables false
set_option linter.unusedSimpArgs false
attribute [local go_sem ↓] Go.wp_at_zero Go.wp_at_succ

mutual
/-- Of a kind that there is, in all depths, and nothing within what is no list and no map. -/
def Tm : V → Prop
  | .mk k n t l => ((k = 1 ∧ l = []) ∨ (k = 2 ∧ 0 ≤ n ∧ l = []) ∨ (k = 3 ∧ l = []) ∨ k = 4 ∨ k = 5) ∧ Tms l
def Tms : List V → Prop
  | [] => True
  | v :: r => Tm v ∧ Tms r
end
theorem tms_of : ∀ {l : List V}, (∀ x ∈ l, Tm x) → Tms l
  | [], _ => by rw [Tms]; trivial
  | x :: r, h => by rw [Tms]; exact ⟨h x (List.mem_cons_self ..), tms_of (fun y hy => h y (List.mem_cons_of_mem _ hy))⟩
theorem tms_mem : ∀ {l : List V} {x : V}, Tms l → x ∈ l → Tm x
  | [], x, _, h => by cases h
  | y :: r, x, h, hx => by
    rw [Tms] at h
    rcases List.mem_cons.1 hx with rfl | hx
    · exact h.1
    · exact tms_mem h.2 hx
theorem Tm.cases {v : V} (h : Tm v) : ((v.k = 1 ∧ v.l = []) ∨ (v.k = 2 ∧ 0 ≤ v.n ∧ v.l = []) ∨ (v.k = 3 ∧ v.l = []) ∨ v.k = 4 ∨ v.k = 5) ∧ ∀ x ∈ v.l, Tm x := by
  obtain ⟨k, n, t, l⟩ := v
  rw [Tm] at h
  exact ⟨h.1, fun x hx => tms_mem h.2 hx⟩
theorem keyS_tm : ∀ {kb : Bool} {v : V}, KeyS kb v → Tm v
  | true, .mk k n t l, h => by
    rw [KeyS] at h
    obtain ⟨h1, h2, h3⟩ := h
    simp only [V.k, V.t, V.l] at h1 h2 h3
    subst h3
    rw [Tm]; exact ⟨Or.inl ⟨h1, rfl⟩, by rw [Tms]; trivial⟩
  | false, .mk k n t l, h => by
    rw [KeyS] at h
    obtain ⟨h1, h2, h3, h4⟩ := h
    simp only [V.k, V.t, V.l, V.n] at h1 h2 h3 h4
    subst h3
    rw [Tm]; exact ⟨Or.inr (Or.inr (Or.inl ⟨h1, rfl⟩)), by rw [Tms]; trivial⟩
theorem shp_tm : ∀ {T : Ty} {v : V}, Shp T v → Tm v
  | .int, .mk k n t l, h => by
    rw [Shp] at h
    obtain ⟨h1, h2, h3⟩ := h
    simp only [V.k, V.t, V.l] at h1 h2 h3
    subst h3
    rw [Tm]; exact ⟨Or.inl ⟨h1, rfl⟩, by rw [Tms]; trivial⟩
  | .bool, .mk k n t l, h => by
    rw [Shp] at h
    obtain ⟨h1, h2, h3, h4⟩ := h
    simp only [V.k, V.t, V.l, V.n] at h1 h2 h3 h4
    subst h3
    rw [Tm]; exact ⟨Or.inr (Or.inl ⟨h1, by omega, rfl⟩), by rw [Tms]; trivial⟩
  | .text, .mk k n t l, h => by
    rw [Shp] at h
    obtain ⟨h1, h2, h3, h4⟩ := h
    simp only [V.k, V.t, V.l, V.n] at h1 h2 h3 h4
    subst h3
    rw [Tm]; exact ⟨Or.inr (Or.inr (Or.inl ⟨h1, rfl⟩)), by rw [Tms]; trivial⟩
  | .list E, .mk k n t l, h => by
    rw [Shp] at h
    obtain ⟨h1, h2, h3, h4, h5⟩ := h
    simp only [V.k, V.t, V.l, V.n] at h1 h2 h3 h4 h5
    rw [Tm]; exact ⟨Or.inr (Or.inr (Or.inr (Or.inl h1))), tms_of (fun x hx => shp_tm (h5 x hx))⟩
  | .map kb E, .mk k n t l, h => by
    rw [Shp] at h
    obtain ⟨h1, h2, h3, h4, h5, h6, h7, h8⟩ := h
    simp only [V.k, V.t, V.l, V.n] at h1 h2 h3 h4 h5 h6 h7
    rw [Tm]
    refine ⟨Or.inr (Or.inr (Or.inr (Or.inr h1))), tms_of (fun x hx => ?_)⟩
    obtain ⟨i, hi, rfl⟩ := List.getElem_of_mem hx
    have hg := List.getElem?_eq_getElem hi
    rcases Nat.mod_two_eq_zero_or_one i with e | e
    · exact keyS_tm (h6 (i / 2) _ (by rw [show 2 * (i / 2) = i by omega]; exact hg))
    · exact shp_tm (h7 (i / 2) _ (by rw [show 2 * (i / 2) + 1 = i by omega]; exact hg))
theorem one8 (w : World) (b : UInt8) : IsB Any (w.alloc (.cells #[.int .u8 b.toNat] 5)) (.slice (some ⟨w.heap.size, 0, none⟩) 1 1) [b] := by
  refine ⟨some ⟨w.heap.size, 0, none⟩, 1, rfl, Nat.le_refl _, by omega, (fun h => by cases h), fun _ => ⟨w.heap.size, 0, rfl, trivial, by simp, fun i c hi => ?_⟩⟩
  have hj := (List.getElem?_eq_some_iff.1 hi).1
  simp at hj
  subst hj
  simp at hi
  subst hi
  exact cell_of_one (heap_new w _)
theorem OutB.of {base base' : Nat} {w w1 : World} {bs bs' : List UInt8} {r : Ending} {w' : World} (h : OutB base w1 bs r w') (e : bs = bs') (hb : Below base' w w1) (hm : base' ≤ base) : OutB base' w bs' r w' := by
  obtain ⟨⟨a, c, h1, h2⟩, h3⟩ := h
  subst e
  exact ⟨⟨a, c, h1, owns_base h2 hm⟩, hb.trans (h3.mono hm)⟩
abbrev BytesOk (v : V) : Prop := ∀ (ao : Option Addr) (cap : Nat) (B : Nat → Prop) (w : World), IsW B w v (.slice ao v.l.length cap) → Calls Tryz.prog 34 #[.agg #[.int .i64 v.k, .int .i64 v.n, .string ⟨v.t.toArray⟩, .slice ao v.l.length cap]] w fun r w' => OutB w.heap.size w (enc v) r w'
set_option maxRecDepth 100000 in
set_option maxHeartbeats 1000000 in
theorem rb_neg {v : V} (hk : v.k = 1) (hl : v.l = []) (hn : v.n < 0) : BytesOk v := by
  intro ao cap B w hv
  obtain ⟨w0, hW, hb0, hsz, d0, d1, d2, d3⟩ := boxed w v (.slice ao v.l.length cap)
  have hr := hv.nr
  obtain ⟨hr1, hr2⟩ := hr
  obtain ⟨w1, hW1⟩ : ∃ w1, w0.alloc (.cells #[.int .u8 1] 5) = w1 := ⟨_, rfl⟩
  have hb1 : Below w0.heap.size w0 w1 := by rw [← hW1]; exact (Below.refl _ _).alloc (Nat.le_refl _) _
  have hB1 : Below w.heap.size w w1 := hb0.trans (hb1.mono (by omega))
  have hone : IsB Any w1 (.slice (some ⟨w0.heap.size, 0, none⟩) 1 1) [1] := by
    have h8 := one8 w0 1
    have e : (((1 : UInt8).toNat : Nat) : Int) = 1 := by decide
    rw [e] at h8
    rw [← hW1]; exact h8
  have he : [1] ++ num (-(v.n + 1)).toNat = enc v := by
    rw [enc_eq, hl]; unfold encH; rw [if_pos hk, if_pos hn, num_lt (n := 1) (by omega)]; simp [encs]
  have hP : Calls Tryz.prog 33 #[.slice (some ⟨w.heap.size + 1, 0, none⟩) 1 1, .int .i64 (-(v.n + 1))] w1 fun r w' => OutB w.heap.size w (enc v) r w' := by
    have hc : (((-(v.n + 1)).toNat : Nat) : Int) = -(v.n + 1) := by omega
    have := rput_any hone (by simp) (x := (-(v.n + 1)).toNat) (by omega)
    rw [hc, hsz] at this
    exact this.mono (fun r w' h => h.of he hB1 hB1.size)
  have d1' : w1.cell? ⟨w.heap.size, 1, none⟩ = some (.int .i64 v.n) := ((bcell hb1).1 _ _ (by omega)).trans d1
  have hw1 : IntKind.i64.wrap (v.n + 1) = v.n + 1 := by rw [IntKind.wrap_i64]; omega
  have hw2 : IntKind.i64.wrap (-(v.n + 1)) = -(v.n + 1) := by rw [IntKind.wrap_i64]; omega
  have q1 : (v.k == 1) = true := by simp [hk]
  clear hv hk hone he hl
  go_enter Tryz.func34, Tryz.ntmps34
  go_wp2_with fail
  refine hP.mono ?_
  rintro e w2 ⟨⟨a, c, rfl, ho⟩, hb⟩
  clear hP
  go_wp2
  go_ret
  exact ⟨⟨a, c, rfl, ho⟩, hb⟩
set_option maxRecDepth 100000 in
set_option maxHeartbeats 1000000 in
theorem rb_pos {v : V} (hk : v.k = 1) (hl : v.l = []) (hn : ¬ v.n < 0) : BytesOk v := by
  intro ao cap B w hv
  obtain ⟨w0, hW, hb0, hsz, d0, d1, d2, d3⟩ := boxed w v (.slice ao v.l.length cap)
  have hr := hv.nr
  obtain ⟨hr1, hr2⟩ := hr
  obtain ⟨w1, hW1⟩ : ∃ w1, w0.alloc (.cells #[.int .u8 0] 5) = w1 := ⟨_, rfl⟩
  have hb1 : Below w0.heap.size w0 w1 := by rw [← hW1]; exact (Below.refl _ _).alloc (Nat.le_refl _) _
  have hB1 : Below w.heap.size w w1 := hb0.trans (hb1.mono (by omega))
  have hone : IsB Any w1 (.slice (some ⟨w0.heap.size, 0, none⟩) 1 1) [0] := by
    have h8 := one8 w0 0
    have e : (((0 : UInt8).toNat : Nat) : Int) = 0 := by decide
    rw [e] at h8
    rw [← hW1]; exact h8
  have he : [0] ++ num v.n.toNat = enc v := by
    rw [enc_eq, hl]; unfold encH; rw [if_pos hk, if_neg hn, num_lt (n := 0) (by omega)]; simp [encs]
  have hP : Calls Tryz.prog 33 #[.slice (some ⟨w.heap.size + 1, 0, none⟩) 1 1, .int .i64 v.n] w1 fun r w' => OutB w.heap.size w (enc v) r w' := by
    have hc : ((v.n.toNat : Nat) : Int) = v.n := by omega
    have := rput_any hone (by simp) (x := v.n.toNat) (by omega)
    rw [hc, hsz] at this
    exact this.mono (fun r w' h => h.of he hB1 hB1.size)
  have d1' : w1.cell? ⟨w.heap.size, 1, none⟩ = some (.int .i64 v.n) := ((bcell hb1).1 _ _ (by omega)).trans d1
  have q1 : (v.k == 1) = true := by simp [hk]
  clear hv hk hone he hl
  go_enter Tryz.func34, Tryz.ntmps34
  go_wp2_with fail
  refine hP.mono ?_
  rintro e w2 ⟨⟨a, c, rfl, ho⟩, hb⟩
  clear hP
  go_wp2
  go_ret
  exact ⟨⟨a, c, rfl, ho⟩, hb⟩
/-- Put(nil, x). -/
theorem rput_nil (w : World) {x : Nat} (hx : x ≤ 9223372036854775807) : Calls Tryz.prog 33 #[.slice none 0 0, .int .i64 x] w fun r w' => OutB w.heap.size w (num x) r w' :=
  (rput_any (B := Any) IsB.nil (by simp) hx).mono (fun r w' h => by simpa using h)
set_option maxRecDepth 100000 in
set_option maxHeartbeats 1000000 in
theorem rb_bool {v : V} (hk : v.k = 2) (hl : v.l = []) (hn : 0 ≤ v.n) : BytesOk v := by
  intro ao cap B w hv
  obtain ⟨w0, hW, hb0, hsz, d0, d1, d2, d3⟩ := boxed w v (.slice ao v.l.length cap)
  have hr := hv.nr
  obtain ⟨hr1, hr2⟩ := hr
  have he : num v.n.toNat = enc v := by
    rw [enc_eq, hl]; unfold encH; rw [if_neg (by omega), if_pos hk]; simp [encs]
  have hP : Calls Tryz.prog 33 #[.slice none 0 0, .int .i64 v.n] w0 fun r w' => OutB w.heap.size w (enc v) r w' := by
    have hc : ((v.n.toNat : Nat) : Int) = v.n := by omega
    have := rput_nil w0 (x := v.n.toNat) (by omega)
    rw [hc] at this
    exact this.mono (fun r w' h => h.of he hb0 hb0.size)
  have q1 : (v.k == 1) = false := by simp [hk]
  have q2 : (v.k == 2) = true := by simp [hk]
  clear hv hk he hl
  go_enter Tryz.func34, Tryz.ntmps34
  go_wp2_with fail
  refine hP.mono ?_
  rintro e w2 ⟨⟨a, c, rfl, ho⟩, hb⟩
  clear hP
  go_wp2
  go_ret
  exact ⟨⟨a, c, rfl, ho⟩, hb⟩
set_option maxRecDepth 100000 in
set_option maxHeartbeats 1000000 in
theorem rb_text {v : V} (hk : v.k = 3) (hl : v.l = []) (ht : v.t.length ≤ 16384) : BytesOk v := by
  intro ao cap B w hv
  obtain ⟨w0, hW, hb0, hsz, d0, d1, d2, d3⟩ := boxed w v (.slice ao v.l.length cap)
  have he : num v.t.length ++ v.t = enc v := by
    rw [enc_eq, hl]; unfold encH; rw [if_neg (by omega), if_neg (by omega), if_pos hk]; simp [encs]
  have hnl := num_len10 (n := v.t.length) (by omega)
  have hP := fun w1 : World => rput_nil w1 (x := v.t.length) (by omega)
  have hAp : ∀ w5 a5 c5, w0.heap.size ≤ w5.heap.size → Own8 w5 w0.heap.size a5 c5 (num v.t.length) → ∃ a6 c6 w6, (Builtin.append_ #[26, 9] 26 #[.slice a5 (num v.t.length).length c5, .string ⟨v.t.toArray⟩]).run Tryz.prog w5 = .ok (.slice a6 (enc v).length c6) w6 ∧ Own8 w6 w0.heap.size a6 c6 (enc v) ∧ Below w0.heap.size w5 w6 := by
    intro w5 a5 c5 hb5 ho5
    obtain ⟨i, hi, hz, hs, hby⟩ := info_parts byteInfo
    have hsz' : (⟨v.t.toArray⟩ : ByteArray).size = v.t.length := by show v.t.toArray.size = _; simp
    obtain ⟨v', w6, h1, h2, h3, _⟩ := Lib.run_append_own_string (P := Tryz.prog) w5 w0.heap.size 26 9 26 5 i Tryz.underlying26 Tryz.underlying9 hi hz hs hby _ _ _ ho5 ⟨v.t.toArray⟩ (by rw [hsz']; unfold maxLen; omega) (by rw [hsz']; omega) hb5
    obtain ⟨a6, c6, rfl, _, _⟩ := owns_slice h2
    have hll : (num v.t.length).length + (⟨v.t.toArray⟩ : ByteArray).size = (enc v).length := by rw [hsz', ← he]; simp
    have hcc : c8 (num v.t.length) ++ Lib.strCells ⟨v.t.toArray⟩ = c8 (enc v) := by rw [← he, c8_append]; rfl
    rw [hll] at h1 h2
    rw [hcc] at h2
    exact ⟨a6, c6, w6, h1, h2, (Below.refl _ _).grown h3 hb5 (fun k hk => (ho5.lt k hk).1)⟩
  have q1 : (v.k == 1) = false := by simp [hk]
  have q2 : (v.k == 2) = false := by simp [hk]
  have q3 : (v.k == 3) = true := by simp [hk]
  clear hv hk hl
  go_enter Tryz.func34, Tryz.ntmps34
  go_wp2_with fail
  refine wpE_begin (S := fun w' => w'.cell? ⟨w.heap.size, 2, none⟩ = some (.string ⟨v.t.toArray⟩)) (N := fun _ => true) (by kernel_rfl) ?_
  have hS0 : w0.drew.cell? ⟨w.heap.size, 2, none⟩ = some (.string ⟨v.t.toArray⟩) := d2
  refine wpE_take (i := 0) (v := .pointer (some ⟨w.heap.size, 2, none⟩)) rfl (by kernel_rfl) (by kernel_rfl) (by kernel_rfl) (by kernel_rfl) (fun _ _ _ h => h) rfl (fun w' hS => by go_simp) hS0 ?_
  try simp only [Act.put, List.setIfInBounds_toArray, List.set_cons_zero, List.set_cons_succ]
  refine wpE_take (i := 1) (v := .string ⟨v.t.toArray⟩) rfl (by kernel_rfl) (by kernel_rfl) (by kernel_rfl) (by kernel_rfl) (fun _ _ _ h => h) rfl (fun w' hS => by go_simp) hS0 ?_
  try simp only [Act.put, List.setIfInBounds_toArray, List.set_cons_zero, List.set_cons_succ]
  refine wpE_take (i := 2) (v := .int .i64 v.t.length) rfl (by kernel_rfl) (by kernel_rfl) (by kernel_rfl) (by kernel_rfl) (fun _ _ _ h => h) rfl (fun w' hS => by go_simp) hS0 ?_
  try simp only [Act.put, List.setIfInBounds_toArray, List.set_cons_zero, List.set_cons_succ]
  refine wpE_take (i := 4) (v := .pointer (some ⟨w.heap.size, 2, none⟩)) rfl (by kernel_rfl) (by kernel_rfl) (by kernel_rfl) (by kernel_rfl) (fun _ _ _ h => h) rfl (fun w' hS => by go_simp) hS0 ?_
  try simp only [Act.put, List.setIfInBounds_toArray, List.set_cons_zero, List.set_cons_succ]
  refine wpE_take (i := 5) (v := .string ⟨v.t.toArray⟩) rfl (by kernel_rfl) (by kernel_rfl) (by kernel_rfl) (by kernel_rfl) (fun _ _ _ h => h) rfl (fun w' hS => by go_simp) hS0 ?_
  try simp only [Act.put, List.setIfInBounds_toArray, List.set_cons_zero, List.set_cons_succ]
  refine wpE_one (i := 3) (by kernel_rfl) rfl rfl (fun K hK => ?_)
  go_simp
  refine (hP _).mono ?_
  rintro e w5 ⟨⟨a5, c5, rfl, h5⟩, hb5'⟩
  have hb5 : Below w0.heap.size w0 w5 := below_undrew hb5'
  have hs5 := hb5.size
  have e5 : w5.cell? ⟨w.heap.size, 2, none⟩ = some (.string ⟨v.t.toArray⟩) := ((bcell hb5).1 _ _ (by omega)).trans d2
  obtain ⟨a6, c6, w6, hr6, h6, hb6⟩ := hAp w5 a5 c5 (by omega) h5
  have e6 : w6.cell? ⟨w.heap.size, 2, none⟩ = some (.string ⟨v.t.toArray⟩) := (World.cell?_of_block (hb6.block _ (show w.heap.size < w0.heap.size by omega))).trans e5
  have hB6 : Below w.heap.size w w6 := hb0.trans ((hb5.mono (by omega)).trans (hb6.mono (by omega)))
  refine hK _ _ (fun _ => e5) ?_
  clear hK K hP hAp
  try simp only [Act.put, List.setIfInBounds_toArray, List.set_cons_zero, List.set_cons_succ]
  refine wpE_one (i := 6) (by kernel_rfl) rfl rfl (fun K hK => ?_)
  refine Lib.wp_append_run _ _ _ 26 9 rfl _ _ rfl rfl _ _ hr6 ?_
  refine hK _ _ (fun _ => e6) ?_
  clear hK K
  try simp only [Act.put, List.setIfInBounds_toArray, List.set_cons_zero, List.set_cons_succ]
  refine wpE_one (i := 7) (by kernel_rfl) rfl rfl (fun K hK => ?_)
  go_simp
  refine hK _ _ (fun _ => e6) ?_
  clear hK K
  try simp only [Act.put, List.setIfInBounds_toArray, List.set_cons_zero, List.set_cons_succ]
  refine wpE_done (by kernel_rfl) ?_
  clear hr6 d0 d1 d2 d3 hW hS0 e5 hb5' hb5
  simp only [Exit.inBlock, Exit.then]
  refine ‹∀ (a : Act) (w : World), _ → _› _ _ ?_
  go_wp2
  go_ret
  exact ⟨⟨a6, c6, rfl, owns_base h6 (by omega)⟩, hB6⟩
end Go.Proofs.YtndahpcjkcihlaaGreat
