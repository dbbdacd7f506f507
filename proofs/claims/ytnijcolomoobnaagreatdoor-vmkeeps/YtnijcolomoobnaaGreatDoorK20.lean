/- Texts of ours, joined: Sb. -/
import Derived.Test.YtnijcolomoobnaaGreatDoorK19
import Derived.Test.YtnijcolomoobnaaGreatDoorK06
namespace Go.Proofs.YtnijcolomoobnaaGreatDoor
open Go.RowKit
set_option linter.unusedVariables false
set_option linter.unusedSimpArgs false
attribute [local go_sem ↓] Go.wp_at_zero Go.wp_at_succ

theorem BoolIs.of {P Q : Prop} {r : Ending} (h : BoolIs P r) (hpq : P ↔ Q) : BoolIs Q r := by
  obtain ⟨b, e, h⟩ := h
  exact ⟨b, e, h.trans hpq⟩
def Prs (l : List V) : Prop := l.length % 2 = 0 ∧ l.length ≤ 128 ∧ Rise l
set_option maxRecDepth 100000 in
set_option maxHeartbeats 4000000 in
theorem arePairs_any {B : Nat → Prop} {l : List V} {ao : Option Addr} {cap : Nat} {w : World} (hl : IsVs B w l (.slice ao l.length cap)) :
    Calls Tryz.prog 37 #[.slice ao l.length cap] w fun r w' => BoolIs (Prs l) r ∧ Below w.heap.size w w' := by
  obtain ⟨ao', cap', e, a1, a2⟩ := hl.slice
  simp only [Value.slice.injEq] at e
  obtain ⟨rfl, -, rfl⟩ := e
  by_cases hodd : l.length % 2 = 1
  · have h1 : Int.tmod (l.length : Int) 2 = 1 := by rw [Int.tmod_eq_emod_of_nonneg (by omega)]; omega
    have h2 : (l.length : Int) % 2 = 1 := by omega
    have hw1 : IntKind.i64.wrap 1 = 1 := by rw [IntKind.wrap_i64]; rfl
    have hno : Hid (¬ Prs l) := fun h => by have := h.1; omega
    clear hl hodd
    go_enter Tryz.func37, Tryz.ntmps37
    go_wp2
    go_ret
    exact ⟨BoolIs.mk (b := false) ⟨fun h => (by cases h), fun h => absurd h hno.out⟩, Below.refl _ _⟩
  have h1 : Int.tmod (l.length : Int) 2 = 0 := by rw [Int.tmod_eq_emod_of_nonneg (by omega)]; omega
  have h2 : (l.length : Int) % 2 = 0 := by omega
  have hw1 : IntKind.i64.wrap 0 = 0 := by rw [IntKind.wrap_i64]; rfl
  by_cases hbig : 64 < (l.length : Int) / 2
  · have h3 : Int.tdiv (l.length : Int) 2 = (l.length : Int) / 2 := by rw [Int.tdiv_eq_ediv_of_nonneg (by omega)]
    have h4 : IntKind.i64.wrap ((l.length : Int) / 2) = (l.length : Int) / 2 := by rw [IntKind.wrap_i64]; omega
    have hno : Hid (¬ Prs l) := fun h => by have := h.2.1; omega
    clear hl hodd
    go_enter Tryz.func37, Tryz.ntmps37
    go_wp2
    go_ret
    exact ⟨BoolIs.mk (b := false) ⟨fun h => (by cases h), fun h => absurd h hno.out⟩, Below.refl _ _⟩
  have h3 : Int.tdiv (l.length : Int) 2 = (l.length : Int) / 2 := by rw [Int.tdiv_eq_ediv_of_nonneg (by omega)]
  have h4 : IntKind.i64.wrap ((l.length : Int) / 2) = (l.length : Int) / 2 := by rw [IntKind.wrap_i64]; omega
  have hsm : l.length ≤ 128 := by omega
  have heven : Hid (l.length % 2 = 0) := by show _ = _; omega
  have hround : ∀ (q : Nat) (wr : World), q < l.length → Below w.heap.size w wr →
      ∃ x g o ax cx, l[q]? = some x ∧ ao = some ⟨g, o, none⟩ ∧ g < wr.heap.size ∧ wr.cell? ⟨g, o + q * 4, none⟩ = some (.int .i64 x.k) ∧ wr.cell? ⟨g, o + q * 4 + 1, none⟩ = some (.int .i64 x.n) ∧ wr.cell? ⟨g, o + q * 4 + 2, none⟩ = some (.string ⟨x.t.toArray⟩) ∧ wr.cell? ⟨g, o + q * 4 + 3, none⟩ = some (.slice ax x.l.length cx) ∧ IsW B wr x (.slice ax x.l.length cx) := by
    intro q wr hq hB
    have hx : l[q]? = some l[q] := List.getElem?_eq_getElem hq
    obtain ⟨g, o, ax, cx, e, _, hg1, c0, c1, c2, c3, hw⟩ := (hl.below hB).get hx
    exact ⟨l[q], g, o, ax, cx, hx, e, hg1, c0, c1, c2, c3, hw⟩
  have Hround : Hid _ := hround
  clear hl hround hodd
  go_enter Tryz.func37, Tryz.ntmps37
  go_wp2_with fail
  go_loopg [3] l.length (fun g i wr => ∃ j m : Nat, Hid (m = 2 * j + 2) ∧ m ≤ l.length + 2 ∧ g = l.length + 2 - m ∧ i = .int .i64 m ∧ Hid (∀ (i : Nat) (a b : V), i < j → l[2 * i]? = some a → l[2 * i + 2]? = some b → cmpV a b < 0) ∧ Below w.heap.size w wr)
  case atStart => exact ⟨0, 2, rfl, by omega, by omega, rfl, fun i a b h => by omega, Below.refl _ _⟩
  case round =>
    obtain ⟨j, m, Hm, hm, rfl, rfl, HQ, hB⟩ := hrel
    by_cases hlt : m < l.length
    · obtain ⟨m', Hm'⟩ : ∃ m' : Nat, Hid (m' = 2 * j) := ⟨_, rfl⟩
      have hmm : m = m' + 2 := by have := Hm.out; have := Hm'.out; omega
      obtain ⟨x, g, o, ax, cx, hx, rfl, hg, x0, x1, x2', x3, hwx⟩ := Hround.out m wr hlt hB
      obtain ⟨p, g', o', ap, cp, hp, e, -, p0, p1, p2, p3, hwp⟩ := Hround.out m' wr (by omega) hB
      simp only [Option.some.injEq, Addr.mk.injEq] at e
      obtain ⟨rfl, rfl, -⟩ := e
      have hltI : (m : Int) < (l.length : Int) := by omega
      have hC3 : ∀ w5, Below wr.heap.size wr w5 → Calls Tryz.prog 78 #[.agg #[.int .i64 p.k, .int .i64 p.n, .string ⟨p.t.toArray⟩, .slice ap p.l.length cp], .agg #[.int .i64 x.k, .int .i64 x.n, .string ⟨x.t.toArray⟩, .slice ax x.l.length cx]] w5 fun r w' => r = .returned (.int .i64 (cmpV p x)) ∧ Below w5.heap.size w5 w' := fun w5 hb5 => compare_any (hwp.below hb5) (hwx.below hb5)
      have Hp : Hid (l[2 * j]? = some p) := by show _ = _; rw [← Hm'.out]; exact hp
      have Hx : Hid (l[2 * j + 2]? = some x) := by show _ = _; rw [← Hm'.out, ← hmm]; exact hx
      have hI0 : (0 : Int) ≤ (m' : Int) := by omega
      have hI1 : (m' : Int) < (l.length : Int) := by omega
      have hI4 : (0 : Int) ≤ (m : Int) := by omega
      have hs22 : (m : Int) - 2 = (m' : Int) := by omega
      have hw22 : IntKind.i64.wrap ((m : Int) - 2) = (m' : Int) := by rw [hs22, IntKind.wrap_i64]; omega
      have hw23 : IntKind.i64.wrap (m' : Int) = (m' : Int) := by rw [IntKind.wrap_i64]; omega
      clear Hround hwp hwx hx hp hmm h1 h2 h3 h4
      go_wp2_with fail
      go_region_held3 (fun w' => w'.cell? ⟨g, o + m' * 4, none⟩ = some (.int .i64 p.k) ∧ w'.cell? ⟨g, o + m' * 4 + 1, none⟩ = some (.int .i64 p.n) ∧ w'.cell? ⟨g, o + m' * 4 + 2, none⟩ = some (.string ⟨p.t.toArray⟩) ∧ w'.cell? ⟨g, o + m' * 4 + 3, none⟩ = some (.slice ap p.l.length cp) ∧ w'.cell? ⟨g, o + m * 4, none⟩ = some (.int .i64 x.k) ∧ w'.cell? ⟨g, o + m * 4 + 1, none⟩ = some (.int .i64 x.n) ∧ w'.cell? ⟨g, o + m * 4 + 2, none⟩ = some (.string ⟨x.t.toArray⟩) ∧ w'.cell? ⟨g, o + m * 4 + 3, none⟩ = some (.slice ax x.l.length cx)) (go_keep)
        ((go_at_call 78; refine (hC3 _ (Below.refl _ _).drew).mono ?_; rintro e w5 ⟨rfl, hb5⟩; replace hb5 := below_undrew hb5; obtain ⟨f3, -⟩ := bcell hb5))
      have hB5 : Below w.heap.size w w5 := hB.trans (hb5.mono hB.size)
      have hge : Hid (cmpV p x < 0 ∨ 0 ≤ cmpV p x) := by show _ ∨ _; omega
      have hneg : Hid (0 ≤ cmpV p x → ¬ Prs l) := fun h0 h => by have := h.2.2 j p x Hp.out Hx.out; omega
      have hpos : Hid (cmpV p x < 0 → ∀ (i : Nat) (a b : V), i < j + 1 → l[2 * i]? = some a → l[2 * i + 2]? = some b → cmpV a b < 0) := fun h0 i a b hi ha hb => by
        by_cases e : i = j
        · subst e
          rw [Hp.out] at ha; rw [Hx.out] at hb
          cases ha; cases hb; exact h0
        · exact HQ.out i a b (by omega) ha hb
      clear f3 hC3 p0 p1 p2 p3 x0 x1 x2' x3 hw22 hs22 Hp Hx HQ
      generalize cmpV p x = c at *
      rcases hge.out with hc | hc
      · have hcI : ¬ (0 : Int) ≤ c := by omega
        have HQ3 : Hid (∀ (i : Nat) (a b : V), i < j + 1 → l[2 * i]? = some a → l[2 * i + 2]? = some b → cmpV a b < 0) := hpos.out hc
        clear hneg hpos hge
        go_wp2_with fail
        go_roundg (l.length + 2 - (m + 2))
        case measure => omega
        case rel => exact ⟨j + 1, m + 2, by have := Hm.out; show _ = _; omega, by omega, rfl, by go_num, HQ3, hB5⟩
      · have hfin : Hid (¬ Prs l) := hneg.out hc
        clear hneg hpos hge
        go_wp2
        go_ret
        exact ⟨BoolIs.mk (b := false) ⟨fun h => (by cases h), fun h => absurd h hfin.out⟩, hB5⟩
    · have hltI : ¬ (m : Int) < (l.length : Int) := by omega
      have hfin : Hid (Prs l) := ⟨heven.out, hsm, fun i a b ha hb => HQ.out i a b (by have := (List.getElem?_eq_some_iff.1 hb).1; have := Hm.out; omega) ha hb⟩
      clear Hround HQ
      go_wp2
      go_ret
      exact ⟨BoolIs.mk (b := true) ⟨fun _ => hfin.out, fun _ => rfl⟩, hB⟩
open Classical in
noncomputable def sdB (v : V) : Bool := decide (Sd v)
theorem sdB_iff {v : V} : sdB v = true ↔ Sd v := by unfold sdB; simp
theorem all_sd {l : List V} : l.all sdB = true ↔ ∀ x ∈ l, Sd x := by simp [List.all_eq_true, sdB_iff]
theorem sd_1 {n : Int} {t : List UInt8} {l : List V} : Sd (.mk 1 n t l) ↔ t = [] ∧ l = [] := by
  rw [sd_iff]
  refine ⟨fun h => ⟨h.2.2.1 (by omega), h.2.2.2.2.1 (by omega)⟩, ?_⟩
  rintro ⟨rfl, rfl⟩
  exact ⟨by omega, by omega, fun _ => rfl, by omega, fun _ => rfl, by omega, by omega, by omega, by omega, by simp⟩
theorem sd_2 {n : Int} {t : List UInt8} {l : List V} : Sd (.mk 2 n t l) ↔ (n = 0 ∨ n = 1) ∧ t = [] ∧ l = [] := by
  rw [sd_iff]
  refine ⟨fun h => ⟨h.2.2.2.2.2.2.1 rfl, h.2.2.1 (by omega), h.2.2.2.2.1 (by omega)⟩, ?_⟩
  rintro ⟨hn, rfl, rfl⟩
  exact ⟨by omega, by omega, fun _ => rfl, by omega, fun _ => rfl, by omega, fun _ => hn, by omega, by omega, by simp⟩
theorem sd_3 {n : Int} {t : List UInt8} {l : List V} : Sd (.mk 3 n t l) ↔ n = 0 ∧ t.length ≤ 256 ∧ l = [] := by
  rw [sd_iff]
  refine ⟨fun h => ⟨h.2.2.2.1 (by omega), h.2.2.2.2.2.2.2.1 rfl, h.2.2.2.2.1 (by omega)⟩, ?_⟩
  rintro ⟨rfl, ht, rfl⟩
  exact ⟨by omega, by omega, fun h => absurd rfl h, fun _ => rfl, fun _ => rfl, by omega, by omega, fun _ => ht, by omega, by simp⟩
theorem sd_4 {n : Int} {t : List UInt8} {l : List V} : Sd (.mk 4 n t l) ↔ n = 0 ∧ t = [] ∧ l.length ≤ 64 ∧ ∀ x ∈ l, Sd x := by
  rw [sd_iff]
  refine ⟨fun h => ⟨h.2.2.2.1 (by omega), h.2.2.1 (by omega), h.2.2.2.2.2.2.2.2.1 rfl, h.2.2.2.2.2.2.2.2.2⟩, ?_⟩
  rintro ⟨rfl, rfl, hl, h⟩
  exact ⟨by omega, by omega, fun _ => rfl, fun _ => rfl, by omega, by omega, by omega, by omega, fun _ => hl, h⟩
theorem sd_5 {n : Int} {t : List UInt8} {l : List V} : Sd (.mk 5 n t l) ↔ n = 0 ∧ t = [] ∧ Prs l ∧ ∀ x ∈ l, Sd x := by
  rw [sd_iff]
  refine ⟨fun h => ⟨h.2.2.2.1 (by omega), h.2.2.1 (by omega), ⟨(h.2.2.2.2.2.1 rfl).2.1, (h.2.2.2.2.2.1 rfl).2.2, (h.2.2.2.2.2.1 rfl).1⟩, h.2.2.2.2.2.2.2.2.2⟩, ?_⟩
  rintro ⟨rfl, rfl, hl, h⟩
  exact ⟨by omega, by omega, fun _ => rfl, fun _ => rfl, by omega, fun _ => ⟨hl.2.2, hl.1, hl.2.1⟩, by omega, by omega, by omega, h⟩
theorem len_bool (l : List V) : (((l.length : Int) == 0) = true ∧ l = []) ∨ (((l.length : Int) == 0) = false ∧ l ≠ []) := by
  cases l
  · exact Or.inl ⟨rfl, rfl⟩
  · exact Or.inr ⟨by simp; omega, by simp⟩
theorem txt_bool (t : List UInt8) : ((t == []) = true ∧ t = []) ∨ ((t == []) = false ∧ t ≠ []) := by
  cases t
  · exact Or.inl ⟨rfl, rfl⟩
  · exact Or.inr ⟨rfl, by simp⟩
theorem num_bool (n m : Int) : ((n == m) = true ∧ n = m) ∨ ((n == m) = false ∧ n ≠ m) := by
  by_cases h : n = m
  · exact Or.inl ⟨by simp [h], h⟩
  · exact Or.inr ⟨by simpa using h, h⟩
theorem bis_no {P : Prop} (h : ¬ P) : BoolIs P (.returned (.bool false)) := ⟨false, rfl, fun e => (by cases e), fun e => absurd e h⟩
theorem bis_yes {P : Prop} (h : P) : BoolIs P (.returned (.bool true)) := ⟨true, rfl, fun _ => h, fun _ => rfl⟩
set_option maxRecDepth 100000 in
set_option maxHeartbeats 4000000 in
theorem formed_any : ∀ (N : Nat) (v : V) (sl : Value) (B : Nat → Prop) (w : World), wt v < N → IsW B w v sl →
    Calls Tryz.prog 22 #[.agg #[.int .i64 v.k, .int .i64 v.n, .string ⟨v.t.toArray⟩, sl]] w fun r w' => BoolIs (Sd v) r ∧ Below w.heap.size w w'
  | 0, v, sl, B, w, h, _ => by omega
  | N + 1, .mk k n t l, sl, B, w, hN, hv => by
    obtain ⟨ao, cap, e, hc1, hc2⟩ := hv.vs.slice
    subst e
    obtain ⟨w0, hW, hb0, hsz, d0, d1, d2, d3⟩ := boxed w (.mk k n t l) (.slice ao l.length cap)
    simp only [V.k, V.n, V.t, V.l] at hW d0 d1 d2 d3 hc1 hc2 ⊢
    have hvl : IsVs B w0 l (.slice ao l.length cap) := hv.vs.below hb0
    have hgb : w.heap.size < w0.heap.size := by omega
    have hih : IsFn1 22 B l sdB := fun x sx w2 hx hxw => by
      have hwt : wt x < N := by rw [wt] at hN; have := wts_in hx; omega
      refine (formed_any N x sx B w2 hwt hxw).mono ?_
      rintro r w' ⟨⟨b, rfl, hb⟩, hbl⟩
      have e : b = sdB x := by rw [Bool.eq_iff_iff, hb, sdB_iff]
      exact ⟨by rw [e], hbl⟩
    have hall : ∀ w2, Below w0.heap.size w0 w2 → Calls Tryz.prog 36 #[.slice ao l.length cap, .func (Fn.func 22) #[] #[]] w2 fun r w' => r = .returned (.bool (l.all sdB)) ∧ Below w2.heap.size w2 w' := fun w2 hb => areAll_any hih enters_formed (hvl.below hb)
    have hprs : ∀ w2, Below w0.heap.size w0 w2 → Calls Tryz.prog 37 #[.slice ao l.length cap] w2 fun r w' => BoolIs (Prs l) r ∧ Below w2.heap.size w2 w' := fun w2 hb => arePairs_any (hvl.below hb)
    clear hih hvl hv hN hsz
    by_cases k1 : k = 1
    · subst k1
      have Hs := @sd_1 n t l
      replace Hs : Hid _ := Hs
      clear hall hprs
      rcases txt_bool t with ⟨et, ct⟩ | ⟨et, ct⟩ <;> rcases len_bool l with ⟨el, cl⟩ | ⟨el, cl⟩
      · have hf : Hid (Sd (.mk 1 n t l)) := Hs.out.2 ⟨ct, cl⟩
        clear ct cl Hs
        go_enter Tryz.func22, Tryz.ntmps22
        go_wp2
        go_ret
        exact ⟨bis_yes hf.out, hb0⟩
      all_goals
        have hf : Hid (¬ Sd (.mk 1 n t l)) := fun h => by obtain ⟨h1, h2⟩ := Hs.out.1 h; contradiction
        clear ct cl Hs
        go_enter Tryz.func22, Tryz.ntmps22
        go_wp2
        go_ret
        exact ⟨bis_no hf.out, hb0⟩
    by_cases k2 : k = 2
    · subst k2
      have Hs := @sd_2 n t l
      replace Hs : Hid _ := Hs
      clear hall hprs k1
      have hn : (((n == 0) = true) ∨ ((n == 0) = false ∧ (n == 1) = true)) ∧ (n = 0 ∨ n = 1) ∨ ((n == 0) = false ∧ (n == 1) = false) ∧ ¬ (n = 0 ∨ n = 1) := by
        rcases num_bool n 0 with ⟨a, b⟩ | ⟨a, b⟩
        · exact Or.inl ⟨Or.inl a, Or.inl b⟩
        · rcases num_bool n 1 with ⟨c, d⟩ | ⟨c, d⟩
          · exact Or.inl ⟨Or.inr ⟨a, c⟩, Or.inr d⟩
          · exact Or.inr ⟨⟨a, c⟩, fun h => by rcases h with h | h <;> contradiction⟩
      rcases hn with ⟨en | ⟨en, en1⟩, cn⟩ | ⟨⟨en, en1⟩, cn⟩ <;> rcases txt_bool t with ⟨et, ct⟩ | ⟨et, ct⟩ <;> rcases len_bool l with ⟨el, cl⟩ | ⟨el, cl⟩
      all_goals
        first
        | (have hf : Hid (Sd (.mk 2 n t l)) := Hs.out.2 ⟨cn, ct, cl⟩
           clear ct cl cn Hs
           go_enter Tryz.func22, Tryz.ntmps22
           go_wp2
           go_ret
           exact ⟨bis_yes hf.out, hb0⟩)
        | (have hf : Hid (¬ Sd (.mk 2 n t l)) := fun h => by obtain ⟨h0, h1, h2⟩ := Hs.out.1 h; contradiction
           clear ct cl cn Hs
           go_enter Tryz.func22, Tryz.ntmps22
           go_wp2
           go_ret
           exact ⟨bis_no hf.out, hb0⟩)
    by_cases k3 : k = 3
    · subst k3
      have Hs := @sd_3 n t l
      replace Hs : Hid _ := Hs
      clear hall hprs k1 k2
      have ht : ((t.length : Int) ≤ 256 ∧ t.length ≤ 256) ∨ (¬ (t.length : Int) ≤ 256 ∧ ¬ t.length ≤ 256) := by omega
      rcases num_bool n 0 with ⟨en, cn⟩ | ⟨en, cn⟩ <;> rcases ht with ⟨et, ct⟩ | ⟨et, ct⟩ <;> rcases len_bool l with ⟨el, cl⟩ | ⟨el, cl⟩
      all_goals
        first
        | (have hf : Hid (Sd (.mk 3 n t l)) := Hs.out.2 ⟨cn, ct, cl⟩
           clear ct cl cn Hs
           go_enter Tryz.func22, Tryz.ntmps22
           go_wp2
           go_ret
           exact ⟨bis_yes hf.out, hb0⟩)
        | (have hf : Hid (¬ Sd (.mk 3 n t l)) := fun h => by obtain ⟨h0, h1, h2⟩ := Hs.out.1 h; contradiction
           clear ct cl cn Hs
           go_enter Tryz.func22, Tryz.ntmps22
           go_wp2
           go_ret
           exact ⟨bis_no hf.out, hb0⟩)
    by_cases k4 : k = 4
    · subst k4
      have Hs := @sd_4 n t l
      replace Hs : Hid _ := Hs
      clear hprs k1 k2 k3
      have ht : ((l.length : Int) ≤ 64 ∧ l.length ≤ 64) ∨ (¬ (l.length : Int) ≤ 64 ∧ ¬ l.length ≤ 64) := by omega
      rcases num_bool n 0 with ⟨en, cn⟩ | ⟨en, cn⟩ <;> rcases txt_bool t with ⟨et, ct⟩ | ⟨et, ct⟩ <;> rcases ht with ⟨el, cl⟩ | ⟨el, cl⟩
      · have hf : Hid (l.all sdB = true ↔ Sd (.mk 4 n t l)) := ⟨fun h => Hs.out.2 ⟨cn, ct, cl, all_sd.1 h⟩, fun h => all_sd.2 (Hs.out.1 h).2.2.2⟩
        have hC := hall w0 (Below.refl _ _)
        clear ct cl cn Hs hall
        generalize l.all sdB = b at *
        go_enter Tryz.func22, Tryz.ntmps22
        go_wp2_with fail
        refine hC.mono ?_
        rintro r w3 ⟨rfl, hb3⟩
        clear hC
        go_wp2
        go_ret
        exact ⟨⟨b, rfl, hf.out⟩, hb0.trans (hb3.mono hb0.size)⟩
      all_goals
        have hf : Hid (¬ Sd (.mk 4 n t l)) := fun h => by obtain ⟨h0, h1, h2, -⟩ := Hs.out.1 h; contradiction
        clear ct cl cn Hs hall
        go_enter Tryz.func22, Tryz.ntmps22
        go_wp2
        go_ret
        exact ⟨bis_no hf.out, hb0⟩
    by_cases k5 : k = 5
    · subst k5
      have Hs := @sd_5 n t l
      replace Hs : Hid _ := Hs
      clear k1 k2 k3 k4
      rcases num_bool n 0 with ⟨en, cn⟩ | ⟨en, cn⟩ <;> rcases txt_bool t with ⟨et, ct⟩ | ⟨et, ct⟩
      · have hf : Hid (l.all sdB = true → Prs l → Sd (.mk 5 n t l)) := fun h h' => Hs.out.2 ⟨cn, ct, h', all_sd.1 h⟩
        have hf1 : Hid (Sd (.mk 5 n t l) → l.all sdB = true ∧ Prs l) := fun h => ⟨all_sd.2 (Hs.out.1 h).2.2.2, (Hs.out.1 h).2.2.1⟩
        have hP := hprs w0 (Below.refl _ _)
        clear ct cn Hs hprs
        generalize l.all sdB = b at *
        go_enter Tryz.func22, Tryz.ntmps22
        go_wp2_with fail
        refine hP.mono ?_
        rintro r w3 ⟨⟨b1, rfl, hb1⟩, hb3⟩
        have Hb1 : Hid (b1 = true ↔ Prs l) := hb1
        have c3 : w3.cell? ⟨w.heap.size, 3, none⟩ = some (.slice ao l.length cap) := ((bcell hb3).1 _ _ hgb).trans d3
        have hg3 : w.heap.size < w3.heap.size := by have := hb3.size; omega
        have hC := hall w3 hb3
        clear hP hb1 hall
        cases b1
        · go_wp2
          go_ret
          exact ⟨bis_no (fun h => by have := Hb1.out.2 (hf1.out h).2; cases this), hb0.trans (hb3.mono hb0.size)⟩
        · go_wp2_with fail
          refine hC.mono ?_
          rintro r w4 ⟨rfl, hb4⟩
          clear hC
          go_wp2
          go_ret
          exact ⟨⟨b, rfl, fun h => hf.out h (Hb1.out.1 (by simp)), fun h => (hf1.out h).1⟩, (hb0.trans (hb3.mono hb0.size)).trans (hb4.mono (Nat.le_trans hb0.size hb3.size))⟩
      all_goals
        have hf : Hid (¬ Sd (.mk 5 n t l)) := fun h => by obtain ⟨h0, h1, h2, -⟩ := Hs.out.1 h; contradiction
        clear ct cn Hs hall hprs
        go_enter Tryz.func22, Tryz.ntmps22
        go_wp2
        go_ret
        exact ⟨bis_no hf.out, hb0⟩
    · have hf : Hid (¬ Sd (.mk k n t l)) := fun h => by rw [sd_iff] at h; omega
      have e1 : (k == 1) = false := by simpa using k1
      have e2 : (k == 2) = false := by simpa using k2
      have e3 : (k == 3) = false := by simpa using k3
      have e4 : (k == 4) = false := by simpa using k4
      have e5 : (k == 5) = false := by simpa using k5
      clear hall hprs
      go_enter Tryz.func22, Tryz.ntmps22
      go_wp2
      go_ret
      exact ⟨bis_no hf.out, hb0⟩
set_option maxRecDepth 100000 in
set_option maxHeartbeats 4000000 in
theorem sound_any {B : Nat → Prop} {v : V} {sl : Value} {w : World} (hv : IsW B w v sl) (hw : wt v ≤ 1000000) :
    Calls Tryz.prog 9 #[.agg #[.int .i64 v.k, .int .i64 v.n, .string ⟨v.t.toArray⟩, sl]] w fun r w' => BoolIs (Snd v) r ∧ Below w.heap.size w w' := by
  obtain ⟨ao, cap, rfl, hc1, hc2⟩ := hv.vs.slice
  obtain ⟨w0, hW, hb0, hsz, d0, d1, d2, d3⟩ := boxed w v (.slice ao v.l.length cap)
  have hgb : w.heap.size < w0.heap.size := by omega
  have hR := room_any _ v _ B w0 16384 (Nat.lt_succ_self _) hw (by omega) (by omega) (hv.below hb0)
  have hF : ∀ w2, Below w0.heap.size w0 w2 → Calls Tryz.prog 22 #[.agg #[.int .i64 v.k, .int .i64 v.n, .string ⟨v.t.toArray⟩, .slice ao v.l.length cap]] w2 fun r w' => BoolIs (Sd v) r ∧ Below w2.heap.size w2 w' := fun w2 hb => formed_any _ v _ B w2 (Nat.lt_succ_self _) ((hv.below hb0).below hb)
  clear hv hw hsz
  go_enter Tryz.func9, Tryz.ntmps9
  go_wp2_with fail
  refine hR.mono ?_
  rintro r w3 ⟨⟨z, rfl, hz⟩, hb3⟩
  obtain ⟨f3, -⟩ := bcell hb3
  have e0 := (f3 _ 0 hgb).trans d0
  have e1 := (f3 _ 1 hgb).trans d1
  have e2 := (f3 _ 2 hgb).trans d2
  have e3 := (f3 _ 3 hgb).trans d3
  have hg3 : w.heap.size < w3.heap.size := by have := hb3.size; omega
  have hz1 : Hid (¬ (wt v : Int) ≤ 16384 → z < 0) := hz.2.1
  have hz2 : Hid ((wt v : Int) ≤ 16384 → 0 ≤ z) := fun h => by have := hz.1 h; omega
  have hFF := hF w3 hb3
  clear hR f3 d0 d1 d2 d3 hz hF
  by_cases hw : (wt v : Int) ≤ 16384
  · have hz0 : (0 : Int) ≤ z := hz2.out hw
    have Hw : Hid (wt v ≤ 16384) := by show _ ≤ _; omega
    clear hz1 hz2 hw
    go_wp2_with fail
    refine hFF.mono ?_
    rintro r w4 ⟨⟨b, rfl, hb⟩, hb4⟩
    have Hb : Hid (b = true ↔ Sd v) := hb
    clear hFF hb
    go_wp2
    go_ret
    exact ⟨⟨b, rfl, fun h => ⟨Hw.out, Hb.out.1 h⟩, fun h => Hb.out.2 h.2⟩, (hb0.trans (hb3.mono hb0.size)).trans (hb4.mono (Nat.le_trans hb0.size hb3.size))⟩
  · have hz0 : ¬ (0 : Int) ≤ z := by have := hz1.out hw; omega
    have Hw : Hid (¬ wt v ≤ 16384) := by show ¬ _; omega
    clear hz1 hz2 hw hFF
    go_wp2
    go_ret
    exact ⟨bis_no (fun h => Hw.out h.1), hb0.trans (hb3.mono hb0.size)⟩
end Go.Proofs.YtnijcolomoobnaaGreatDoor
