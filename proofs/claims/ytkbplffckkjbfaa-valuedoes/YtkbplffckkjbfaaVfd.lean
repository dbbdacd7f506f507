/- Where a map's key stands: the program's find. -/
import Derived.Test.YtkbplffckkjbfaaVc
import Derived.Test.YtkbplffckkjbfaaMp
import Derived.Deep.LoopGhost
import Derived.Deep.RegionWith
import Derived.Deep.RegionHeld3
import Derived.Deep.DrawnRows
namespace Go.Proofs.Ytkbplffckkjbfaa
open Go.RowKit
set_option linter.unusedVariables false
set_option linter.unusedSimpArgs false
attribute [local go_sem ↓] Go.wp_at_zero Go.wp_at_succ

set_option maxRecDepth 100000 in
set_option maxHeartbeats 1000000 in
theorem fcl_any {B : Nat → Prop} {k x : V} {ak al : Option Addr} {ck cl i gk gm : Nat} {l : List V} {w : World} (hk : IsW B w k (.slice ak k.l.length ck)) (hl : IsVs B w l (.slice al l.length cl)) (hx : l[2 * i]? = some x) (hi : l.length ≤ 1000000)
    (k0 : w.cell? ⟨gk, 0, none⟩ = some (.int .i64 k.k)) (k1 : w.cell? ⟨gk, 1, none⟩ = some (.int .i64 k.n)) (k2 : w.cell? ⟨gk, 2, none⟩ = some (.string ⟨k.t.toArray⟩)) (k3 : w.cell? ⟨gk, 3, none⟩ = some (.slice ak k.l.length ck)) (m3 : w.cell? ⟨gm, 3, none⟩ = some (.slice al l.length cl)) (hgk : gk < w.heap.size) (hgm : gm < w.heap.size) :
    Calls Try.prog 81 #[.int .i64 i, .pointer (some ⟨gk, 0, none⟩), .pointer (some ⟨gm, 0, none⟩)] w fun r w' => r = .returned (.int .i64 (cmpV k x)) ∧ Below w.heap.size w w' := by
  obtain ⟨g, o, ax, cx, rfl, _, hg, c0, c1, c2, c3, hw⟩ := hl.get hx
  have hlt := (List.getElem?_eq_some_iff.1 hx).1
  have hC : ∀ w2, Below w.heap.size w w2 → Calls Try.prog 24 #[.agg #[.int .i64 k.k, .int .i64 k.n, .string ⟨k.t.toArray⟩, .slice ak k.l.length ck], .agg #[.int .i64 x.k, .int .i64 x.n, .string ⟨x.t.toArray⟩, .slice ax x.l.length cx]] w2 fun r w' => r = .returned (.int .i64 (cmpV k x)) ∧ Below w2.heap.size w2 w' := fun w2 hb => compare_any (hk.below hb) (hw.below hb)
  obtain ⟨al', cl', e, a1, a2⟩ := hl.slice
  simp only [Value.slice.injEq] at e
  obtain ⟨-, -, rfl⟩ := e
  clear hk hl hw hx
  generalize l.length = n at *
  obtain ⟨m, Hm⟩ : ∃ m : Nat, 2 * i = m := ⟨_, rfl⟩
  have hgo : IntKind.i64.wrap ((2 : Int) * (i : Int)) = (m : Int) := by rw [IntKind.wrap_i64]; omega
  have hgo2 : (2 : Int) * (i : Int) = (m : Int) := by omega
  have hgo3 : IntKind.i64.wrap (m : Int) = (m : Int) := by rw [IntKind.wrap_i64]; omega
  have h1 : (m : Int) < (n : Int) := by omega
  have h0 : (0 : Int) ≤ (m : Int) := by omega
  rw [Hm] at c0 c1 c2 c3 hlt
  clear Hm
  go_enter Try.func81, Try.ntmps81
  go_wp2_with fail
  go_region_held3 (fun w' => w'.cell? ⟨gk, 0, none⟩ = some (.int .i64 k.k) ∧ w'.cell? ⟨gk, 1, none⟩ = some (.int .i64 k.n) ∧ w'.cell? ⟨gk, 2, none⟩ = some (.string ⟨k.t.toArray⟩) ∧ w'.cell? ⟨gk, 3, none⟩ = some (.slice ak k.l.length ck) ∧ w'.cell? ⟨gm, 3, none⟩ = some (.slice (some ⟨g, o, none⟩) n cl) ∧ w'.cell? ⟨g, o + m * 4, none⟩ = some (.int .i64 x.k) ∧ w'.cell? ⟨g, o + m * 4 + 1, none⟩ = some (.int .i64 x.n) ∧ w'.cell? ⟨g, o + m * 4 + 2, none⟩ = some (.string ⟨x.t.toArray⟩) ∧ w'.cell? ⟨g, o + m * 4 + 3, none⟩ = some (.slice ax x.l.length cx)) (go_keep)
    ((go_at_call 24; refine (hC _ (Below.refl _ _).drew).mono ?_; rintro e w3 ⟨rfl, hb3⟩; replace hb3 := below_undrew hb3; obtain ⟨f3, -⟩ := bcell hb3))
  clear hC f3 c0 c1 c2 c3 k0 k1 k2 k3 m3
  go_wp2
  go_ret
  exact ⟨rfl, hb3⟩
set_option maxRecDepth 100000 in
set_option maxHeartbeats 1000000 in
theorem sfind_any {w : World} {n : Nat} {pk pm : Value} {f : Nat → Int} (hf : ∀ (i : Nat) (wr : World), i < n → Below w.heap.size w wr → Calls Try.prog 81 #[.int .i64 i, pk, pm] wr fun r w' => r = .returned (.int .i64 (f i)) ∧ Below wr.heap.size wr w') (hn : n ≤ 1000000) :
    Calls Try.prog 80 #[.int .i64 n, .func (Fn.func 81) #[] #[pk, pm]] w fun r w' => (∃ i : Nat, i ≤ n ∧ (0 < i → 0 < f (i - 1)) ∧ (i < n → f i ≤ 0) ∧ r = .returned (.tuple #[.int .i64 i, .bool (decide (i < n) && decide (f i = 0))])) ∧ Below w.heap.size w w' := by
  go_enter Try.func80, Try.ntmps80
  go_wp2_with fail
  go_loopg [4, 6] n (fun g i j wr => ∃ a b : Nat, a ≤ b ∧ b ≤ n ∧ g = b - a ∧ i = .int .i64 a ∧ j = .int .i64 b ∧ Hid ((0 < a → 0 < f (a - 1)) ∧ (b < n → f b ≤ 0)) ∧ Below w.heap.size w wr)
  case atStart => exact ⟨0, n, Nat.zero_le _, Nat.le_refl _, rfl, rfl, rfl, ⟨fun h => by omega, fun h => by omega⟩, Below.refl _ _⟩
  case round =>
    obtain ⟨a, b, hab, hbn, rfl, rfl, rfl, HA, hB⟩ := hrel
    by_cases hlt : a < b
    · have hltI : (a : Int) < (b : Int) := by omega
      obtain ⟨c, Hc⟩ : ∃ c : Nat, (a + b) / 2 = c := ⟨_, rfl⟩
      have hcn : c < n := by omega
      have hcall := hf c wr hcn hB
      have hc2 : ((a : Int) + (b : Int)) / 2 = (c : Int) := by omega
      have Hc' : Hid ((a + b) / 2 = c) := Hc
      clear Hc
      go_wp2_with fail
      try simp only [hc2]
      refine hcall.mono ?_
      rintro e w3 ⟨rfl, hb3⟩
      have hB3 : Below w.heap.size w w3 := hB.trans (hb3.mono hB.size)
      clear hcall hc2
      by_cases hz : 0 < f c
      · have hg : Hid (b - (c + 1) < b - a ∧ c + 1 ≤ b) := by have := Hc'.out; constructor <;> omega
        have HA2 : Hid ((0 < c + 1 → 0 < f (c + 1 - 1)) ∧ (b < n → f b ≤ 0)) := ⟨fun _ => by simpa using hz, HA.out.2⟩
        generalize f c = z at *
        go_wp2_with fail
        go_roundg (b - (c + 1))
        case measure => exact hg.out.1
        case rel => exact ⟨c + 1, b, hg.out.2, hbn, rfl, by go_num, rfl, HA2, hB3⟩
      · have hg : Hid (c - a < b - a ∧ a ≤ c) := by have := Hc'.out; constructor <;> omega
        have HA2 : Hid ((0 < a → 0 < f (a - 1)) ∧ (c < n → f c ≤ 0)) := ⟨HA.out.1, fun _ => by omega⟩
        obtain ⟨z, hzz⟩ : ∃ z, Hid (f c = z) := ⟨_, rfl⟩
        rw [hzz.out] at hz ⊢
        go_wp2_with fail
        go_roundg (c - a)
        case measure => exact hg.out.1
        case rel => exact ⟨a, c, hg.out.2, by omega, rfl, rfl, rfl, HA2, hB3⟩
    · have hltI : ¬ (a : Int) < (b : Int) := by omega
      obtain rfl : a = b := by omega
      by_cases han : a < n
      · have hanI : (a : Int) < (n : Int) := by omega
        have hcall := hf a wr han hB
        have hfin : Hid (a ≤ n ∧ (0 < a → 0 < f (a - 1)) ∧ (a < n → f a ≤ 0)) := ⟨hbn, HA.out.1, HA.out.2⟩
        clear hf HA
        go_wp2_with fail
        refine hcall.mono ?_
        rintro e w3 ⟨rfl, hb3⟩
        have hB3 : Below w.heap.size w w3 := hB.trans (hb3.mono hB.size)
        clear hcall
        obtain ⟨z, hz⟩ : ∃ z, Hid (f a = z) := ⟨_, rfl⟩
        rw [hz.out]
        go_wp2
        go_ret2
        exact ⟨⟨a, hfin.out.1, hfin.out.2.1, hfin.out.2.2, by rw [hz.out]; by_cases h : z = 0 <;> simp [han, h]⟩, hB3⟩
      · have hanI : ¬ (a : Int) < (n : Int) := by omega
        have hfin : Hid (a ≤ n ∧ (0 < a → 0 < f (a - 1)) ∧ (a < n → f a ≤ 0)) := ⟨hbn, HA.out.1, HA.out.2⟩
        clear hf HA
        go_wp2
        go_ret2
        exact ⟨⟨a, hfin.out.1, hfin.out.2.1, hfin.out.2.2, by simp [han]⟩, hB⟩
end Go.Proofs.Ytkbplffckkjbfaa
