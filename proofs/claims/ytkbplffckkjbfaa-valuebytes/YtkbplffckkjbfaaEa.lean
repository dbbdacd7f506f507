/- Numbers as bytes: the document's. -/
import Derived.Test.YtkbplffckkjbfaaDa
import Derived.Test.YtkbplffckkjbfaaVwn
import Derived.Test.YtkbplffckkjbfaaDva
namespace Go.Proofs.Ytkbplffckkjbfaa
open Go.RowKit
set_option linter.unusedVariables false
set_option linter.unusedSimpArgs false

/-- What append asks of a slice of bytes. -/
theorem IsB.news {B : Nat → Prop} {w : World} {ao : Option Addr} {n cap : Nat} {bs : List UInt8} (h : IsB B w (.slice ao n cap) bs) : (ao = none → bs.length = 0 ∧ cap = 0) ∧ ∀ b, ao = some b → ∀ j u, (c8 bs)[j]? = some u → w.cell? (b.add j) = some u := by
  obtain ⟨ao', cap', h1, h2, h3, h5, h4⟩ := h
  simp only [Value.slice.injEq] at h1
  obtain ⟨rfl, -, rfl⟩ := h1
  refine ⟨fun hn => ⟨by have := h5 hn; omega, h5 hn⟩, fun b hb j u hu => ?_⟩
  unfold c8 at hu
  rw [List.getElem?_map] at hu
  obtain ⟨c, hc, rfl⟩ := Option.map_eq_some_iff.1 hu
  obtain ⟨g, o, e1, e2, e3, e4⟩ := h4 (by rintro rfl; simp at hc)
  rw [hb] at e1
  obtain rfl := Option.some.inj e1
  have := e4 j c hc
  by_cases h0 : j = 0
  · subst h0; simpa [Addr.add] using this
  · simpa [Addr.add, h0] using this
theorem IsB.len {B : Nat → Prop} {w : World} {ao : Option Addr} {n cap : Nat} {bs : List UInt8} (h : IsB B w (.slice ao n cap) bs) : n = bs.length := by
  obtain ⟨ao', cap', h1, -⟩ := h
  simp only [Value.slice.injEq] at h1
  exact h1.2.1
/-- append([]byte{}, b...) behind the empty row that was just laid down. -/
theorem fresh8 {B : Nat → Prop} {w : World} {ao : Option Addr} {cap : Nat} {bs : List UInt8} (h : IsB B w (.slice ao bs.length cap) bs) (hl : bs.length ≤ 1000000) :
    ∃ wa a1 c1 w', w.alloc (.cells #[] 5) = wa ∧ (Builtin.append_ #[52, 52] 52 #[.slice (some ⟨w.heap.size, 0, none⟩) 0 0, .slice ao bs.length cap]).run Try.prog wa = .ok (.slice a1 bs.length c1) w' ∧ Own8 w' w.heap.size a1 c1 bs ∧ Below w.heap.size w w' := by
  obtain ⟨wa, hWa⟩ : ∃ wa, w.alloc (.cells #[] 5) = wa := ⟨_, rfl⟩
  have hba : Below w.heap.size w wa := by rw [← hWa]; exact (Below.refl _ _).alloc (Nat.le_refl _) _
  have hown : wa.ownsRow w.heap.size 5 1 (.slice (some ⟨w.heap.size, 0, none⟩) 0 0) 0 [] := by
    rw [← hWa]
    exact ⟨rfl, Or.inr ⟨w.heap.size, 0, #[], rfl, Nat.le_refl _, heap_new _ _, Nat.le_refl _, by unfold maxLen; omega, rfl, rfl⟩⟩
  obtain ⟨n1, n2⟩ := (h.since (Since.of_below hba)).news
  obtain ⟨ao', cap', w', hr, ho, hb', _⟩ := app_run Try.underlying52 byteInfo rfl (by decide) 52 (news := c8 bs) hown n1 (by rw [c8_len]; omega) n2 (c8_one _) (by omega) (by decide) hba.size
  have hz : 0 + bs.length = bs.length := by omega
  rw [hz] at hr ho
  exact ⟨wa, ao', cap', w', hWa, hr, ho, hba.trans hb'⟩
set_option maxRecDepth 100000 in
set_option maxHeartbeats 1000000 in
theorem rput_any {B : Nat → Prop} {w : World} {sl : Value} {bs : List UInt8} (h : IsB B w sl bs) (hl : bs.length ≤ 900000) {x : Nat} (hx : x ≤ 9223372036854775807) :
    Calls Try.prog 84 #[sl, .int .i64 x] w fun r w' => OutB w.heap.size w (bs ++ num x) r w' := by
  obtain ⟨ao, cap, rfl, -, -⟩ := h.slice
  obtain ⟨wa, a1, c1, w1, hWa, hr1, ho1, hb1⟩ := fresh8 h (by omega)
  have hlen := num_len10 hx
  have hx0 : ¬ (x : Int) < 0 := by omega
  clear h
  go_enter Try.func84, Try.ntmps84
  go_wp2_with (at_builtin; refine Lib.wpList_append_run _ rfl _ _ 52 52 rfl _ _ rfl rfl _ _ hr1 ?_)
  clear hr1 hWa
  go_loopg [1, 5] x (fun g i s wr => ∃ (pre : List UInt8) (z : Nat) (ao : Option Addr) (cap : Nat), z = g ∧ z ≤ 9223372036854775807 ∧ Hid (num x = pre ++ num z) ∧ pre.length ≤ 8 ∧ s = .slice ao (bs.length + pre.length) cap ∧ i = .int .i64 z ∧ Hid (wr.ownsRow w.heap.size 5 1 (.slice ao (bs.length + pre.length) cap) (bs.length + pre.length) (c8 (bs ++ pre))) ∧ Below w.heap.size w wr)
  case atStart => exact ⟨[], x, a1, c1, rfl, hx, rfl, by simp, rfl, rfl, by show w1.ownsRow _ _ _ _ _ _; simpa using ho1, hb1⟩
  case round =>
    clear ho1 hb1
    obtain ⟨pre, z, ao, cap, rfl, hz, HN, hpl, rfl, rfl, HO, hB⟩ := hrel
    by_cases hlt : z < 128
    · have hzI : ¬ (128 : Int) ≤ (z : Int) := by omega
      obtain ⟨ao', cap', w', hr, ho, hb⟩ := app8 (b := UInt8.ofNat z) HO.out (by omega) (by have := hB.size; omega)
      clear HO
      have hbyte : ((UInt8.ofNat z).toNat : Int) = (z : Int) := by
        rw [UInt8.toNat_ofNat_of_lt' (by show z < 256; omega)]
      rw [hbyte] at hr
      have hl1 : (num x).length = pre.length + 1 := by rw [HN.out, num_lt hlt]; simp
      have hfin : OutB w.heap.size w (bs ++ num x) (.returned (.slice ao' (bs.length + pre.length + 1) cap')) w' := by
        have e : (bs ++ num x).length = bs.length + pre.length + 1 := by simp; omega
        refine ⟨⟨ao', cap', by rw [e], ?_⟩, hB.trans hb⟩
        show w'.ownsRow _ _ _ _ _ _
        rw [e, HN.out, num_lt hlt, ← List.append_assoc]
        exact ho
      clear hl1 ho
      go_wp2_with (at_builtin; refine Lib.wpList_append_run _ rfl _ _ 52 52 rfl _ _ rfl rfl _ _ hr ?_)
      go_ret
      exact hfin
    · have hzI : (128 : Int) ≤ (z : Int) := by omega
      obtain ⟨ao', cap', w', hr, ho, hb⟩ := app8 (b := UInt8.ofNat (z % 128 + 128)) HO.out (by omega) (by have := hB.size; omega)
      clear HO
      have hbyte : ((UInt8.ofNat (z % 128 + 128)).toNat : Int) = (z : Int) % 128 + 128 := by
        rw [UInt8.toNat_ofNat_of_lt' (by show z % 128 + 128 < 256; omega)]; omega
      rw [hbyte] at hr
      have hm1 : (0 : Int) ≤ (z : Int) % 128 := by omega
      have hm2 : (z : Int) % 128 < 128 := by omega
      go_wp2_with (at_builtin; refine Lib.wpList_append_run _ rfl _ _ 52 52 rfl _ _ rfl rfl _ _ hr ?_)
      have hl1 : (num x).length = pre.length + (num z).length := by rw [HN.out]; simp
      have hl2 : 2 ≤ (num z).length := by
        have := num_len10 (n := z / 128) (by omega)
        rw [num_ge hlt]; simp; omega
      have HN2 : Hid (num x = (pre ++ [UInt8.ofNat (z % 128 + 128)]) ++ num (z / 128)) := by
        show _ = _
        rw [HN.out, num_ge hlt]; simp
      have HO2 : Hid (w'.ownsRow w.heap.size 5 1 (.slice ao' (bs.length + (pre ++ [UInt8.ofNat (z % 128 + 128)]).length) cap') (bs.length + (pre ++ [UInt8.ofNat (z % 128 + 128)]).length) (c8 (bs ++ (pre ++ [UInt8.ofNat (z % 128 + 128)])))) := by
        show w'.ownsRow _ _ _ _ _ _
        rw [List.length_append, List.length_singleton, ← List.append_assoc]
        exact ho
      have hdiv : ((z / 128 : Nat) : Int) = (z : Int) / 128 := by omega
      go_roundg (z / 128)
      case measure => omega
      case rel => exact ⟨pre ++ [UInt8.ofNat (z % 128 + 128)], z / 128, ao', cap', rfl, by omega, HN2, by simp; omega, by simp; omega, by rw [hdiv], HO2, hB.trans hb⟩
end Go.Proofs.Ytkbplffckkjbfaa
namespace Go.Proofs.Ytkbplffckkjbfaa
open Go.RowKit
set_option linter.unusedVariables false
set_option linter.unusedSimpArgs false

/-- The number of these digits. -/
def dg : List UInt8 → Nat
  | [] => 0
  | c :: r => c.toNat % 128 + 128 * dg r
theorem dg_lt : ∀ l : List UInt8, dg l < 128 ^ l.length
  | [] => by simp [dg]
  | c :: r => by
    have := dg_lt r
    rw [dg, List.length_cons, pow_succ128]
    omega
theorem tkL_high : ∀ (bs : List UInt8) (i x : Nat), (∀ j c, bs[j]? = some c → i + j < 9 → 128 ≤ c.toNat) → tkL i x bs = (0, 0)
  | [], i, x, h => rfl
  | c :: r, i, x, h => by
    rw [tkL]
    by_cases h9 : 9 ≤ i
    · rw [if_pos h9]
    · rw [if_neg h9, if_pos (h 0 c rfl (by omega))]
      exact tkL_high r (i + 1) _ (fun j d hj hi => h (j + 1) d (by simpa using hj) (by omega))
theorem tkL_end : ∀ (q : Nat) (bs : List UInt8) (i x : Nat) (c : UInt8), (∀ j d, bs[j]? = some d → j < q → 128 ≤ d.toNat) → bs[q]? = some c → c.toNat < 128 → i + q ≤ 8 →
    tkL i x bs = if c.toNat = 0 ∧ 0 < i + q then (0, 0) else (x + dg (bs.take (q + 1)) * 128 ^ i, i + q + 1)
  | 0, [], i, x, c, _, h, _, _ => by simp at h
  | 0, d :: r, i, x, c, hl, h, hc, hi => by
    simp only [List.getElem?_cons_zero, Option.some.injEq] at h
    subst h
    rw [tkL, if_neg (by omega), if_neg (by omega)]
    simp [dg]
  | q + 1, [], i, x, c, _, h, _, _ => by simp at h
  | q + 1, d :: r, i, x, c, hl, h, hc, hi => by
    have ih := tkL_end q r (i + 1) (x + d.toNat % 128 * 128 ^ i) c (fun j e hj hq => hl (j + 1) e (by simpa using hj) (by omega)) (by simpa using h) hc (by omega)
    rw [tkL, if_neg (by omega), if_pos (hl 0 d rfl (by omega)), ih]
    have e1 : i + 1 + q = i + (q + 1) := by omega
    rw [e1]
    congr 1
    simp only [Prod.mk.injEq, and_true]
    rw [List.take_succ_cons, dg, pow_succ128, Nat.add_mul, Nat.mul_comm 128 (dg _), Nat.mul_assoc (dg _) 128, Nat.mul_comm 128 (128 ^ i)]
    omega
theorem tk_high {bs : List UInt8} (h : ∀ j c, bs[j]? = some c → j < 9 → 128 ≤ c.toNat) : tk bs = (0, 0) := tkL_high bs 0 0 (fun j c hj hi => h j c hj (by omega))
theorem tk_end {q : Nat} {bs : List UInt8} {c : UInt8} (h1 : ∀ j d, bs[j]? = some d → j < q → 128 ≤ d.toNat) (h2 : bs[q]? = some c) (h3 : c.toNat < 128) (h4 : q ≤ 8) : tk bs = if c.toNat = 0 ∧ 0 < q then (0, 0) else (dg (bs.take (q + 1)), q + 1) := by
  have := tkL_end q bs 0 0 c h1 h2 h3 (by omega)
  unfold tk
  rw [this]
  simp
theorem dg_drop {l : List UInt8} {p : Nat} {c : UInt8} (h : l[p]? = some c) : dg (l.drop p) = dg (l.drop (p + 1)) * 128 + c.toNat % 128 := by
  obtain ⟨hi, rfl⟩ := List.getElem?_eq_some_iff.1 h
  rw [List.drop_eq_getElem_cons hi, dg]; omega
end Go.Proofs.Ytkbplffckkjbfaa
namespace Go.Proofs.Ytkbplffckkjbfaa
open Go.RowKit
set_option linter.unusedVariables false
set_option linter.unusedSimpArgs false

set_option maxRecDepth 100000 in
set_option maxHeartbeats 2000000 in
theorem rtake_any {B : Nat → Prop} {w : World} {sl : Value} {bs : List UInt8} (hb : IsB B w sl bs) (hl : bs.length ≤ 1000000) :
    Calls Try.prog 101 #[sl] w fun r w' => r = .returned (.tuple #[.int .i64 ((tk bs).1 : Nat), .int .i64 ((tk bs).2 : Nat)]) ∧ w' = w := by
  obtain ⟨ao, cap, rfl, hc1, hc2, -, hcell⟩ := hb
  go_enter Try.func101, Try.ntmps101
  go_wp2_with fail
  go_loopg [4] bs.length (fun g i wr => ∃ q : Nat, q ≤ bs.length ∧ g = bs.length - q ∧ i = .int .i64 q ∧ Hid (∀ j d, bs[j]? = some d → j < q → 128 ≤ d.toNat) ∧ wr = w)
  case atStart => exact ⟨0, by omega, rfl, rfl, fun j d _ h => by omega, rfl⟩
  case round =>
    obtain ⟨q, hq, rfl, rfl, HT, rfl⟩ := hrel
    by_cases hlt : q < bs.length
    · have hltI : (q : Int) < (bs.length : Int) := by omega
      have hgeI : ¬ (bs.length : Int) ≤ (q : Int) := by omega
      have hq0 : (0 : Int) ≤ (q : Int) := by omega
      obtain ⟨g, o, rfl, hBg, hgl, hc⟩ := hcell (by intro e; rw [e] at hlt; simp at hlt)
      have hcq := hc q bs[q] (List.getElem?_eq_getElem hlt)
      have hgq : Hid (bs[q]? = some bs[q]) := List.getElem?_eq_getElem hlt
      have hcl := bs[q].toNat_lt
      generalize bs[q] = c at *
      by_cases h128 : 128 ≤ c.toNat
      · have hcI : (128 : Int) ≤ (c.toNat : Int) := by omega
        have HT2 : Hid (∀ j d, bs[j]? = some d → j < q + 1 → 128 ≤ d.toNat) := by
          intro j d hj hjq
          by_cases e : j = q
          · subst e; rw [hgq.out] at hj; obtain rfl := Option.some.inj hj; exact h128
          · exact HT.out j d hj (by omega)
        clear HT hgq hc hcell
        go_wp2_with fail
        go_roundg (bs.length - (q + 1))
        case measure => omega
        case rel => exact ⟨q + 1, by omega, rfl, by go_num, HT2, rfl⟩
      · have hcI : ¬ (128 : Int) ≤ (c.toNat : Int) := by omega
        by_cases h9 : 9 ≤ q
        · have h9I : (9 : Int) ≤ (q : Int) := by omega
          have HF : Hid (tk bs = (0, 0)) := tk_high (fun j d hj h => HT.out j d hj (by omega))
          clear HT hgq hc hcell
          go_wp2
          go_ret2
          exact ⟨by rw [HF.out]; rfl, rfl⟩
        have h9I : ¬ (9 : Int) ≤ (q : Int) := by omega
        have HF : Hid (tk bs = if c.toNat = 0 ∧ 0 < q then (0, 0) else (dg (bs.take (q + 1)), q + 1)) := tk_end HT.out hgq.out (by omega) (by omega)
        have hend : Hid (∀ (P : Prop), (c.toNat = 0 ∧ 0 < q → P) → P → P) := fun P _ h => h
        have main : ¬ (c.toNat = 0 ∧ 0 < q) → tk bs = (dg (bs.take (q + 1)), q + 1) := fun h => by rw [HF.out, if_neg h]
        by_cases hz : c.toNat = 0 ∧ 0 < q
        · obtain ⟨z1, z2⟩ := hz
          have hqI : (0 : Int) < (q : Int) := by omega
          have hcz : ((c.toNat : Int) == 0) = true := by simp [z1]
          have HF2 : Hid (tk bs = (0, 0)) := by show _ = _; rw [HF.out, if_pos ⟨z1, z2⟩]
          clear HT hgq hc hcell HF main hend z1
          go_wp2
          go_ret2
          exact ⟨by rw [HF2.out]; rfl, rfl⟩
        · have HF2 : Hid (tk bs = (dg (bs.take (q + 1)), q + 1)) := main hz
          have hcells : Hid (∀ (p : Nat) (d : UInt8), bs[p]? = some d → wr.cell? ⟨g, o + p, none⟩ = some (.int .u8 d.toNat)) := hc
          have hfin : ∀ (Q : Prop), (∀ (p : Nat), p ≤ q + 1 → True) → Q → Q := fun Q _ h => h
          have hcz : (decide ((0 : Int) < (q : Int)) && ((c.toNat : Int) == 0)) = false := by
            by_cases h0 : 0 < q
            · have : c.toNat ≠ 0 := fun e => hz ⟨e, h0⟩
              simp; intro; omega
            · simp; omega
          clear HT hgq hc hcell HF main hend hz hfin
          by_cases h0 : 0 < q
          all_goals
            have h0I : (0 : Int) < (q : Int) ∨ ¬ (0 : Int) < (q : Int) := by omega
            first
              | (have hqI : (0 : Int) < (q : Int) := by omega
                 have hcb : ((c.toNat : Int) == 0) = false := by
                   simp only [decide_eq_true hqI, Bool.true_and] at hcz; exact hcz
                 clear hcz h0I
                 go_wp2_with fail)
              | (have hqI : ¬ (0 : Int) < (q : Int) := by omega
                 clear hcz h0I
                 go_wp2_with fail)
            go_loopg [5, 6] (q + 1) (fun g x i wr' => ∃ p : Nat, p ≤ q + 1 ∧ p = g ∧ i = .int .i64 ((p : Int) - 1) ∧ x = .int .i64 (dg ((bs.take (q + 1)).drop p) : Nat) ∧ wr' = wr)
            case atStart =>
              exact ⟨q + 1, Nat.le_refl _, rfl, by go_num, by rw [List.drop_of_length_le (by simp; omega)]; rfl, rfl⟩
            case round =>
              obtain ⟨p, hp, rfl, rfl, rfl, rfl⟩ := hrel
              by_cases hp0 : 0 < p
              · obtain ⟨p, rfl⟩ : ∃ p', p = p' + 1 := ⟨p - 1, by omega⟩
                have hpb : p < bs.length := by omega
                have hd := hcells.out p bs[p] (List.getElem?_eq_getElem hpb)
                have hdr : Hid (dg ((bs.take (q + 1)).drop p) = dg ((bs.take (q + 1)).drop (p + 1)) * 128 + bs[p].toNat % 128) := dg_drop (by rw [List.getElem?_take, if_pos (by omega)]; exact List.getElem?_eq_getElem hpb)
                have hdl := bs[p].toNat_lt
                have hbd : dg ((bs.take (q + 1)).drop (p + 1)) ≤ 72057594037927935 := by
                  have h1 := dg_lt ((bs.take (q + 1)).drop (p + 1))
                  have h2 : ((bs.take (q + 1)).drop (p + 1)).length ≤ 8 := by simp; omega
                  have h3 : (128 : Nat) ^ ((bs.take (q + 1)).drop (p + 1)).length ≤ 128 ^ 8 := Nat.pow_le_pow_right (by omega) h2
                  have h4 : (128 : Nat) ^ 8 = 72057594037927936 := by decide
                  omega
                generalize bs[p] = d at *
                generalize hX : dg ((bs.take (q + 1)).drop (p + 1)) = X at *
                have hi1 : (((p + 1 : Nat) : Int) - 1) = (p : Int) := by omega
                rw [hi1]
                have hp1 : (0 : Int) ≤ (p : Int) := by omega
                have hp2 : (p : Int) < (bs.length : Int) := by omega
                have hXI : (X : Int) ≤ 72057594037927935 := by omega
                have hX0 : (0 : Int) ≤ (X : Int) := by omega
                clear hX hcells
                go_wp2_with fail
                go_roundg p
                case measure => omega
                case rel => exact ⟨p, by omega, rfl, by go_num, by rw [hdr.out]; go_num, rfl⟩
              · obtain rfl : p = 0 := by omega
                clear hcells
                go_wp2
                go_ret2
                exact ⟨by rw [HF2.out]; simp, rfl⟩
    · have hltI : ¬ (q : Int) < (bs.length : Int) := by omega
      have hgeI : (bs.length : Int) ≤ (q : Int) := by omega
      have HF : Hid (tk bs = (0, 0)) := tk_high (fun j d hj h => HT.out j d hj (by have := (List.getElem?_eq_some_iff.1 hj).1; omega))
      clear HT hcell
      go_wp2
      go_ret2
      exact ⟨by rw [HF.out]; rfl, rfl⟩
end Go.Proofs.Ytkbplffckkjbfaa
namespace Go.Proofs.Ytkbplffckkjbfaa
open Go.RowKit
set_option linter.unusedVariables false
set_option linter.unusedSimpArgs false

/-- The document's reader, and what it has left; nothing: bad. -/
def RdD (w : World) (r : Nat) (st : RSt) : Prop := ∃ sl bs, w.heap[r]? = some (.cells #[sl, .bool st.isNone] 79 (0, 0)) ∧ IsB (fun j => j < r) w sl bs ∧ ∀ b, st = some b → bs = b
theorem RdD.keep {w w' : World} {r : Nat} {st : RSt} (h : RdD w r st) (hb : Below w.heap.size w w') : RdD w' r st := by
  obtain ⟨sl, bs, h1, h2, h3⟩ := h
  exact ⟨sl, bs, (hb.block r (Array.getElem?_eq_some_iff.1 h1).1).trans h1, h2.since (Since.of_below hb), h3⟩
theorem RdD.up {w w' : World} {r : Nat} {st : RSt} (h : RdD w r st) (hk : ∀ k, k ≤ r → w'.heap[k]? = w.heap[k]?) (hs : w.heap.size ≤ w'.heap.size) : RdD w' r st := by
  obtain ⟨sl, bs, h1, h2, h3⟩ := h
  exact ⟨sl, bs, (hk r (Nat.le_refl _)).trans h1, h2.since ⟨hs, fun k hk1 _ => hk k (Nat.le_of_lt hk1)⟩, h3⟩
theorem RdD.setCell {w : World} {r g : Nat} {st : RSt} (h : RdD w r st) (hg : r < g) (o : Nat) (x : Value) : RdD (w.setCell ⟨g, o, none⟩ x) r st := h.up (fun k hk => Below.heap_setCell _ _ _ _ (by show k ≠ g; omega)) (by simp [World.setCell])
theorem RdD.set4 {w : World} {r g : Nat} {st : RSt} (h : RdD w r st) (hg : r < g) (x0 x1 x2 x3 : Value) : RdD (Go.Proofs.Ytkbplffckkjbfaa.set4 w g x0 x1 x2 x3) r st := (((h.setCell hg 0 x0).setCell hg 1 x1).setCell hg 2 x2).setCell hg 3 x3
theorem RdD.low {r m : Nat} {w1 w2 : World} {st : RSt} (h : RdD w1 r st) (hb : Below m w1 w2) (hm : r < m) : RdD w2 r st := h.up (fun k hk => hb.block k (by omega)) hb.size
theorem RdD.lt {w : World} {r : Nat} {st : RSt} (h : RdD w r st) : r < w.heap.size := by
  obtain ⟨sl, bs, h1, _⟩ := h
  exact (Array.getElem?_eq_some_iff.1 h1).1
/-- It is marked as bad. -/
theorem RdD.bad {w : World} {r : Nat} {st : RSt} (h : RdD w r st) : RdD (w.setCell ⟨r, 1, none⟩ (.bool true)) r none ∧ Only r w (w.setCell ⟨r, 1, none⟩ (.bool true)) := by
  obtain ⟨sl, bs, h1, h2, h3⟩ := h
  exact ⟨⟨sl, bs, set2_1 h1 _, h2.since ((only_set 1 _).since (by simp)), fun b hb => by cases hb⟩, only_set 1 _⟩
theorem RdD.cells {w : World} {r : Nat} {st : RSt} (h : RdD w r st) : ∃ ao n cap, w.cell? ⟨r, 0, none⟩ = some (.slice ao n cap) ∧ w.cell? ⟨r, 1, none⟩ = some (.bool st.isNone) ∧ w.frozen? ⟨r, 0, none⟩ = false ∧ w.frozen? ⟨r, 1, none⟩ = false ∧ r < w.heap.size ∧ n ≤ 9223372036854775807 ∧ ∀ b, st = some b → n = b.length := by
  obtain ⟨sl, bs, h1, h2, h3⟩ := h
  obtain ⟨c0, c1, f0, f1⟩ := cells_of2 h1
  obtain ⟨ao, cap, rfl, hc1, hc2⟩ := h2.slice
  exact ⟨ao, bs.length, cap, c0, c1, f0, f1, (Array.getElem?_eq_some_iff.1 h1).1, by omega, fun b hb => by rw [h3 b hb]⟩
set_option maxRecDepth 100000 in
set_option maxHeartbeats 1000000 in
theorem numD_any {w : World} {r : Nat} {st : RSt} (h : RdD w r st) (hl : lft st ≤ 1000000) :
    Calls Try.prog 90 #[.pointer (some ⟨r, 0, none⟩)] w fun e w' => e = .returned (.int .i64 ((rdN st).1 : Nat)) ∧ RdD w' r (rdN st).2 ∧ Only r w w' := by
  have hrl := h.lt
  have hB := h.bad
  have h' := h
  obtain ⟨sl, bs, h1, h2, h3⟩ := h
  obtain ⟨c0, c1, f0, f1⟩ := cells_of2 h1
  rcases st with _ | b
  · have hR : Hid (rdN none = (0, none)) := rfl
    simp only [Option.isNone_none] at *
    clear hB h1 h2 h3 c0 f0
    go_enter Try.func90, Try.ntmps90
    go_wp2
    go_ret
    exact ⟨rfl, h', Only.refl _ _⟩
  · obtain rfl := h3 b rfl
    simp only [Option.isNone_some] at *
    have hT := rtake_any h2 (by simpa [lft] using hl)
    obtain ⟨ao, cap, rfl, hc1, hc2⟩ := h2.slice
    by_cases h0 : (tk bs).2 = 0
    · have hfin : Hid (rdN (some bs) = (0, none)) := by show _ = _; rw [rdN, if_pos h0]
      rw [h0] at hT
      generalize (tk bs).1 = X at *
      obtain ⟨w1, hW1⟩ : ∃ w1, w.setCell ⟨r, 1, none⟩ (.bool true) = w1 := ⟨_, rfl⟩
      rw [hW1] at hB
      clear h1 h2 h3 h' hl
      go_enter Try.func90, Try.ntmps90
      go_wp2_with fail
      refine hT.mono ?_
      rintro e w2 ⟨rfl, rfl⟩
      clear hT
      go_wp2
      go_ret
      exact ⟨by rw [hfin.out]; rfl, by rw [hfin.out]; exact hB.1, hB.2⟩
    · have h0b : (((tk bs).2 : Int) == 0) = false := by simp; omega
      obtain ⟨hk, hnum, hXb⟩ := tk_back (bs := bs) (X := (tk bs).1) (k := (tk bs).2) rfl (by omega)
      have hfin : Hid (rdN (some bs) = ((tk bs).1, some (bs.drop (tk bs).2))) := by show _ = _; rw [rdN, if_neg h0]
      have hcut := bcut_low ao bs.length cap (tk bs).2 hk
      have hdr := h2.drop hk
      generalize (tk bs).1 = X at *
      generalize (tk bs).2 = k at *
      obtain ⟨w1, hW1⟩ : ∃ w1, w.setCell ⟨r, 0, none⟩ (.slice (cutB ao k cap) (bs.length - k) (cap - k)) = w1 := ⟨_, rfl⟩
      have hres : RdD w1 r (some (bs.drop k)) ∧ Only r w w1 := by
        rw [← hW1]
        exact ⟨⟨_, _, set2_0 h1 _, hdr.since ((only_set 0 _).since (by simp)), fun b hb => Option.some.inj hb⟩, only_set 0 _⟩
      clear h2 hdr hnum h0 h' h3 hB h1 hl
      go_enter Try.func90, Try.ntmps90
      go_wp2_with fail
      refine hT.mono ?_
      rintro e w2 ⟨rfl, rfl⟩
      clear hT
      go_wp2
      go_ret
      exact ⟨by rw [hfin.out]; rfl, by rw [hfin.out]; exact hres.1, hres.2⟩
set_option maxRecDepth 100000 in
set_option maxHeartbeats 1000000 in
theorem bytD_any {w : World} {r : Nat} {st : RSt} (h : RdD w r st) {n : Nat} (hn : n ≤ 9223372036854775807) (hl : lft st ≤ 1000000) :
    Calls Try.prog 91 #[.pointer (some ⟨r, 0, none⟩), .int .i64 n] w fun e w' => (∃ sl', e = .returned sl' ∧ IsB (From w.heap.size) w' sl' (rdB n st).1) ∧ RdD w' r (rdB n st).2 ∧ Only r w w' := by
  have hrl := h.lt
  obtain ⟨w1, hW1⟩ : ∃ w1, w.setCell ⟨r, 1, none⟩ (.bool true) = w1 := ⟨_, rfl⟩
  have hB := h.bad
  rw [hW1] at hB
  have hn0 : ¬ (n : Int) < 0 := by omega
  obtain ⟨sl, bs, h1, h2, h3⟩ := h
  obtain ⟨c0, c1, f0, f1⟩ := cells_of2 h1
  rcases st with _ | b
  · simp only [Option.isNone_none] at *
    clear h1 h2 h3
    go_enter Try.func91, Try.ntmps91
    go_wp2
    go_ret
    exact ⟨⟨_, rfl, IsB.nil⟩, hB.1, hB.2⟩
  · obtain rfl := h3 b rfl
    simp only [Option.isNone_some] at *
    obtain ⟨ao, cap, rfl, hc1, hc2⟩ := h2.slice
    by_cases hlt : bs.length < n
    · have hI : (bs.length : Int) < (n : Int) := by omega
      have hfin : Hid (rdB n (some bs) = ([], none)) := by show _ = _; simp only [rdB]; rw [if_pos (Or.inr hI)]
      clear h1 h2 h3
      go_enter Try.func91, Try.ntmps91
      go_wp2
      go_ret
      rw [hfin.out]
      exact ⟨⟨_, rfl, IsB.nil⟩, hB.1, hB.2⟩
    · have hI : ¬ (bs.length : Int) < (n : Int) := by omega
      have hfin : Hid (rdB n (some bs) = (bs.take n, some (bs.drop n))) := by show _ = _; simp only [rdB]; rw [if_neg (by omega)]; simp
      have htl : (bs.take n).length = n := by simp; omega
      have htk := h2.take (k := n) (by omega)
      obtain ⟨wa, a1, c1', w2, hWa, hr, ho, hb⟩ := fresh8 (ao := ao) (cap := cap) (bs := bs.take n) (by rw [htl]; exact htk) (by have : bs.length ≤ 1000000 := hl; omega)
      have hba : Below w.heap.size w wa := by rw [← hWa]; exact (Below.refl _ _).alloc (Nat.le_refl _) _
      rw [htl] at hr
      have hq1 := bcut_high ao bs.length cap n (by omega)
      have hq2 := bcut_low ao bs.length cap n (by omega)
      have hdr := h2.drop (k := n) (by omega)
      have h12 : w2.heap[r]? = some (.cells #[.slice ao bs.length cap, .bool false] 79 (0, 0)) := (hb.block _ hrl).trans h1
      have h1a : wa.heap[r]? = some (.cells #[.slice ao bs.length cap, .bool false] 79 (0, 0)) := (hba.block _ hrl).trans h1
      obtain ⟨d0, d1, e0, e1⟩ := cells_of2 h1a
      obtain ⟨k0, k1, m0, m1⟩ := cells_of2 h12
      have hrl2 : r < w2.heap.size := (Array.getElem?_eq_some_iff.1 h12).1
      have hrla : r < wa.heap.size := (Array.getElem?_eq_some_iff.1 h1a).1
      obtain ⟨w3, hW3⟩ : ∃ w3, w2.setCell ⟨r, 0, none⟩ (.slice (cutB ao n cap) (bs.length - n) (cap - n)) = w3 := ⟨_, rfl⟩
      have hslB : IsB (From w.heap.size) w2 (.slice a1 n c1') (bs.take n) := by
        have := owns_b ho
        rw [htl] at this; exact this
      have hres : IsB (From w.heap.size) w3 (.slice a1 n c1') (bs.take n) ∧ RdD w3 r (some (bs.drop n)) ∧ Only r w w3 := by
        rw [← hW3]
        exact ⟨hslB.since ((only_set 0 _).since (by show ¬ (w.heap.size ≤ r); omega)), ⟨_, _, set2_0 h12 _, (hdr.since (Since.of_below hb)).since ((only_set 0 _).since (by simp)), fun b hb => Option.some.inj hb⟩, (Only.of_below hb).trans (only_set 0 _)⟩
      clear h2 hdr h3 hB h1 h12 h1a hslB ho htk htl hl hlt hba hb
      go_enter Try.func91, Try.ntmps91
      go_wp2_with (at_builtin; refine Lib.wpList_append_run _ rfl _ _ 52 52 rfl _ _ rfl rfl _ _ hr ?_)
      go_ret
      rw [hfin.out]
      exact ⟨⟨_, rfl, hres.1⟩, hres.2.1, hres.2.2⟩
end Go.Proofs.Ytkbplffckkjbfaa
