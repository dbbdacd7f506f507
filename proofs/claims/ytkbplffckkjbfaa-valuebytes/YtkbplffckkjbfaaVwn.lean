/- Values as bytes: the program's. -/
import Derived.Test.YtkbplffckkjbfaaVpt
import Derived.Test.YtkbplffckkjbfaaVcc
import Derived.Deep.LoopGhost
import Derived.Maps.AppendAt
import Derived.Deep.RegionHeld3
import Derived.Deep.DrawnRows
namespace Go.Proofs.Ytkbplffckkjbfaa
open Go.RowKit
set_option linter.unusedVariables false
set_option linter.unusedSimpArgs false
attribute [local go_sem ↓] Go.wp_at_zero Go.wp_at_succ

theorem owns_news {w : World} {base e n c : Nat} {ad : Option Addr} {xs : List Value} (h : w.ownsRow base e 1 (.slice ad n c) n xs) : (ad = none → n = 0 ∧ c = 0) ∧ ∀ b, ad = some b → ∀ j u, xs[j]? = some u → w.cell? (b.add j) = some u := by
  rcases h.2 with ⟨h1, h0⟩ | ⟨g, cap, cur, h1, h2, h3, h4, h5, h6, h7⟩
  · simp only [Value.slice.injEq] at h1
    obtain ⟨rfl, _, rfl⟩ := h1
    exact ⟨fun _ => ⟨h0, rfl⟩, fun b hb => by cases hb⟩
  · simp only [Value.slice.injEq] at h1
    obtain ⟨rfl, _, rfl⟩ := h1
    refine ⟨fun h => (by cases h), fun b hb j u hu => ?_⟩
    cases hb
    have e : (⟨g, 0, none⟩ : Addr).add j = ⟨g, j, none⟩ := by by_cases hj : j = 0 <;> simp [Addr.add, hj]
    rw [e, cell_block h3]
    rw [← h7, List.getElem?_take] at hu
    split at hu
    · simpa using hu
    · cases hu
/-- The same, with where the new row lies: where the old one lay, or in new memory. -/
theorem app_run_at {T E : TypeId} {z : Value} {size bytes : Nat} (ht : Try.prog.underlying T = some (.slice E)) (hinfo : (Try.prog.info? E).map (fun i => (i.zero, i.size, i.bytes)) = some (some z, size, bytes)) (hzs : z.cells.size = size) (hsz : 0 < size) (ty : TypeId)
    {w : World} {base n m c : Nat} {v : Value} {xs news : List Value} {ad : Option Addr} (hown : w.ownsRow base E size v n xs) (hnil : ad = none → m = 0 ∧ c = 0) (hl : news.length = m * size) (hnews : ∀ b, ad = some b → ∀ j u, news[j]? = some u → w.cell? (b.add j) = some u) (h1 : ∀ u ∈ news, u.oneCell' = true)
    (hn : n + m ≤ 100000000) (hby : bytes ≤ 1000) (hbase : base ≤ w.heap.size) :
    ∃ ao cap w', (Builtin.append_ #[T, T] ty #[v, .slice ad m c]).run Try.prog w = .ok (.slice ao (n + m) cap) w' ∧ w'.ownsRow base E size (.slice ao (n + m) cap) (n + m) (xs ++ news) ∧ Below base w w' ∧ w.grownBy w' v.ownBlock ∧ (Value.ownBlock (.slice ao (n + m) cap) = v.ownBlock ∨ Value.ownBlock (.slice ao (n + m) cap) = some w.heap.size) := by
  obtain ⟨i, hi, hz, hs, hb⟩ := info_parts hinfo
  cases ad with
  | none =>
    obtain ⟨rfl, rfl⟩ := hnil rfl
    have hne : news = [] := List.length_eq_zero_iff.1 (by omega)
    subst hne
    obtain ⟨ao, cap, rfl, h2, h3⟩ := owns_slice hown
    exact ⟨ao, cap, w, run_append_owned_none (P := Try.prog) (w := w) base T ty E i size ht hi _ n xs hown, by simpa using hown, Below.refl _ _, grown_same _ _, Or.inl rfl⟩
  | some b =>
    have hmul : (n + m) * bytes ≤ 100000000 * 1000 := Nat.mul_le_mul hn hby
    obtain ⟨v', w', hr, ho, hg, _, hat⟩ := run_append_own_at (P := Try.prog) w base T ty E i z size bytes ht hi hz hs hb hzs hsz v n xs hown b m c news hl (hnews b rfl) h1 (by unfold maxLen; omega) (by omega) hbase
    obtain ⟨ao, cap, rfl, _, _⟩ := owns_slice ho
    exact ⟨ao, cap, w', hr, ho, (Below.refl _ _).grown hg hbase (fun k hk => (hown.lt k hk).1), hg, hat⟩
theorem ret_slice {ao : Option Addr} {n m cap : Nat} (h : n = m) : Ending.returned (.slice ao n cap) = .returned (.slice ao m cap) := by rw [h]
/-- An own row of bytes. -/
abbrev Own8 (w : World) (base : Nat) (ao : Option Addr) (cap : Nat) (bs : List UInt8) : Prop := w.ownsRow base 5 1 (.slice ao bs.length cap) bs.length (c8 bs)
/-- It answers bytes in an own row. -/
def OutB (base : Nat) (w : World) (bs : List UInt8) (r : Ending) (w' : World) : Prop := (∃ ao cap, r = .returned (.slice ao bs.length cap) ∧ Own8 w' base ao cap bs) ∧ Below base w w'
set_option maxRecDepth 100000 in
set_option maxHeartbeats 1000000 in
theorem numbers_any {base g : Nat} {bs : List UInt8} {xs : List Int} {ao : Option Addr} {cap : Nat} {w : World} (hown : Own8 w base ao cap bs) (hbs : bs.length ≤ 900000) (hbase : base ≤ w.heap.size) (hxs : IntsAt w g xs) (hr : ∀ x ∈ xs, InR x) (hm : xs.length ≤ 2) :
    Calls Try.prog 83 #[.slice ao bs.length cap, .slice (some ⟨g, 0, none⟩) xs.length xs.length] w fun r w' => ((∃ ao' cap', r = .returned (.slice ao' (bs ++ nums xs).length cap') ∧ Own8 w' base ao' cap' (bs ++ nums xs) ∧ ∀ k, Value.ownBlock (.slice ao' (bs ++ nums xs).length cap') = some k → Value.ownBlock (.slice ao bs.length cap) = some k ∨ w.heap.size ≤ k) ∧ Below base w w') ∧ w.grownBy w' (Value.ownBlock (.slice ao bs.length cap)) := by
  have hP := put_nil hxs hr hm
  have hlen := nums_len xs hr
  have hA : ∀ w1 a1 c1, Below w.heap.size w w1 → w1.ownsRow w.heap.size 5 1 (.slice a1 (nums xs).length c1) (nums xs).length (c8 (nums xs)) → ∃ ao' cap' w', (Builtin.append_ #[52, 52] 52 #[.slice ao bs.length cap, .slice a1 (nums xs).length c1]).run Try.prog w1 = .ok (.slice ao' (bs ++ nums xs).length cap') w' ∧ Own8 w' base ao' cap' (bs ++ nums xs) ∧ Below base w w' ∧ w.grownBy w' (Value.ownBlock (.slice ao bs.length cap)) ∧ ∀ k, Value.ownBlock (.slice ao' (bs ++ nums xs).length cap') = some k → Value.ownBlock (.slice ao bs.length cap) = some k ∨ w.heap.size ≤ k := by
    intro w1 a1 c1 hb1 ho1
    obtain ⟨n1, n2⟩ := owns_news ho1
    obtain ⟨ao', cap', w', h1, h2, h3, h4, h5⟩ := app_run_at (news := c8 (nums xs)) Try.underlying52 byteInfo rfl (by decide) 52 (owns_below hown hb1) n1 (by rw [c8_len]; omega) n2 (c8_one _) (by omega) (by decide) (by have := hb1.size; omega)
    rw [← c8_append] at h2
    rw [← List.length_append] at h1 h2 h5
    exact ⟨ao', cap', w', h1, h2, (hb1.mono hbase).trans h3, ⟨h4.os.trans hb1.os, h4.tape.trans hb1.tape, h4.output.trans hb1.output, Nat.le_trans hb1.size h4.size, fun k hk hne => (h4.block k (by have := hb1.size; omega) hne).trans (hb1.block k hk)⟩, fun k hk => by
      rcases h5 with h5 | h5
      · exact Or.inl (by rw [← h5]; exact hk)
      · rw [h5] at hk; cases hk; exact Or.inr hb1.size⟩
  clear hown hxs hr
  go_enter Try.func83, Try.ntmps83
  go_wp2_with fail
  refine hP.mono ?_
  rintro e w1 ⟨⟨a1, c1, rfl, ho1⟩, hb1⟩
  obtain ⟨ao', cap', w', h1, h2, h3, h4, h5⟩ := hA w1 a1 c1 hb1 ho1
  clear hP hA ho1
  go_wp2_with (at_builtin; refine Lib.wpList_append_run _ rfl _ _ 52 52 rfl _ _ rfl rfl _ _ h1 ?_)
  go_ret
  exact ⟨⟨⟨ao', cap', ret_slice (by rw [List.length_append]), h2, h5⟩, h3⟩, h4⟩
/-- One number or two that were just laid down. -/
theorem ints_one {w : World} {x : Int} {T : TypeId} : IntsAt (w.alloc (.cells #[.int .i64 x] T)) w.heap.size [x] := ⟨by simp, fun q y hq => by
  have hj := (List.getElem?_eq_some_iff.1 hq).1
  simp at hj; subst hj
  simp at hq; subst hq
  exact cell_of_one (heap_new w _)⟩
theorem ints_two {w : World} {x y : Int} {T : TypeId} : IntsAt (w.alloc (.cells #[.int .i64 x, .int .i64 y] T)) w.heap.size [x, y] := ⟨by simp, fun q z hq => by
  rw [cell_block (heap_new w _)]
  have hj := (List.getElem?_eq_some_iff.1 hq).1
  simp only [List.length_cons, List.length_nil] at hj
  have : q = 0 ∨ q = 1 := by omega
  rcases this with rfl | rfl
  · simp at hq; subst hq; rfl
  · simp at hq; subst hq; rfl⟩
/-- written does what it should, of this value. -/
def WrOk (base : Nat) (v : V) : Prop := ∀ (bs : List UInt8) (ao asl : Option Addr) (cap cv : Nat) (w : World), Own8 w base ao cap bs → base ≤ w.heap.size → bs.length + (enc v).length ≤ 800000 → IsW (Lo base) w v (.slice asl v.l.length cv) →
    Calls Try.prog 65 #[.slice ao bs.length cap, .agg #[.int .i64 v.k, .int .i64 v.n, .string ⟨v.t.toArray⟩, .slice asl v.l.length cv]] w fun r w' => OutB base w (bs ++ enc v) r w'
/-- Behind what stands ahead: the parts. -/
theorem written_rest {base : Nat} {v : V} (hok : ∀ x ∈ v.l, WrOk base x) {bs : List UInt8} {w : World} (q : Nat) (hq : q < v.l.length) {wr : World} {asl ao : Option Addr} {cv cap : Nat} (hv : IsVs (Lo base) w v.l (.slice asl v.l.length cv)) (hB : Below base w wr) (hbase : base ≤ w.heap.size) (hown : Own8 wr base ao cap (bs ++ encs (v.l.take q))) (hlen : bs.length + (encs v.l).length ≤ 800000) :
    ∃ x g o ax cx, v.l[q]? = some x ∧ asl = some ⟨g, o, none⟩ ∧ g < wr.heap.size ∧ wr.cell? ⟨g, o + q * 4, none⟩ = some (.int .i64 x.k) ∧ wr.cell? ⟨g, o + q * 4 + 1, none⟩ = some (.int .i64 x.n) ∧ wr.cell? ⟨g, o + q * 4 + 2, none⟩ = some (.string ⟨x.t.toArray⟩) ∧ wr.cell? ⟨g, o + q * 4 + 3, none⟩ = some (.slice ax x.l.length cx) ∧
      ∀ w2, Below wr.heap.size wr w2 → Calls Try.prog 65 #[.slice ao (bs ++ encs (v.l.take q)).length cap, .agg #[.int .i64 x.k, .int .i64 x.n, .string ⟨x.t.toArray⟩, .slice ax x.l.length cx]] w2 fun r w' => OutB base w (bs ++ encs (v.l.take (q + 1))) r w' := by
  have hx : v.l[q]? = some v.l[q] := List.getElem?_eq_getElem hq
  obtain ⟨g, o, ax, cx, e, hlo, hg, c0, c1, c2, c3, hw⟩ := (hv.since ⟨hB.size, fun k h1 _ => hB.block k h1⟩).get hx
  refine ⟨v.l[q], g, o, ax, cx, hx, e, hg, c0, c1, c2, c3, fun w2 hb2 => ?_⟩
  have hs := hB.size
  have hs2 := hb2.size
  have e1 := encs_take_succ hx
  have hle : (encs (v.l.take (q + 1))).length ≤ (encs v.l).length := by
    have := congrArg List.length (congrArg encs (List.take_append_drop (q + 1) v.l))
    rw [encs_append, List.length_append] at this; omega
  have e2 : (encs (v.l.take (q + 1))).length = (encs (v.l.take q)).length + (enc v.l[q]).length := by rw [e1]; simp
  have hC := hok _ (List.getElem_mem hq) (bs ++ encs (v.l.take q)) ao ax cap cx w2 (owns_below hown hb2) (by omega) (by simp; omega) (hw.below hb2)
  refine hC.mono fun r w' h => ?_
  obtain ⟨⟨a1, c1', h1, h2⟩, h3⟩ := h
  rw [e1, ← List.append_assoc]
  exact ⟨⟨a1, c1', h1, h2⟩, hB.trans ((hb2.mono (by omega)).trans h3)⟩
end Go.Proofs.Ytkbplffckkjbfaa
