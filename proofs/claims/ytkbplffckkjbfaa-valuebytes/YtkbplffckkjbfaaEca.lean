/- Bytes: the document's. -/
import Derived.Test.YtkbplffckkjbfaaEa
import Derived.Test.YtkbplffckkjbfaaVen
import Derived.Test.YtkbplffckkjbfaaRcp
import Derived.Test.YtkbplffckkjbfaaDvba
import Derived.Lib.AppendStr
import Derived.Test.YtkbplffckkjbfaaRo3
namespace Go.Proofs.Ytkbplffckkjbfaa
open Go.RowKit
set_option linter.unusedVariables false
set_option linter.unusedSimpArgs false
attribute [local go_sem ↓] Go.wp_at_zero Go.wp_at_succ

mutual
/-- Of a kind that there is, in all depths, and nothing within what is no list and no map. -/
def Tm : V → Prop
  | .mk k n t l => ((k = 1 ∧ l = []) ∨ (k = 2 ∧ 0 ≤ n ∧ l = []) ∨ (k = 3 ∧ l = []) ∨ k = 4 ∨ k = 5) ∧ Tms l
def Tms : List V → Prop
  | [] => True
  | v :: r => Tm v ∧ Tms r
end
theorem tms_of : ∀ {l : List V}, (∀ x ∈ l, Tm x) → Tms l
  | [], _ => by rw [Tms]; trivial
  | x :: r, h => by rw [Tms]; exact ⟨h x (List.mem_cons_self ..), tms_of (fun y hy => h y (List.mem_cons_of_mem _ hy))⟩
theorem tms_mem : ∀ {l : List V} {x : V}, Tms l → x ∈ l → Tm x
  | [], x, _, h => by cases h
  | y :: r, x, h, hx => by
    rw [Tms] at h
    rcases List.mem_cons.1 hx with rfl | hx
    · exact h.1
    · exact tms_mem h.2 hx
theorem Tm.cases {v : V} (h : Tm v) : ((v.k = 1 ∧ v.l = []) ∨ (v.k = 2 ∧ 0 ≤ v.n ∧ v.l = []) ∨ (v.k = 3 ∧ v.l = []) ∨ v.k = 4 ∨ v.k = 5) ∧ ∀ x ∈ v.l, Tm x := by
  obtain ⟨k, n, t, l⟩ := v
  rw [Tm] at h
  exact ⟨h.1, fun x hx => tms_mem h.2 hx⟩
theorem keyS_tm : ∀ {kb : Bool} {v : V}, KeyS kb v → Tm v
  | true, .mk k n t l, h => by
    rw [KeyS] at h
    obtain ⟨h1, h2, h3⟩ := h
    simp only [V.k, V.t, V.l] at h1 h2 h3
    subst h3
    rw [Tm]; exact ⟨Or.inl ⟨h1, rfl⟩, by rw [Tms]; trivial⟩
  | false, .mk k n t l, h => by
    rw [KeyS] at h
    obtain ⟨h1, h2, h3, h4⟩ := h
    simp only [V.k, V.t, V.l, V.n] at h1 h2 h3 h4
    subst h3
    rw [Tm]; exact ⟨Or.inr (Or.inr (Or.inl ⟨h1, rfl⟩)), by rw [Tms]; trivial⟩
theorem shp_tm : ∀ {T : Ty} {v : V}, Shp T v → Tm v
  | .int, .mk k n t l, h => by
    rw [Shp] at h
    obtain ⟨h1, h2, h3⟩ := h
    simp only [V.k, V.t, V.l] at h1 h2 h3
    subst h3
    rw [Tm]; exact ⟨Or.inl ⟨h1, rfl⟩, by rw [Tms]; trivial⟩
  | .bool, .mk k n t l, h => by
    rw [Shp] at h
    obtain ⟨h1, h2, h3, h4⟩ := h
    simp only [V.k, V.t, V.l, V.n] at h1 h2 h3 h4
    subst h3
    rw [Tm]; exact ⟨Or.inr (Or.inl ⟨h1, by omega, rfl⟩), by rw [Tms]; trivial⟩
  | .text, .mk k n t l, h => by
    rw [Shp] at h
    obtain ⟨h1, h2, h3, h4⟩ := h
    simp only [V.k, V.t, V.l, V.n] at h1 h2 h3 h4
    subst h3
    rw [Tm]; exact ⟨Or.inr (Or.inr (Or.inl ⟨h1, rfl⟩)), by rw [Tms]; trivial⟩
  | .list E, .mk k n t l, h => by
    rw [Shp] at h
    obtain ⟨h1, h2, h3, h4, h5⟩ := h
    simp only [V.k, V.t, V.l, V.n] at h1 h2 h3 h4 h5
    rw [Tm]; exact ⟨Or.inr (Or.inr (Or.inr (Or.inl h1))), tms_of (fun x hx => shp_tm (h5 x hx))⟩
  | .map kb E, .mk k n t l, h => by
    rw [Shp] at h
    obtain ⟨h1, h2, h3, h4, h5, h6, h7, h8⟩ := h
    simp only [V.k, V.t, V.l, V.n] at h1 h2 h3 h4 h5 h6 h7
    rw [Tm]
    refine ⟨Or.inr (Or.inr (Or.inr (Or.inr h1))), tms_of (fun x hx => ?_)⟩
    obtain ⟨i, hi, rfl⟩ := List.getElem_of_mem hx
    have hg := List.getElem?_eq_getElem hi
    rcases Nat.mod_two_eq_zero_or_one i with e | e
    · exact keyS_tm (h6 (i / 2) _ (by rw [show 2 * (i / 2) = i by omega]; exact hg))
    · exact shp_tm (h7 (i / 2) _ (by rw [show 2 * (i / 2) + 1 = i by omega]; exact hg))
theorem one8 (w : World) (b : UInt8) : IsB Any (w.alloc (.cells #[.int .u8 b.toNat] 5)) (.slice (some ⟨w.heap.size, 0, none⟩) 1 1) [b] := by
  refine ⟨some ⟨w.heap.size, 0, none⟩, 1, rfl, Nat.le_refl _, by omega, (fun h => by cases h), fun _ => ⟨w.heap.size, 0, rfl, trivial, by simp, fun i c hi => ?_⟩⟩
  have hj := (List.getElem?_eq_some_iff.1 hi).1
  simp at hj
  subst hj
  simp at hi
  subst hi
  exact cell_of_one (heap_new w _)
theorem OutB.of {base base' : Nat} {w w1 : World} {bs bs' : List UInt8} {r : Ending} {w' : World} (h : OutB base w1 bs r w') (e : bs = bs') (hb : Below base' w w1) (hm : base' ≤ base) : OutB base' w bs' r w' := by
  obtain ⟨⟨a, c, h1, h2⟩, h3⟩ := h
  subst e
  exact ⟨⟨a, c, h1, owns_base h2 hm⟩, hb.trans (h3.mono hm)⟩
abbrev BytesOk (v : V) : Prop := ∀ (ao : Option Addr) (cap : Nat) (B : Nat → Prop) (w : World), IsW B w v (.slice ao v.l.length cap) → Calls Try.prog 66 #[.agg #[.int .i64 v.k, .int .i64 v.n, .string ⟨v.t.toArray⟩, .slice ao v.l.length cap]] w fun r w' => OutB w.heap.size w (enc v) r w'
set_option maxRecDepth 100000 in
set_option maxHeartbeats 1000000 in
theorem rb_neg {v : V} (hk : v.k = 1) (hl : v.l = []) (hn : v.n < 0) : BytesOk v := by
  intro ao cap B w hv
  obtain ⟨w0, hW, hb0, hsz, d0, d1, d2, d3⟩ := boxed w v (.slice ao v.l.length cap)
  have hr := hv.nr
  obtain ⟨hr1, hr2⟩ := hr
  obtain ⟨w1, hW1⟩ : ∃ w1, w0.alloc (.cells #[.int .u8 1] 5) = w1 := ⟨_, rfl⟩
  have hb1 : Below w0.heap.size w0 w1 := by rw [← hW1]; exact (Below.refl _ _).alloc (Nat.le_refl _) _
  have hB1 : Below w.heap.size w w1 := hb0.trans (hb1.mono (by omega))
  have hone : IsB Any w1 (.slice (some ⟨w0.heap.size, 0, none⟩) 1 1) [1] := by
    have h8 := one8 w0 1
    have e : (((1 : UInt8).toNat : Nat) : Int) = 1 := by decide
    rw [e] at h8
    rw [← hW1]; exact h8
  have he : [1] ++ num (-(v.n + 1)).toNat = enc v := by
    rw [enc_eq, hl]; unfold encH; rw [if_pos hk, if_pos hn, num_lt (n := 1) (by omega)]; simp [encs]
  have hP : Calls Try.prog 84 #[.slice (some ⟨w.heap.size + 1, 0, none⟩) 1 1, .int .i64 (-(v.n + 1))] w1 fun r w' => OutB w.heap.size w (enc v) r w' := by
    have hc : (((-(v.n + 1)).toNat : Nat) : Int) = -(v.n + 1) := by omega
    have := rput_any hone (by simp) (x := (-(v.n + 1)).toNat) (by omega)
    rw [hc, hsz] at this
    exact this.mono (fun r w' h => h.of he hB1 hB1.size)
  have d1' : w1.cell? ⟨w.heap.size, 1, none⟩ = some (.int .i64 v.n) := ((bcell hb1).1 _ _ (by omega)).trans d1
  have hw1 : IntKind.i64.wrap (v.n + 1) = v.n + 1 := by rw [IntKind.wrap_i64]; omega
  have hw2 : IntKind.i64.wrap (-(v.n + 1)) = -(v.n + 1) := by rw [IntKind.wrap_i64]; omega
  have q1 : (v.k == 1) = true := by simp [hk]
  clear hv hk hone he hl
  go_enter Try.func66, Try.ntmps66
  go_wp2_with fail
  refine hP.mono ?_
  rintro e w2 ⟨⟨a, c, rfl, ho⟩, hb⟩
  clear hP
  go_wp2
  go_ret
  exact ⟨⟨a, c, rfl, ho⟩, hb⟩
set_option maxRecDepth 100000 in
set_option maxHeartbeats 1000000 in
theorem rb_pos {v : V} (hk : v.k = 1) (hl : v.l = []) (hn : ¬ v.n < 0) : BytesOk v := by
  intro ao cap B w hv
  obtain ⟨w0, hW, hb0, hsz, d0, d1, d2, d3⟩ := boxed w v (.slice ao v.l.length cap)
  have hr := hv.nr
  obtain ⟨hr1, hr2⟩ := hr
  obtain ⟨w1, hW1⟩ : ∃ w1, w0.alloc (.cells #[.int .u8 0] 5) = w1 := ⟨_, rfl⟩
  have hb1 : Below w0.heap.size w0 w1 := by rw [← hW1]; exact (Below.refl _ _).alloc (Nat.le_refl _) _
  have hB1 : Below w.heap.size w w1 := hb0.trans (hb1.mono (by omega))
  have hone : IsB Any w1 (.slice (some ⟨w0.heap.size, 0, none⟩) 1 1) [0] := by
    have h8 := one8 w0 0
    have e : (((0 : UInt8).toNat : Nat) : Int) = 0 := by decide
    rw [e] at h8
    rw [← hW1]; exact h8
  have he : [0] ++ num v.n.toNat = enc v := by
    rw [enc_eq, hl]; unfold encH; rw [if_pos hk, if_neg hn, num_lt (n := 0) (by omega)]; simp [encs]
  have hP : Calls Try.prog 84 #[.slice (some ⟨w.heap.size + 1, 0, none⟩) 1 1, .int .i64 v.n] w1 fun r w' => OutB w.heap.size w (enc v) r w' := by
    have hc : ((v.n.toNat : Nat) : Int) = v.n := by omega
    have := rput_any hone (by simp) (x := v.n.toNat) (by omega)
    rw [hc, hsz] at this
    exact this.mono (fun r w' h => h.of he hB1 hB1.size)
  have d1' : w1.cell? ⟨w.heap.size, 1, none⟩ = some (.int .i64 v.n) := ((bcell hb1).1 _ _ (by omega)).trans d1
  have q1 : (v.k == 1) = true := by simp [hk]
  clear hv hk hone he hl
  go_enter Try.func66, Try.ntmps66
  go_wp2_with fail
  refine hP.mono ?_
  rintro e w2 ⟨⟨a, c, rfl, ho⟩, hb⟩
  clear hP
  go_wp2
  go_ret
  exact ⟨⟨a, c, rfl, ho⟩, hb⟩
/-- Put(nil, x). -/
theorem rput_nil (w : World) {x : Nat} (hx : x ≤ 9223372036854775807) : Calls Try.prog 84 #[.slice none 0 0, .int .i64 x] w fun r w' => OutB w.heap.size w (num x) r w' :=
  (rput_any (B := Any) IsB.nil (by simp) hx).mono (fun r w' h => by simpa using h)
set_option maxRecDepth 100000 in
set_option maxHeartbeats 1000000 in
theorem rb_bool {v : V} (hk : v.k = 2) (hl : v.l = []) (hn : 0 ≤ v.n) : BytesOk v := by
  intro ao cap B w hv
  obtain ⟨w0, hW, hb0, hsz, d0, d1, d2, d3⟩ := boxed w v (.slice ao v.l.length cap)
  have hr := hv.nr
  obtain ⟨hr1, hr2⟩ := hr
  have he : num v.n.toNat = enc v := by
    rw [enc_eq, hl]; unfold encH; rw [if_neg (by omega), if_pos hk]; simp [encs]
  have hP : Calls Try.prog 84 #[.slice none 0 0, .int .i64 v.n] w0 fun r w' => OutB w.heap.size w (enc v) r w' := by
    have hc : ((v.n.toNat : Nat) : Int) = v.n := by omega
    have := rput_nil w0 (x := v.n.toNat) (by omega)
    rw [hc] at this
    exact this.mono (fun r w' h => h.of he hb0 hb0.size)
  have q1 : (v.k == 1) = false := by simp [hk]
  have q2 : (v.k == 2) = true := by simp [hk]
  clear hv hk he hl
  go_enter Try.func66, Try.ntmps66
  go_wp2_with fail
  refine hP.mono ?_
  rintro e w2 ⟨⟨a, c, rfl, ho⟩, hb⟩
  clear hP
  go_wp2
  go_ret
  exact ⟨⟨a, c, rfl, ho⟩, hb⟩
set_option maxRecDepth 100000 in
set_option maxHeartbeats 1000000 in
theorem rb_text {v : V} (hk : v.k = 3) (hl : v.l = []) (ht : v.t.length ≤ 16384) : BytesOk v := by
  intro ao cap B w hv
  obtain ⟨w0, hW, hb0, hsz, d0, d1, d2, d3⟩ := boxed w v (.slice ao v.l.length cap)
  have he : num v.t.length ++ v.t = enc v := by
    rw [enc_eq, hl]; unfold encH; rw [if_neg (by omega), if_neg (by omega), if_pos hk]; simp [encs]
  have hnl := num_len10 (n := v.t.length) (by omega)
  have hP := fun w1 : World => rput_nil w1 (x := v.t.length) (by omega)
  have hAp : ∀ w5 a5 c5, w0.heap.size ≤ w5.heap.size → Own8 w5 w0.heap.size a5 c5 (num v.t.length) → ∃ a6 c6 w6, (Builtin.append_ #[52, 9] 52 #[.slice a5 (num v.t.length).length c5, .string ⟨v.t.toArray⟩]).run Try.prog w5 = .ok (.slice a6 (enc v).length c6) w6 ∧ Own8 w6 w0.heap.size a6 c6 (enc v) ∧ Below w0.heap.size w5 w6 := by
    intro w5 a5 c5 hb5 ho5
    obtain ⟨i, hi, hz, hs, hby⟩ := info_parts byteInfo
    have hsz' : (⟨v.t.toArray⟩ : ByteArray).size = v.t.length := by show v.t.toArray.size = _; simp
    obtain ⟨v', w6, h1, h2, h3, _⟩ := Lib.run_append_own_string (P := Try.prog) w5 w0.heap.size 52 9 52 5 i Try.underlying52 Try.underlying9 hi hz hs hby _ _ _ ho5 ⟨v.t.toArray⟩ (by rw [hsz']; unfold maxLen; omega) (by rw [hsz']; omega) hb5
    obtain ⟨a6, c6, rfl, _, _⟩ := owns_slice h2
    have hll : (num v.t.length).length + (⟨v.t.toArray⟩ : ByteArray).size = (enc v).length := by rw [hsz', ← he]; simp
    have hcc : c8 (num v.t.length) ++ Lib.strCells ⟨v.t.toArray⟩ = c8 (enc v) := by rw [← he, c8_append]; rfl
    rw [hll] at h1 h2
    rw [hcc] at h2
    exact ⟨a6, c6, w6, h1, h2, (Below.refl _ _).grown h3 hb5 (fun k hk => (ho5.lt k hk).1)⟩
  have q1 : (v.k == 1) = false := by simp [hk]
  have q2 : (v.k == 2) = false := by simp [hk]
  have q3 : (v.k == 3) = true := by simp [hk]
  clear hv hk hl
  go_enter Try.func66, Try.ntmps66
  go_wp2_with fail
  refine wpE_begin (S := fun w' => w'.cell? ⟨w.heap.size, 2, none⟩ = some (.string ⟨v.t.toArray⟩)) (N := fun _ => true) (by kernel_rfl) ?_
  have hS0 : w0.drew.cell? ⟨w.heap.size, 2, none⟩ = some (.string ⟨v.t.toArray⟩) := d2
  refine wpE_take (i := 0) (v := .pointer (some ⟨w.heap.size, 2, none⟩)) rfl (by kernel_rfl) (by kernel_rfl) (by kernel_rfl) (by kernel_rfl) (fun _ _ _ h => h) rfl (fun w' hS => by go_simp) hS0 ?_
  try simp only [Act.put, List.setIfInBounds_toArray, List.set_cons_zero, List.set_cons_succ]
  refine wpE_take (i := 1) (v := .string ⟨v.t.toArray⟩) rfl (by kernel_rfl) (by kernel_rfl) (by kernel_rfl) (by kernel_rfl) (fun _ _ _ h => h) rfl (fun w' hS => by go_simp) hS0 ?_
  try simp only [Act.put, List.setIfInBounds_toArray, List.set_cons_zero, List.set_cons_succ]
  refine wpE_take (i := 2) (v := .int .i64 v.t.length) rfl (by kernel_rfl) (by kernel_rfl) (by kernel_rfl) (by kernel_rfl) (fun _ _ _ h => h) rfl (fun w' hS => by go_simp) hS0 ?_
  try simp only [Act.put, List.setIfInBounds_toArray, List.set_cons_zero, List.set_cons_succ]
  refine wpE_take (i := 4) (v := .pointer (some ⟨w.heap.size, 2, none⟩)) rfl (by kernel_rfl) (by kernel_rfl) (by kernel_rfl) (by kernel_rfl) (fun _ _ _ h => h) rfl (fun w' hS => by go_simp) hS0 ?_
  try simp only [Act.put, List.setIfInBounds_toArray, List.set_cons_zero, List.set_cons_succ]
  refine wpE_take (i := 5) (v := .string ⟨v.t.toArray⟩) rfl (by kernel_rfl) (by kernel_rfl) (by kernel_rfl) (by kernel_rfl) (fun _ _ _ h => h) rfl (fun w' hS => by go_simp) hS0 ?_
  try simp only [Act.put, List.setIfInBounds_toArray, List.set_cons_zero, List.set_cons_succ]
  refine wpE_one (i := 3) (by kernel_rfl) rfl rfl (fun K hK => ?_)
  go_simp
  refine (hP _).mono ?_
  rintro e w5 ⟨⟨a5, c5, rfl, h5⟩, hb5'⟩
  have hb5 : Below w0.heap.size w0 w5 := below_undrew hb5'
  have hs5 := hb5.size
  have e5 : w5.cell? ⟨w.heap.size, 2, none⟩ = some (.string ⟨v.t.toArray⟩) := ((bcell hb5).1 _ _ (by omega)).trans d2
  obtain ⟨a6, c6, w6, hr6, h6, hb6⟩ := hAp w5 a5 c5 (by omega) h5
  have e6 : w6.cell? ⟨w.heap.size, 2, none⟩ = some (.string ⟨v.t.toArray⟩) := (World.cell?_of_block (hb6.block _ (show w.heap.size < w0.heap.size by omega))).trans e5
  have hB6 : Below w.heap.size w w6 := hb0.trans ((hb5.mono (by omega)).trans (hb6.mono (by omega)))
  refine hK _ _ (fun _ => e5) ?_
  clear hK K hP hAp
  try simp only [Act.put, List.setIfInBounds_toArray, List.set_cons_zero, List.set_cons_succ]
  refine wpE_one (i := 6) (by kernel_rfl) rfl rfl (fun K hK => ?_)
  refine Lib.wp_append_run _ _ _ 52 9 rfl _ _ rfl rfl _ _ hr6 ?_
  refine hK _ _ (fun _ => e6) ?_
  clear hK K
  try simp only [Act.put, List.setIfInBounds_toArray, List.set_cons_zero, List.set_cons_succ]
  refine wpE_one (i := 7) (by kernel_rfl) rfl rfl (fun K hK => ?_)
  go_simp
  refine hK _ _ (fun _ => e6) ?_
  clear hK K
  try simp only [Act.put, List.setIfInBounds_toArray, List.set_cons_zero, List.set_cons_succ]
  refine wpE_done (by kernel_rfl) ?_
  clear hr6 d0 d1 d2 d3 hW hS0 e5 hb5' hb5
  simp only [Exit.inBlock, Exit.then]
  refine ‹∀ (a : Act) (w : World), _ → _› _ _ ?_
  go_wp2
  go_ret
  exact ⟨⟨a6, c6, rfl, owns_base h6 (by omega)⟩, hB6⟩
end Go.Proofs.Ytkbplffckkjbfaa
namespace Go.Proofs.Ytkbplffckkjbfaa
open Go.RowKit
set_option linter.unusedVariables false
set_option linter.unusedSimpArgs false

set_option maxRecDepth 100000 in
set_option maxHeartbeats 2000000 in
theorem rb_list {v : V} (hk : v.k = 4) (hok : ∀ x ∈ v.l, BytesOk x) (hlen : (enc v).length ≤ 800000) : BytesOk v := by
  intro ao cap B w hv
  obtain ⟨ao', cap', e, hc1, hc2⟩ := hv.vs.slice
  simp only [Value.slice.injEq] at e
  obtain ⟨rfl, -, rfl⟩ := e
  obtain ⟨w0, hW, hb0, hsz, d0, d1, d2, d3⟩ := boxed w v (.slice ao v.l.length cap)
  have hH : encH v = num v.l.length := by unfold encH; rw [if_neg (by omega), if_neg (by omega), if_neg (by omega), if_pos hk]
  have henc := enc_eq v
  have hP : Calls Try.prog 84 #[.slice none 0 0, .int .i64 v.l.length] w0 fun r w' => OutB w0.heap.size w0 (encH v) r w' := by
    have := rput_nil w0 (x := v.l.length) (by omega)
    rw [← hH] at this
    exact this
  have hround : ∀ (q : Nat) (wr : World) (ar : Option Addr) (cr : Nat), q < v.l.length → Below w.heap.size w wr → Own8 wr w0.heap.size ar cr (encH v ++ encs (v.l.take q)) → w0.heap.size ≤ wr.heap.size →
      ∃ (x : V) (g o : Nat) (ax : Option Addr) (cx : Nat) (wz w4 : World), ao = some ⟨g, o, none⟩ ∧ g < wr.heap.size ∧ wr.cell? ⟨g, o + q * 4, none⟩ = some (.int .i64 x.k) ∧ wr.cell? ⟨g, o + q * 4 + 1, none⟩ = some (.int .i64 x.n) ∧ wr.cell? ⟨g, o + q * 4 + 2, none⟩ = some (.string ⟨x.t.toArray⟩) ∧ wr.cell? ⟨g, o + q * 4 + 3, none⟩ = some (.slice ax x.l.length cx) ∧
        wr.alloc (.cells #[.int .i64 0, .int .i64 0, .string ⟨#[]⟩, .slice none 0 0] 24) = wz ∧ set4 wz wr.heap.size (.int .i64 x.k) (.int .i64 x.n) (.string ⟨x.t.toArray⟩) (.slice ax x.l.length cx) = w4 ∧ wr.heap.size < wz.heap.size ∧ wr.heap.size < w4.heap.size ∧
        (wz.cell? ⟨wr.heap.size, 0, none⟩ = some (.int .i64 0) ∧ wz.cell? ⟨wr.heap.size, 1, none⟩ = some (.int .i64 0) ∧ wz.cell? ⟨wr.heap.size, 2, none⟩ = some (.string ⟨#[]⟩) ∧ wz.cell? ⟨wr.heap.size, 3, none⟩ = some (.slice none 0 0)) ∧ (wz.frozen? ⟨wr.heap.size, 0, none⟩ = false ∧ wz.frozen? ⟨wr.heap.size, 1, none⟩ = false ∧ wz.frozen? ⟨wr.heap.size, 2, none⟩ = false ∧ wz.frozen? ⟨wr.heap.size, 3, none⟩ = false) ∧
        (w4.cell? ⟨wr.heap.size, 0, none⟩ = some (.int .i64 x.k) ∧ w4.cell? ⟨wr.heap.size, 1, none⟩ = some (.int .i64 x.n) ∧ w4.cell? ⟨wr.heap.size, 2, none⟩ = some (.string ⟨x.t.toArray⟩) ∧ w4.cell? ⟨wr.heap.size, 3, none⟩ = some (.slice ax x.l.length cx)) ∧
        Calls Try.prog 66 #[.agg #[.int .i64 x.k, .int .i64 x.n, .string ⟨x.t.toArray⟩, .slice ax x.l.length cx]] w4 fun r w5 => ∃ a5 n5 c5, r = .returned (.slice a5 n5 c5) ∧ ∃ a6 c6 w6, (Builtin.append_ #[52, 52] 52 #[.slice ar (encH v ++ encs (v.l.take q)).length cr, .slice a5 n5 c5]).run Try.prog w5 = .ok (.slice a6 (encH v ++ encs (v.l.take (q + 1))).length c6) w6 ∧ Own8 w6 w0.heap.size a6 c6 (encH v ++ encs (v.l.take (q + 1))) ∧ Below w.heap.size w w6 ∧ w0.heap.size ≤ w6.heap.size := by
    intro q wr ar cr hq hB ho hwr
    have hx : v.l[q]? = some v.l[q] := List.getElem?_eq_getElem hq
    obtain ⟨g, o, ax, cx, e, _, hg, c0, c1, c2, c3, hw⟩ := (hv.vs.below hB).get hx
    obtain ⟨wz, w4, hWz, hW4, hb4, hs4, hszz, hblk4, hz1, hz2⟩ := rdbox wr (.int .i64 v.l[q].k) (.int .i64 v.l[q].n) (.string ⟨v.l[q].t.toArray⟩) (.slice ax v.l[q].l.length cx)
    obtain ⟨t0, t1, t2, t3, -⟩ := cells_of4 hblk4
    refine ⟨v.l[q], g, o, ax, cx, wz, w4, e, hg, c0, c1, c2, c3, hWz, hW4, by omega, by omega, hz1, hz2, ⟨t0, t1, t2, t3⟩, ?_⟩
    have e1 := encs_take_succ hx
    have hle : (encs (v.l.take (q + 1))).length ≤ (encs v.l).length := by
      have := congrArg List.length (congrArg encs (List.take_append_drop (q + 1) v.l))
      rw [encs_append, List.length_append] at this; omega
    have hl2 : (encH v).length + (encs v.l).length ≤ 800000 := by have := congrArg List.length henc; rw [List.length_append] at this; omega
    have e2 : (encs (v.l.take (q + 1))).length = (encs (v.l.take q)).length + (enc v.l[q]).length := by rw [e1]; simp
    refine (hok _ (List.getElem_mem hq) ax cx B w4 (hw.below hb4)).mono ?_
    rintro r w5 ⟨⟨a5, c5, rfl, h5⟩, hb5⟩
    refine ⟨a5, _, c5, rfl, ?_⟩
    obtain ⟨n1, n2⟩ := owns_news h5
    obtain ⟨a6, c6, w6, h1, h2, h3, h4, h7⟩ := app_run_at (news := c8 (enc v.l[q])) Try.underlying52 byteInfo rfl (by decide) 52 (owns_below (owns_below ho hb4) hb5) n1 (by rw [c8_len]; omega) n2 (c8_one _) (by rw [List.length_append]; omega) (by decide) (by have := hb5.size; omega)
    rw [← c8_append] at h2
    rw [← List.length_append] at h1 h2
    rw [List.append_assoc, ← e1] at h1 h2
    have hw0 : w.heap.size ≤ w0.heap.size := by omega
    exact ⟨a6, c6, w6, h1, h2, hB.trans ((hb4.mono (by omega)).trans ((hb5.mono (by omega)).trans (h3.mono hw0))), by have := hb5.size; have := h3.size; omega⟩
  have hw0 : w.heap.size ≤ w0.heap.size := by omega
  have hgb : w.heap.size < w0.heap.size := by omega
  have q1 : (v.k == 1) = false := by simp [hk]
  have q2 : (v.k == 2) = false := by simp [hk]
  have q3 : (v.k == 3) = false := by simp [hk]
  have q4 : (v.k == 4) = true := by simp [hk]
  clear hv hk hok hH
  go_enter Try.func66, Try.ntmps66
  go_wp2_with fail
  refine hP.mono ?_
  rintro e w1 ⟨⟨a1, c1, rfl, h1⟩, hb1⟩
  have d3' : w1.cell? ⟨w.heap.size, 3, none⟩ = some (.slice ao v.l.length cap) := ((bcell hb1).1 _ _ hgb).trans d3
  have hs1 := hb1.size
  obtain ⟨N1, HN1⟩ : ∃ N1, Hid ((encH v).length = N1) := ⟨_, rfl⟩
  rw [HN1.out]
  clear hP d0 d1 d2 d3 hW
  go_wp2_with fail
  go_loopg [3, 51] v.l.length (fun gh s i wr => ∃ (q : Nat) (ar : Option Addr) (cr : Nat), q ≤ v.l.length ∧ gh = v.l.length - q ∧ i = .int .i64 q ∧ s = .slice ar (encH v ++ encs (v.l.take q)).length cr ∧ Hid (Own8 wr w0.heap.size ar cr (encH v ++ encs (v.l.take q)) ∧ Below w.heap.size w wr ∧ w0.heap.size ≤ wr.heap.size))
  case atStart => exact ⟨0, a1, c1, Nat.zero_le _, rfl, rfl, by rw [← HN1.out]; simp [encs], ⟨by simpa [encs] using h1, hb0.trans (hb1.mono hw0), hs1⟩⟩
  case round =>
    clear h1 hb1 d3' hs1 HN1
    obtain ⟨q, ar, cr, hq, rfl, rfl, rfl, HO⟩ := hrel
    obtain ⟨ho, hB, hwr⟩ := HO.out
    clear HO
    by_cases hlt : q < v.l.length
    · obtain ⟨x, g, o, ax, cx, wz, w4, rfl, hg, k0, k1, k2, k3, hWz, hW4, hz0, hz4, ⟨y0, y1, y2, y3⟩, ⟨z0, z1, z2, z3⟩, ⟨t0, t1, t2, t3⟩, hcall⟩ := hround q wr ar cr hlt hB ho hwr
      have hltI : (q : Int) < (v.l.length : Int) := by omega
      have hq0 : (0 : Int) ≤ (q : Int) := by omega
      generalize (encH v ++ encs (v.l.take q)).length = N at *
      obtain ⟨N5, HN5⟩ : ∃ N5, Hid ((encH v ++ encs (v.l.take (q + 1))).length = N5) := ⟨_, rfl⟩
      rw [HN5.out] at hcall
      have hcall' : Calls Try.prog 66 #[.agg #[.int .i64 x.k, .int .i64 x.n, .string ⟨x.t.toArray⟩, .slice ax x.l.length cx]] w4 fun r w5 => ∃ a5 n5 c5, r = .returned (.slice a5 n5 c5) ∧ ∃ a6 c6 w6, (Builtin.append_ #[52, 52] 52 #[.slice ar N cr, .slice a5 n5 c5]).run Try.prog w5 = .ok (.slice a6 N5 c6) w6 ∧ Hid (Own8 w6 w0.heap.size a6 c6 (encH v ++ encs (v.l.take (q + 1))) ∧ Below w.heap.size w w6 ∧ w0.heap.size ≤ w6.heap.size) := hcall.mono (fun r w5 h => by obtain ⟨a5, n5, c5, h1, a6, c6, w6, h2, h3⟩ := h; exact ⟨a5, n5, c5, h1, a6, c6, w6, h2, h3⟩)
      clear hround ho hcall hB
      go_wp2_with fail
      refine hcall'.mono ?_
      rintro e w5 ⟨a5, n5, c5, rfl, a6, c6, w6, hr6, HO6⟩
      clear hcall' y0 y1 y2 y3 z0 z1 z2 z3 t0 t1 t2 t3 k0 k1 k2 k3 hWz hW4
      go_wp2_with (at_builtin; refine Lib.wpList_append_run _ rfl _ _ 52 52 rfl _ _ rfl rfl _ _ hr6 ?_)
      go_roundg (v.l.length - (q + 1))
      case measure => omega
      case rel => exact ⟨q + 1, a6, c6, by omega, rfl, by go_num, by rw [HN5.out], HO6⟩
    · have hltI : ¬ (q : Int) < (v.l.length : Int) := by omega
      have hqe : q = v.l.length := by omega
      have hle : encH v ++ encs (v.l.take q) = enc v := by rw [hqe, List.take_length, ← henc]
      rw [hle] at ho
      rw [hle]
      have hfin : OutB w.heap.size w (enc v) (.returned (.slice ar (enc v).length cr)) wr := ⟨⟨ar, cr, rfl, owns_base ho hw0⟩, hB⟩
      clear hround ho hle hqe henc hlen
      generalize (enc v).length = N at *
      go_wp2
      go_ret
      exact hfin
set_option maxRecDepth 100000 in
set_option maxHeartbeats 2000000 in
theorem rb_map {v : V} (hk : v.k = 5) (hok : ∀ x ∈ v.l, BytesOk x) (hlen : (enc v).length ≤ 800000) : BytesOk v := by
  intro ao cap B w hv
  obtain ⟨ao', cap', e, hc1, hc2⟩ := hv.vs.slice
  simp only [Value.slice.injEq] at e
  obtain ⟨rfl, -, rfl⟩ := e
  obtain ⟨w0, hW, hb0, hsz, d0, d1, d2, d3⟩ := boxed w v (.slice ao v.l.length cap)
  have hH : encH v = num (v.l.length / 2) := by unfold encH; rw [if_neg (by omega), if_neg (by omega), if_neg (by omega), if_neg (by omega), if_pos hk]
  have henc := enc_eq v
  have hP : Calls Try.prog 84 #[.slice none 0 0, .int .i64 ((v.l.length : Int) / 2)] w0 fun r w' => OutB w0.heap.size w0 (encH v) r w' := by
    have := rput_nil w0 (x := (v.l.length / 2)) (by omega)
    rw [← hH] at this
    exact this
  have hround : ∀ (q : Nat) (wr : World) (ar : Option Addr) (cr : Nat), q < v.l.length → Below w.heap.size w wr → Own8 wr w0.heap.size ar cr (encH v ++ encs (v.l.take q)) → w0.heap.size ≤ wr.heap.size →
      ∃ (x : V) (g o : Nat) (ax : Option Addr) (cx : Nat) (wz w4 : World), ao = some ⟨g, o, none⟩ ∧ g < wr.heap.size ∧ wr.cell? ⟨g, o + q * 4, none⟩ = some (.int .i64 x.k) ∧ wr.cell? ⟨g, o + q * 4 + 1, none⟩ = some (.int .i64 x.n) ∧ wr.cell? ⟨g, o + q * 4 + 2, none⟩ = some (.string ⟨x.t.toArray⟩) ∧ wr.cell? ⟨g, o + q * 4 + 3, none⟩ = some (.slice ax x.l.length cx) ∧
        wr.alloc (.cells #[.int .i64 0, .int .i64 0, .string ⟨#[]⟩, .slice none 0 0] 24) = wz ∧ set4 wz wr.heap.size (.int .i64 x.k) (.int .i64 x.n) (.string ⟨x.t.toArray⟩) (.slice ax x.l.length cx) = w4 ∧ wr.heap.size < wz.heap.size ∧ wr.heap.size < w4.heap.size ∧
        (wz.cell? ⟨wr.heap.size, 0, none⟩ = some (.int .i64 0) ∧ wz.cell? ⟨wr.heap.size, 1, none⟩ = some (.int .i64 0) ∧ wz.cell? ⟨wr.heap.size, 2, none⟩ = some (.string ⟨#[]⟩) ∧ wz.cell? ⟨wr.heap.size, 3, none⟩ = some (.slice none 0 0)) ∧ (wz.frozen? ⟨wr.heap.size, 0, none⟩ = false ∧ wz.frozen? ⟨wr.heap.size, 1, none⟩ = false ∧ wz.frozen? ⟨wr.heap.size, 2, none⟩ = false ∧ wz.frozen? ⟨wr.heap.size, 3, none⟩ = false) ∧
        (w4.cell? ⟨wr.heap.size, 0, none⟩ = some (.int .i64 x.k) ∧ w4.cell? ⟨wr.heap.size, 1, none⟩ = some (.int .i64 x.n) ∧ w4.cell? ⟨wr.heap.size, 2, none⟩ = some (.string ⟨x.t.toArray⟩) ∧ w4.cell? ⟨wr.heap.size, 3, none⟩ = some (.slice ax x.l.length cx)) ∧
        Calls Try.prog 66 #[.agg #[.int .i64 x.k, .int .i64 x.n, .string ⟨x.t.toArray⟩, .slice ax x.l.length cx]] w4 fun r w5 => ∃ a5 n5 c5, r = .returned (.slice a5 n5 c5) ∧ ∃ a6 c6 w6, (Builtin.append_ #[52, 52] 52 #[.slice ar (encH v ++ encs (v.l.take q)).length cr, .slice a5 n5 c5]).run Try.prog w5 = .ok (.slice a6 (encH v ++ encs (v.l.take (q + 1))).length c6) w6 ∧ Own8 w6 w0.heap.size a6 c6 (encH v ++ encs (v.l.take (q + 1))) ∧ Below w.heap.size w w6 ∧ w0.heap.size ≤ w6.heap.size := by
    intro q wr ar cr hq hB ho hwr
    have hx : v.l[q]? = some v.l[q] := List.getElem?_eq_getElem hq
    obtain ⟨g, o, ax, cx, e, _, hg, c0, c1, c2, c3, hw⟩ := (hv.vs.below hB).get hx
    obtain ⟨wz, w4, hWz, hW4, hb4, hs4, hszz, hblk4, hz1, hz2⟩ := rdbox wr (.int .i64 v.l[q].k) (.int .i64 v.l[q].n) (.string ⟨v.l[q].t.toArray⟩) (.slice ax v.l[q].l.length cx)
    obtain ⟨t0, t1, t2, t3, -⟩ := cells_of4 hblk4
    refine ⟨v.l[q], g, o, ax, cx, wz, w4, e, hg, c0, c1, c2, c3, hWz, hW4, by omega, by omega, hz1, hz2, ⟨t0, t1, t2, t3⟩, ?_⟩
    have e1 := encs_take_succ hx
    have hle : (encs (v.l.take (q + 1))).length ≤ (encs v.l).length := by
      have := congrArg List.length (congrArg encs (List.take_append_drop (q + 1) v.l))
      rw [encs_append, List.length_append] at this; omega
    have hl2 : (encH v).length + (encs v.l).length ≤ 800000 := by have := congrArg List.length henc; rw [List.length_append] at this; omega
    have e2 : (encs (v.l.take (q + 1))).length = (encs (v.l.take q)).length + (enc v.l[q]).length := by rw [e1]; simp
    refine (hok _ (List.getElem_mem hq) ax cx B w4 (hw.below hb4)).mono ?_
    rintro r w5 ⟨⟨a5, c5, rfl, h5⟩, hb5⟩
    refine ⟨a5, _, c5, rfl, ?_⟩
    obtain ⟨n1, n2⟩ := owns_news h5
    obtain ⟨a6, c6, w6, h1, h2, h3, h4, h7⟩ := app_run_at (news := c8 (enc v.l[q])) Try.underlying52 byteInfo rfl (by decide) 52 (owns_below (owns_below ho hb4) hb5) n1 (by rw [c8_len]; omega) n2 (c8_one _) (by rw [List.length_append]; omega) (by decide) (by have := hb5.size; omega)
    rw [← c8_append] at h2
    rw [← List.length_append] at h1 h2
    rw [List.append_assoc, ← e1] at h1 h2
    have hw0 : w.heap.size ≤ w0.heap.size := by omega
    exact ⟨a6, c6, w6, h1, h2, hB.trans ((hb4.mono (by omega)).trans ((hb5.mono (by omega)).trans (h3.mono hw0))), by have := hb5.size; have := h3.size; omega⟩
  have hw0 : w.heap.size ≤ w0.heap.size := by omega
  have hgb : w.heap.size < w0.heap.size := by omega
  have q1 : (v.k == 1) = false := by simp [hk]
  have q2 : (v.k == 2) = false := by simp [hk]
  have q3 : (v.k == 3) = false := by simp [hk]
  have q4 : (v.k == 4) = false := by simp [hk]
  clear hv hk hok hH
  go_enter Try.func66, Try.ntmps66
  go_wp2_with fail
  refine hP.mono ?_
  rintro e w1 ⟨⟨a1, c1, rfl, h1⟩, hb1⟩
  have d3' : w1.cell? ⟨w.heap.size, 3, none⟩ = some (.slice ao v.l.length cap) := ((bcell hb1).1 _ _ hgb).trans d3
  have hs1 := hb1.size
  obtain ⟨N1, HN1⟩ : ∃ N1, Hid ((encH v).length = N1) := ⟨_, rfl⟩
  rw [HN1.out]
  clear hP d0 d1 d2 d3 hW
  go_wp2_with fail
  go_loopg [3, 51] v.l.length (fun gh s i wr => ∃ (q : Nat) (ar : Option Addr) (cr : Nat), q ≤ v.l.length ∧ gh = v.l.length - q ∧ i = .int .i64 q ∧ s = .slice ar (encH v ++ encs (v.l.take q)).length cr ∧ Hid (Own8 wr w0.heap.size ar cr (encH v ++ encs (v.l.take q)) ∧ Below w.heap.size w wr ∧ w0.heap.size ≤ wr.heap.size))
  case atStart => exact ⟨0, a1, c1, Nat.zero_le _, rfl, rfl, by rw [← HN1.out]; simp [encs], ⟨by simpa [encs] using h1, hb0.trans (hb1.mono hw0), hs1⟩⟩
  case round =>
    clear h1 hb1 d3' hs1 HN1
    obtain ⟨q, ar, cr, hq, rfl, rfl, rfl, HO⟩ := hrel
    obtain ⟨ho, hB, hwr⟩ := HO.out
    clear HO
    by_cases hlt : q < v.l.length
    · obtain ⟨x, g, o, ax, cx, wz, w4, rfl, hg, k0, k1, k2, k3, hWz, hW4, hz0, hz4, ⟨y0, y1, y2, y3⟩, ⟨z0, z1, z2, z3⟩, ⟨t0, t1, t2, t3⟩, hcall⟩ := hround q wr ar cr hlt hB ho hwr
      have hltI : (q : Int) < (v.l.length : Int) := by omega
      have hq0 : (0 : Int) ≤ (q : Int) := by omega
      generalize (encH v ++ encs (v.l.take q)).length = N at *
      obtain ⟨N5, HN5⟩ : ∃ N5, Hid ((encH v ++ encs (v.l.take (q + 1))).length = N5) := ⟨_, rfl⟩
      rw [HN5.out] at hcall
      have hcall' : Calls Try.prog 66 #[.agg #[.int .i64 x.k, .int .i64 x.n, .string ⟨x.t.toArray⟩, .slice ax x.l.length cx]] w4 fun r w5 => ∃ a5 n5 c5, r = .returned (.slice a5 n5 c5) ∧ ∃ a6 c6 w6, (Builtin.append_ #[52, 52] 52 #[.slice ar N cr, .slice a5 n5 c5]).run Try.prog w5 = .ok (.slice a6 N5 c6) w6 ∧ Hid (Own8 w6 w0.heap.size a6 c6 (encH v ++ encs (v.l.take (q + 1))) ∧ Below w.heap.size w w6 ∧ w0.heap.size ≤ w6.heap.size) := hcall.mono (fun r w5 h => by obtain ⟨a5, n5, c5, h1, a6, c6, w6, h2, h3⟩ := h; exact ⟨a5, n5, c5, h1, a6, c6, w6, h2, h3⟩)
      clear hround ho hcall hB
      go_wp2_with fail
      refine hcall'.mono ?_
      rintro e w5 ⟨a5, n5, c5, rfl, a6, c6, w6, hr6, HO6⟩
      clear hcall' y0 y1 y2 y3 z0 z1 z2 z3 t0 t1 t2 t3 k0 k1 k2 k3 hWz hW4
      go_wp2_with (at_builtin; refine Lib.wpList_append_run _ rfl _ _ 52 52 rfl _ _ rfl rfl _ _ hr6 ?_)
      go_roundg (v.l.length - (q + 1))
      case measure => omega
      case rel => exact ⟨q + 1, a6, c6, by omega, rfl, by go_num, by rw [HN5.out], HO6⟩
    · have hltI : ¬ (q : Int) < (v.l.length : Int) := by omega
      have hqe : q = v.l.length := by omega
      have hle : encH v ++ encs (v.l.take q) = enc v := by rw [hqe, List.take_length, ← henc]
      rw [hle] at ho
      rw [hle]
      have hfin : OutB w.heap.size w (enc v) (.returned (.slice ar (enc v).length cr)) wr := ⟨⟨ar, cr, rfl, owns_base ho hw0⟩, hB⟩
      clear hround ho hle hqe henc hlen
      generalize (enc v).length = N at *
      go_wp2
      go_ret
      exact hfin
theorem rbytes_all : ∀ (N : Nat) (v : V), wt v < N → wt v ≤ 16384 → OkV v → Tm v → BytesOk v := by
  intro N
  induction N with
  | zero => intro v h; omega
  | succ N ih =>
    intro v h hw ho ht
    have hen := enc_len v ho
    obtain ⟨hc, hm⟩ := ht.cases
    have hok : ∀ x ∈ v.l, BytesOk x := fun x hx => ih x (by have := wts_mem hx; have := wt_eq v; omega) (by have := wts_mem hx; have := wt_eq v; omega) (by obtain ⟨k, n, t, l⟩ := v; rw [OkV] at ho; exact okVs_mem ho.2.2.2.2 hx) (hm x hx)
    rcases hc with ⟨h1, h2⟩ | ⟨h1, h2, h3⟩ | ⟨h1, h2⟩ | h1 | h1
    · by_cases hn : v.n < 0
      · exact rb_neg h1 h2 hn
      · exact rb_pos h1 h2 hn
    · exact rb_bool h1 h3 h2
    · exact rb_text h1 h2 (by have := wt_eq v; omega)
    · exact rb_list h1 hok (by omega)
    · exact rb_map h1 hok (by omega)
set_option maxRecDepth 100000 in
set_option maxHeartbeats 1000000 in
theorem rencode_any {B : Nat → Prop} {y : List UInt8} (hy : y.length ≤ 9223372036854775807) {v : V} {ao : Option Addr} {cap : Nat} {w : World} (hv : IsW B w v (.slice ao v.l.length cap)) (hw : wt v ≤ 4611686018427387904) :
    Calls Try.prog 41 #[.agg #[.int .i64 v.k, .int .i64 v.n, .string ⟨v.t.toArray⟩, .slice ao v.l.length cap], .string ⟨y.toArray⟩] w fun r w' => (∃ a c, r = .returned (.tuple #[.slice a (encR y v).1.length c, .int .i64 (encR y v).2]) ∧ Own8 w' w.heap.size a c (encR y v).1) ∧ Below w.heap.size w w' := by
  obtain ⟨w0, hW, hb0, hsz, d0, d1, d2, d3⟩ := boxed w v (.slice ao v.l.length cap)
  have hF := rfits_any hy (hv.below hb0) hw
  have hgb : w.heap.size < w0.heap.size := by omega
  rcases hf : fitS y v with _ | _
  · have hR : encR y v = ([], 1) := by unfold encR; rw [if_neg (by simp [hf])]
    rw [hR]
    rw [hf] at hF
    clear hv hR
    go_enter Try.func41, Try.ntmps41
    go_wp2_with fail
    refine hF.mono ?_
    rintro e w2 ⟨rfl, hb2⟩
    go_wp2
    go_ret2
    exact ⟨⟨none, 0, rfl, World.ownsRow_nil _ _ _ _⟩, hb0.trans (hb2.mono (by omega))⟩
  · have hR : encR y v = (enc v, 0) := by unfold encR; rw [if_pos hf]
    have hwt := fit_wt hf
    obtain ⟨T, -, hS⟩ := fit_shp hf
    have hBy := rbytes_all _ v (Nat.lt_succ_self _) hwt hv.ok (shp_tm hS)
    rw [hR]
    rw [hf] at hF
    have hWr : ∀ w2, Below w0.heap.size w0 w2 → Calls Try.prog 66 #[.agg #[.int .i64 v.k, .int .i64 v.n, .string ⟨v.t.toArray⟩, .slice ao v.l.length cap]] w2 fun r w' => OutB w2.heap.size w2 (enc v) r w' := fun w2 hb2 => hBy ao cap B w2 ((hv.below hb0).below hb2)
    clear hv hR hBy hS
    go_enter Try.func41, Try.ntmps41
    go_wp2_with fail
    refine hF.mono ?_
    rintro e w2 ⟨rfl, hb2⟩
    have e0 := ((bcell hb2).1 _ 0 hgb).trans d0
    have e1 := ((bcell hb2).1 _ 1 hgb).trans d1
    have e2 := ((bcell hb2).1 _ 2 hgb).trans d2
    have e3 := ((bcell hb2).1 _ 3 hgb).trans d3
    clear hF hW d0 d1 d2 d3
    go_wp2_with fail
    refine (hWr w2 hb2).mono ?_
    rintro e w3 ⟨⟨a3, c3, rfl, h3⟩, hb3⟩
    clear hWr
    have hs := hb2.size
    go_wp2
    go_ret2
    exact ⟨⟨a3, c3, rfl, owns_base h3 (by omega)⟩, hb0.trans ((hb2.trans (hb3.mono hb2.size)).mono (by omega))⟩
end Go.Proofs.Ytkbplffckkjbfaa
