/- Texts of ours, joined: Sa. -/
import Derived.Test.YtnijcolomoobnaaGreatDoorK15
import Derived.Test.YtnijcolomoobnaaGreatDoorK06
import Derived.Deep.LoopGhost
namespace Go.Proofs.YtnijcolomoobnaaGreatDoor
open Go.RowKit
set_option linter.unusedVariables false
set_option linter.unusedSimpArgs false
attribute [local go_sem ↓] Go.wp_at_zero Go.wp_at_succ

def RmB (s : Nat) (r z : Int) : Prop := ((s : Int) ≤ r → z = r - s) ∧ (¬ (s : Int) ≤ r → z < 0) ∧ -3000000 ≤ z ∧ z ≤ r
def RmA (v : V) (r : Int) (e : Ending) : Prop := ∃ z : Int, e = .returned (.int .i64 z) ∧ RmB (wt v) r z
theorem wts_take {l : List V} {q : Nat} {x : V} (h : l[q]? = some x) : wts (l.take (q + 1)) = wts (l.take q) + wt x := by
  induction l generalizing q with
  | nil => simp at h
  | cons a r ih =>
    cases q with
    | zero => simp at h; subst h; simp [wts]
    | succ q => simp only [List.take_succ_cons, wts]; rw [ih (by simpa using h)]; omega
theorem wts_part (l : List V) (q : Nat) : wts (l.take q) ≤ wts l := by
  induction l generalizing q with
  | nil => simp
  | cons a r ih =>
    cases q with
    | zero => simp [wts]
    | succ q => simp only [List.take_succ_cons, wts]; have := ih q; omega
set_option maxRecDepth 100000 in
set_option maxHeartbeats 4000000 in
theorem room_any : ∀ (N : Nat) (v : V) (sl : Value) (B : Nat → Prop) (w : World) (r : Int), wt v < N → wt v ≤ 1000000 → 0 ≤ r → r ≤ 16384 → IsW B w v sl →
    Calls Tryz.prog 21 #[.agg #[.int .i64 v.k, .int .i64 v.n, .string ⟨v.t.toArray⟩, sl], .int .i64 r] w fun e w' => RmA v r e ∧ Below w.heap.size w w'
  | 0, v, sl, B, w, r, h, _, _, _, _ => by omega
  | N + 1, v, sl, B, w, r, hN, hwt, hr0, hr1, hv => by
    obtain ⟨ao, cap, rfl, hc1, hc2⟩ := hv.vs.slice
    obtain ⟨w0, hW, hb0, hsz, d0, d1, d2, d3⟩ := boxed w v (.slice ao v.l.length cap)
    have hgb : w.heap.size < w0.heap.size := by omega
    have hwe := wt_eq v
    have hround : ∀ (q : Nat) (wr : World), q < v.l.length → Below w0.heap.size w0 wr →
        ∃ x g o ax cx, v.l[q]? = some x ∧ ao = some ⟨g, o, none⟩ ∧ g < wr.heap.size ∧ wr.cell? ⟨g, o + q * 4, none⟩ = some (.int .i64 x.k) ∧ wr.cell? ⟨g, o + q * 4 + 1, none⟩ = some (.int .i64 x.n) ∧ wr.cell? ⟨g, o + q * 4 + 2, none⟩ = some (.string ⟨x.t.toArray⟩) ∧ wr.cell? ⟨g, o + q * 4 + 3, none⟩ = some (.slice ax x.l.length cx) ∧
          ∀ (z : Int) (w2 : World), Below wr.heap.size wr w2 → 0 ≤ z → z ≤ 16384 → Calls Tryz.prog 21 #[.agg #[.int .i64 x.k, .int .i64 x.n, .string ⟨x.t.toArray⟩, .slice ax x.l.length cx], .int .i64 z] w2 fun e w' => RmA x z e ∧ Below w2.heap.size w2 w' := by
      intro q wr hq hB
      have hx : v.l[q]? = some v.l[q] := List.getElem?_eq_getElem hq
      have hBw : Below w.heap.size w wr := hb0.trans (hB.mono (by omega))
      obtain ⟨g, o, ax, cx, e, _, hg, c0, c1, c2, c3, hw⟩ := (hv.vs.below hBw).get hx
      have hwx : wt v.l[q] ≤ wts v.l := wts_in (List.getElem_mem hq)
      exact ⟨v.l[q], g, o, ax, cx, hx, e, hg, c0, c1, c2, c3, fun z w2 hb2 h1 h2 => room_any N _ _ B w2 z (by omega) (by omega) h1 h2 (hw.below hb2)⟩
    have hwp : ∀ q, wts (v.l.take q) ≤ wts v.l := wts_part v.l
    obtain ⟨tl, htl⟩ : ∃ tl : Nat, v.t.length = tl := ⟨_, rfl⟩
    have htlI : (tl : Int) ≤ 1000000 := by omega
    have Hwe : Hid (wt v = 1 + tl + wts v.l) := by show _ = _; rw [← htl]; exact hwe
    have Hwt : Hid (wt v ≤ 1000000) := hwt
    have Hwp : Hid (∀ q, wts (v.l.take q) ≤ wts v.l) := hwp
    have hsize : (v.t.toArray.size : Int) = tl := by simp [htl]
    have hc3 : (v.l.length : Int) ≤ 1000000 := by have := hwe; have : v.l.length ≤ wts v.l := wts_len v.l; omega
    clear hv hwe hwt hN hwp
    go_enter Tryz.func21, Tryz.ntmps21
    go_wp2_with fail
    go_loopg [1, 16] v.l.length (fun g s i wr => ∃ (q : Nat) (z : Int), q ≤ v.l.length ∧ g = v.l.length - q ∧ i = .int .i64 q ∧ s = .int .i64 z ∧ Hid (RmB (1 + tl + wts (v.l.take q)) r z) ∧ -3000000 ≤ z ∧ z ≤ 16384 ∧ Below w0.heap.size w0 wr)
    case atStart =>
      refine ⟨0, r - (1 + tl), Nat.zero_le _, rfl, rfl, rfl, ?_, by omega, by omega, Below.refl _ _⟩
      show RmB _ _ _
      unfold RmB
      simp only [List.take_zero, wts]
      omega
    case round =>
      obtain ⟨q, z, hq, rfl, rfl, rfl, HR, hz1, hz2, hBr⟩ := hrel
      have hBw : Below w.heap.size w wr := hb0.trans (hBr.mono (by omega))
      by_cases hlt : q < v.l.length
      · obtain ⟨x, g, o, ax, cx, hx, rfl, hg, c0, c1, c2, c3, hcall⟩ := hround q wr hlt hBr
        have hltI : (q : Int) < (v.l.length : Int) := by omega
        have hqI : (0 : Int) ≤ (q : Int) := by omega
        have Hx : Hid (v.l[q]? = some x) := hx
        have hba : Below wr.heap.size wr (wr.alloc (.cells #[.int .i64 x.k, .int .i64 x.n, .string ⟨x.t.toArray⟩, .slice ax x.l.length cx] 31)) := (Below.refl _ _).alloc (Nat.le_refl _) _
        clear hx hround
        by_cases hz : z < 0
        · have hfin : Hid (RmB (wt v) r z) := by
            have := HR.out
            have h1 := Hwe.out
            have h2 := Hwp.out q
            show RmB _ _ _
            unfold RmB at *
            omega
          have hzb : decide (z < 0) = true := by simpa using hz
          clear hcall HR
          go_wp2
          go_ret
          exact ⟨⟨z, rfl, hfin.out⟩, hBw.trans (hba.mono hBw.size)⟩
        · have hz0 : 0 ≤ z := by omega
          have hzb : decide (z < 0) = false := by simpa using hz
          have hc := hcall z _ hba hz0 hz2
          clear hcall
          go_wp2_with fail
          refine hc.mono ?_
          rintro e w3 ⟨⟨z', rfl, hz'⟩, hb3⟩
          clear hc c0 c1 c2 c3
          have HR' : Hid (RmB (1 + tl + wts (v.l.take (q + 1))) r z') := by
            have := HR.out
            rw [wts_take Hx.out]
            show RmB _ _ _
            unfold RmB at *
            omega
          have hz1' : -3000000 ≤ z' := hz'.2.2.1
          have hz2' : z' ≤ 16384 := by have := hz'.2.2.2; omega
          have hB3 : Below w0.heap.size w0 w3 := hBr.trans ((hba.trans (hb3.mono hba.size)).mono hBr.size)
          clear hz' HR
          go_wp2_with fail
          go_roundg (v.l.length - (q + 1))
          case measure => omega
          case rel => exact ⟨q + 1, z', by omega, rfl, by go_num, rfl, HR', hz1', hz2', hB3⟩
      · have hltI : ¬ (q : Int) < (v.l.length : Int) := by omega
        have hqe : q = v.l.length := by omega
        have hfin : Hid (RmB (wt v) r z) := by
          have := HR.out
          have h1 := Hwe.out
          rw [hqe, List.take_length] at this
          show RmB _ _ _
          rw [h1]
          exact this
        clear hround HR hqe
        go_wp2
        go_ret
        exact ⟨⟨z, rfl, hfin.out⟩, hBw⟩
def Enters (K : FuncId) : Prop := ∀ (args : Array Value) (wx : World), (callFunc K args).run Tryz.prog wx = .ok (.enter K args) wx
theorem enters_sound : Enters 9 := fun args wx => by kernel_rfl
theorem enters_formed : Enters 22 := fun args wx => by kernel_rfl
def IsFn1 (K : FuncId) (B : Nat → Prop) (l : List V) (p : V → Bool) : Prop := ∀ (v : V) (sl : Value) (w : World), v ∈ l → IsW B w v sl →
    Calls Tryz.prog K #[.agg #[.int .i64 v.k, .int .i64 v.n, .string ⟨v.t.toArray⟩, sl]] w fun r w' => r = .returned (.bool (p v)) ∧ Below w.heap.size w w'
set_option maxRecDepth 100000 in
set_option maxHeartbeats 1000000 in
theorem vclosure_any {K : FuncId} {B : Nat → Prop} {l : List V} {p : V → Bool} (hok : IsFn1 K B l p) (hcf : Enters K) {v : V} {sl : Value} {w : World} {g : Nat} (hm : v ∈ l) (hv : IsW B w v sl) (hg : w.cell? ⟨g, 0, none⟩ = some (.func (Fn.func K) #[] #[])) (hgl : g < w.heap.size) :
    Calls Tryz.prog 77 #[.agg #[.int .i64 v.k, .int .i64 v.n, .string ⟨v.t.toArray⟩, sl], .pointer (some ⟨g, 0, none⟩)] w fun r w' => r = .returned (.bool (!p v)) ∧ Below w.heap.size w w' := by
  obtain ⟨ao, cap, rfl, hc1, hc2⟩ := hv.vs.slice
  obtain ⟨w0, hW, hb0, hsz, d0, d1, d2, d3⟩ := boxed w v (.slice ao v.l.length cap)
  have hg' : w0.cell? ⟨g, 0, none⟩ = some (.func (Fn.func K) #[] #[]) := by rw [(bcell hb0).1 _ _ hgl]; exact hg
  have hC := hok v _ w0 hm (hv.below hb0)
  unfold Enters at hcf
  clear hv hok hg hm
  go_enter Tryz.func77, Tryz.ntmps77
  go_wp2_with fail
  refine hC.mono ?_
  rintro e w3 ⟨rfl, hb3⟩
  go_wp2
  go_ret
  exact ⟨rfl, hb0.trans (hb3.mono hb0.size)⟩
set_option maxRecDepth 100000 in
set_option maxHeartbeats 1000000 in
theorem vindex_any {K : FuncId} {B : Nat → Prop} {p : V → Bool} {l : List V} (hok : IsFn1 K B l p) (hcf : Enters K) {ao : Option Addr} {cap : Nat} {w : World} {g0 : Nat} (hl : IsVs B w l (.slice ao l.length cap)) (hg : w.cell? ⟨g0, 0, none⟩ = some (.func (Fn.func K) #[] #[])) (hgl : g0 < w.heap.size) :
    Calls Tryz.prog 114 #[.slice ao l.length cap, .func (Fn.func 77) #[] #[.pointer (some ⟨g0, 0, none⟩)]] w fun r w' => (∃ i : Int, r = .returned (.int .i64 i) ∧ decide (0 ≤ i) = l.any (fun x => !p x)) ∧ Below w.heap.size w w' := by
  obtain ⟨ao', cap', e, a1, a2⟩ := hl.slice
  simp only [Value.slice.injEq] at e
  obtain ⟨rfl, -, rfl⟩ := e
  have hround : ∀ (q : Nat) (wr : World), q < l.length → Below w.heap.size w wr →
      ∃ x g o ax cx, l[q]? = some x ∧ ao = some ⟨g, o, none⟩ ∧ g < wr.heap.size ∧ wr.cell? ⟨g, o + q * 4, none⟩ = some (.int .i64 x.k) ∧ wr.cell? ⟨g, o + q * 4 + 1, none⟩ = some (.int .i64 x.n) ∧ wr.cell? ⟨g, o + q * 4 + 2, none⟩ = some (.string ⟨x.t.toArray⟩) ∧ wr.cell? ⟨g, o + q * 4 + 3, none⟩ = some (.slice ax x.l.length cx) ∧
        Calls Tryz.prog 77 #[.agg #[.int .i64 x.k, .int .i64 x.n, .string ⟨x.t.toArray⟩, .slice ax x.l.length cx], .pointer (some ⟨g0, 0, none⟩)] wr fun r w' => r = .returned (.bool (!p x)) ∧ Below wr.heap.size wr w' := by
    intro q wr hq hB
    have hx : l[q]? = some l[q] := List.getElem?_eq_getElem hq
    obtain ⟨g, o, ax, cx, e, _, hg1, c0, c1, c2, c3, hw⟩ := (hl.below hB).get hx
    have hs := hB.size
    exact ⟨l[q], g, o, ax, cx, hx, e, hg1, c0, c1, c2, c3, vclosure_any hok hcf (List.getElem_mem hq) hw (by rw [(bcell hB).1 _ _ hgl]; exact hg) (by omega)⟩
  clear hok hl hg hcf
  go_enter Tryz.func114, Tryz.ntmps114
  go_wp2_with fail
  go_loopg [8] l.length (fun g i wr => ∃ q : Nat, q ≤ l.length ∧ g = l.length - q ∧ i = .int .i64 q ∧ Hid (∀ j x, j < q → l[j]? = some x → p x = true) ∧ Below w.heap.size w wr)
  case atStart => exact ⟨0, Nat.zero_le _, rfl, rfl, fun j x h => by omega, Below.refl _ _⟩
  case round =>
    obtain ⟨q, hq, rfl, rfl, HA, hB⟩ := hrel
    by_cases hlt : q < l.length
    · obtain ⟨x, g, o, ax, cx, hx, rfl, hg, c0, c1, c2, c3, hcall⟩ := hround q wr hlt hB
      have hltI : (q : Int) < (l.length : Int) := by omega
      have hx' : Hid (l[q]? = some x) := hx
      clear hround hx
      go_wp2_with fail
      refine hcall.mono ?_
      rintro e w3 ⟨rfl, hb3⟩
      clear hcall
      have hB3 : Below w.heap.size w w3 := hB.trans (hb3.mono hB.size)
      rcases hp : p x with _ | _
      · have hfin : Hid (decide (0 ≤ (q : Int)) = l.any fun x => !p x) := by
          show _ = _
          rw [decide_eq_true (by omega)]
          symm
          rw [List.any_eq_true]
          exact ⟨x, List.mem_of_getElem? hx'.out, by simp [hp]⟩
        go_wp2
        go_ret
        exact ⟨⟨q, rfl, hfin⟩, hB3⟩
      · have HA2 : Hid (∀ j x, j < q + 1 → l[j]? = some x → p x = true) := by
          intro j z hj hz
          by_cases e : j = q
          · subst e; rw [hx'.out] at hz; cases hz; exact hp
          · exact HA.out j z (by omega) hz
        go_wp2_with fail
        go_roundg (l.length - (q + 1))
        case measure => omega
        case rel => exact ⟨q + 1, by omega, rfl, by go_num, HA2, hB3⟩
    · have hltI : ¬ (q : Int) < (l.length : Int) := by omega
      have hfin : Hid (decide (0 ≤ (-1 : Int)) = l.any fun x => !p x) := by
        show _ = _
        rw [decide_eq_false (by omega)]
        symm
        rw [List.any_eq_false]
        intro x hx
        obtain ⟨j, hj⟩ := List.mem_iff_getElem?.1 hx
        have := (List.getElem?_eq_some_iff.1 hj).1
        simp [HA.out j x (by omega) hj]
      clear hround HA
      go_wp2
      go_ret
      exact ⟨⟨-1, rfl, hfin⟩, hB⟩
set_option maxRecDepth 100000 in
set_option maxHeartbeats 1000000 in
theorem vcontains_any {K : FuncId} {B : Nat → Prop} {p : V → Bool} {l : List V} (hok : IsFn1 K B l p) (hcf : Enters K) {ao : Option Addr} {cap : Nat} {w : World} {g0 : Nat} (hl : IsVs B w l (.slice ao l.length cap)) (hg : w.cell? ⟨g0, 0, none⟩ = some (.func (Fn.func K) #[] #[])) (hgl : g0 < w.heap.size) :
    Calls Tryz.prog 76 #[.slice ao l.length cap, .func (Fn.func 77) #[] #[.pointer (some ⟨g0, 0, none⟩)]] w fun r w' => r = .returned (.bool (l.any (fun x => !p x))) ∧ Below w.heap.size w w' := by
  have hC := vindex_any hok hcf hl hg hgl
  clear hok hl hg hcf
  go_enter Tryz.func76, Tryz.ntmps76
  go_wp2_with fail
  refine hC.mono ?_
  rintro e w3 ⟨⟨i, rfl, hi⟩, hb3⟩
  clear hC
  have Hi : Hid (decide (0 ≤ i) = l.any fun x => !p x) := hi
  clear hi
  go_wp2
  go_ret
  exact ⟨ret_bool Hi.out, hb3⟩
set_option maxRecDepth 100000 in
set_option maxHeartbeats 1000000 in
theorem areAll_any {K : FuncId} {B : Nat → Prop} {p : V → Bool} {l : List V} (hok : IsFn1 K B l p) (hcf : Enters K) {ao : Option Addr} {cap : Nat} {w : World} (hl : IsVs B w l (.slice ao l.length cap)) :
    Calls Tryz.prog 36 #[.slice ao l.length cap, .func (Fn.func K) #[] #[]] w fun r w' => r = .returned (.bool (l.all p)) ∧ Below w.heap.size w w' := by
  have hb0 : Below w.heap.size w (w.alloc (.cells #[.func (Fn.func K) #[] #[]] 32)) := (Below.refl _ _).alloc (Nat.le_refl _) _
  have hC := vcontains_any (g0 := w.heap.size) hok hcf (hl.below hb0) (cell_of_one (heap_new w _)) (by simp)
  have hfin : Hid (l.all p = !(l.any (fun x => !p x))) := by
    show _ = _
    rw [Bool.eq_iff_iff]
    simp
  clear hok hl hcf
  generalize l.any (fun x => !p x) = r at *
  go_enter Tryz.func36, Tryz.ntmps36
  go_wp2_with fail
  refine hC.mono ?_
  rintro e w3 ⟨rfl, hb3⟩
  clear hC
  go_wp2
  go_ret
  exact ⟨ret_bool hfin.out.symm, hb0.trans (hb3.mono hb0.size)⟩
end Go.Proofs.YtnijcolomoobnaaGreatDoor
