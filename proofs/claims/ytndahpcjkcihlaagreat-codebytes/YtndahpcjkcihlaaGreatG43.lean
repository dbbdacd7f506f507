/- Texts of ours, joined: Jv, Jw, Joy, Lob. -/
import Derived.Test.YtndahpcjkcihlaaGreatG42
import Derived.Test.YtndahpcjkcihlaaGreatG39
import Derived.Test.YtndahpcjkcihlaaGreatG40
import Derived.Test.YtndahpcjkcihlaaGreatG38
import Derived.Test.YtndahpcjkcihlaaGreatG17
import Derived.Test.YtndahpcjkcihlaaGreatG23
import Derived.ChangeSlices
import Derived.WideShapes
/- What is read and kept: mathematics; two rows of bytes compared: the program's. -/
namespace Go.Proofs.YtndahpcjkcihlaaGreat
open Go.RowKit
set_option linter.unusedVariables false
set_option linter.unusedSimpArgs false
attribute [local go_sem ↓] Go.wp_at_zero Go.wp_at_succ

theorem trM_id {m : Md} (h1 : m.consts.length ≤ 16384) (h2 : m.funcs.length ≤ 32) (h3 : ∀ f ∈ m.funcs, f.code.length ≤ 16384) : trM m = m := by
  have e : m.funcs.map trF = m.funcs := by
    have h4 : ∀ f ∈ m.funcs, trF f = f := fun f hf => by
      have := h3 f hf
      unfold trF
      rw [List.take_of_length_le (by omega)]
    have := List.map_congr_left h4
    simpa using this
  unfold trM
  rw [e, List.take_of_length_le (by omega), List.take_of_length_le (by omega)]
theorem run_small {m : Md} {states : Int} (h : Run m states) : m.consts.length ≤ 16384 ∧ m.funcs.length ≤ 32 ∧ ∀ f ∈ m.funcs, f.code.length ≤ 16384 :=
  ⟨h.few.2, h.few.1, fun f hf => by
    obtain ⟨i, hi⟩ := List.mem_iff_getElem?.1 hf
    have := (h.fun_ i f hi).num
    unfold NumOk at this
    omega⟩
theorem run_trM {m : Md} {states : Int} (h : Run (trM m) states) : trM m = m := by
  obtain ⟨h1, h2, h3⟩ := run_small h
  have l1 : (m.consts.take 16385).length ≤ 16384 := h1
  have l2 : ((m.funcs.map trF).take 33).length ≤ 32 := h2
  have l3 : m.funcs.length ≤ 32 := by
    rw [List.length_take, List.length_map] at l2
    omega
  rw [List.length_take] at l1
  refine trM_id (by omega) l3 (fun f hf => ?_)
  have hmem : trF f ∈ (trM m).funcs := by
    show trF f ∈ (m.funcs.map trF).take 33
    rw [List.take_of_length_le (by rw [List.length_map]; omega)]
    exact List.mem_map_of_mem hf
  have h4 : (f.code.take 16385).length ≤ 16384 := h3 _ hmem
  rw [List.length_take] at h4
  omega
theorem trM_run {m : Md} {states : Int} (h : Run m states) : trM m = m := by
  obtain ⟨h1, h2, h3⟩ := run_small h
  exact trM_id h1 h2 h3
/-- How long a module's bytes are, of any that can be run. -/
theorem encM_len' {m : Md} {states : Int} (hr : Run m states) (ho : ∀ v ∈ m.consts, OkV v) : (encM m).length ≤ 18 + 27 * csz m.consts + 45 * fsz m.funcs := by
  have h1 := cs_len (l := m.consts) (fun v hv => by
    obtain ⟨hl, -, T, hS⟩ := ctype_shp (hr.con v hv)
    refine eC_len (ho v hv) hl ?_
    have := hS.kind
    rw [this]
    cases T <;> simp [kd])
  have hst := hr.st
  have hfw := hr.few
  have h2 := fs_len (l := m.funcs) (fun f hf => by
    obtain ⟨i, hi⟩ := List.mem_iff_getElem?.1 hf
    have hil := (List.getElem?_eq_some_iff.1 hi).1
    exact eF_len (hr.fun_ i f hi) (by omega) (by omega) (by omega))
  have h3 := num_le9 (n := m.consts.length) (by omega)
  have h4 := num_le9 (n := m.funcs.length) (by omega)
  unfold encM
  simp only [List.length_append]
  omega
theorem fit_trM {b : List UInt8} (h : (rdM b).2 = some []) (hl : b.length ≤ 900000) : Fit (trM (rdM b).1) := by
  have hsz := rdM_sz h
  refine ⟨fun v hv => ?_, ?_, ?_, fun f hf => ?_⟩
  · have hv' : v ∈ (rdM b).1.consts := List.mem_of_mem_take hv
    have h1 := mem_csz hv'
    have h2 : v.l = [] := by
      rw [rdM_eq] at hv'
      exact rdG_all (f := rdC) (P := fun v => v.l = []) (fun st => (rdC_ok st).2.2.2) _ _ v hv'
    rw [wt_nil h2]
    omega
  · show (List.take 16385 _).length ≤ _
    rw [List.length_take]; omega
  · show (List.take 33 _).length ≤ _
    rw [List.length_take]; omega
  · have hf' : f ∈ (rdM b).1.funcs.map trF := List.mem_of_mem_take hf
    obtain ⟨g, hg, rfl⟩ := List.mem_map.1 hf'
    show (List.take 16385 _).length ≤ _
    rw [List.length_take]; omega
set_option maxRecDepth 100000 in
set_option maxHeartbeats 1000000 in
theorem equal_any {B B' : Nat → Prop} {w : World} {a a' : Option Addr} {n c n' c' : Nat} {xs ys : List UInt8} (hx : IsB B w (.slice a n c) xs) (hy : IsB B' w (.slice a' n' c') ys) : Calls Tryz.prog 20 #[.slice a n c, .slice a' n' c'] w fun e w' => e = .returned (.bool (decide (xs = ys))) ∧ w' = w := by
  have c1 := str_b hx
  have c2 := str_b hy
  clear hx hy
  by_cases h : xs = ys
  · subst h
    go_enter Tryz.func20, Tryz.ntmps20
    go_wp2
    go_ret
    exact ⟨ret_bool (by simp), rfl⟩
  · go_enter Tryz.func20, Tryz.ntmps20
    go_wp2
    go_ret
    exact ⟨ret_bool (by simp [h]), rfl⟩
theorem MPost.md {w : World} {m : Md} {ok : Bool} {e : Ending} {w' : World} (h : MPost w m ok e w') : ∃ a c fa fc n1, e = .returned (.tuple #[.agg #[.slice a m.consts.length c, .slice fa m.funcs.length fc], .bool ok]) ∧ Gv (fun k => w.heap.size ≤ k ∧ k < n1) w' (.slice a m.consts.length c) m.consts ∧ GF n1 w' (.slice fa m.funcs.length fc) m.funcs ∧ w.heap.size ≤ n1 ∧ n1 ≤ w'.heap.size ∧ IsMd (From w.heap.size) w' m (.slice a m.consts.length c) (.slice fa m.funcs.length fc) ∧ Below w.heap.size w w' := by
  obtain ⟨⟨a, c, fa, fc, n1, he, h1, h2, h3, h4⟩, hb⟩ := h
  exact ⟨a, c, fa, fc, n1, he, h1, h2, h3, h4, ⟨h1.vs.base (fun k hk _ => hk.1), h2.fus.base (fun k hk _ => by show w.heap.size ≤ k; have : n1 ≤ k := hk; omega)⟩, hb⟩
end Go.Proofs.YtndahpcjkcihlaaGreat
/- Decode: the program's. -/
namespace Go.Proofs.YtndahpcjkcihlaaGreat
open Go.RowKit
set_option linter.unusedVariables false
set_option linter.unusedSimpArgs false
attribute [local go_sem ↓] Go.wp_at_zero Go.wp_at_succ

set_option maxRecDepth 100000 in
set_option maxHeartbeats 4000000 in
theorem ldecode_any {B : Nat → Prop} {w : World} {ab : Option Addr} {cb : Nat} {b : List UInt8} (hb : IsB B w (.slice ab b.length cb) b) (hl : b.length ≤ 900000) (states : Int) :
    Calls Tryz.prog 8 #[.slice ab b.length cb, .int .i64 states] w fun e w' => OutD w (decR b states) e w' := by
  obtain ⟨w0, hW0, hb0, hl0, hx0⟩ := box2 w (.slice none 0 0) (.slice none 0 0) 25
  have hlt0 : w.heap.size < w0.heap.size := by omega
  have hb00 := hb.since (Since.of_below hb0)
  have hR := read_any' hb00 hl
  obtain ⟨D, HD⟩ : ∃ D, Hid (decR b states = D) := ⟨_, rfl⟩
  rw [HD.out]
  have hD1 : Hid ((rdM b).2 ≠ some [] → D = (Md.no, 11)) := fun h => by rw [← HD.out]; unfold decR; rw [if_pos h]
  have hD2 : Hid ((rdM b).2 = some [] → ¬ Run (rdM b).1 states → D = (Md.no, 40)) := fun h h' => by rw [← HD.out]; unfold decR; rw [if_neg (by simpa using h), if_pos h']
  have hD3 : Hid ((rdM b).2 = some [] → Run (rdM b).1 states → encM (rdM b).1 ≠ b → D = (Md.no, 11)) := fun h h' h'' => by rw [← HD.out]; unfold decR; rw [if_neg (by simpa using h), if_neg (by simpa using h'), if_pos h'']
  have hD4 : Hid ((rdM b).2 = some [] → Run (rdM b).1 states → encM (rdM b).1 = b → D = ((rdM b).1, 0)) := fun h h' h'' => by rw [← HD.out]; unfold decR; rw [if_neg (by simpa using h), if_neg (by simpa using h'), if_neg (by simpa using h'')]
  have hfit : Hid ((rdM b).2 = some [] → Fit (trM (rdM b).1)) := fun h => fit_trM h hl
  have hsz : Hid ((rdM b).2 = some [] → csz (rdM b).1.consts + fsz (rdM b).1.funcs ≤ b.length) := fun h => rdM_sz h
  clear HD hl0
  go_enter Tryz.func8, Tryz.ntmps8
  go_wp2_with fail
  refine hR.mono ?_
  rintro e w1 hp
  obtain ⟨sa, sc, fa, fc, n1, rfl, hG1, hF1, hn1, hn2, hmd1, hb1⟩ := hp.md
  clear hR hp
  have hx1 := (hb1.block _ hlt0).trans hx0
  obtain ⟨wz, w2, hWz, hW2, hbz, hb2, -, hx2, hz⟩ := zmbox w1 (.slice sa (trM (rdM b).1).consts.length sc) (.slice fa (trM (rdM b).1).funcs.length fc)
  obtain ⟨z0, z1, y0, y1, hlz⟩ := cells_k2 hz
  obtain ⟨c0, c1, -, -, hl2⟩ := cells_k2 hx2
  have hs1 := hb1.size
  have hs2 := hb2.size
  have hB12 : Below w0.heap.size w0 w2 := hb1.trans (hb2.mono hb1.size)
  have hB2 : Below w.heap.size w w2 := hb0.trans (hB12.mono hb0.size)
  have hx02 := (hB12.block _ hlt0).trans hx0
  obtain ⟨o0, o1, fo0, fo1, hlo⟩ := cells_k2 hx02
  have hmd2 := hmd1.below hb2
  have hG2 := hG1.below hb2
  have hF2 := hF1.below hb2
  clear hz hG1 hF1 hmd1 hx1 hx0 hW0
  by_cases hok : (rdM b).2 = some []
  rotate_left
  · have hokb : ((rdM b).2 == some []) = false := by rw [beq_eq_false_iff_ne]; exact hok
    have hDv := hD1.out hok
    obtain ⟨wN, hWN, hxN, hbN, -, -⟩ := resW hx02 hB2 (.slice none 0 0) (.slice none 0 0)
    obtain ⟨t0, t1, -, -, hlN⟩ := cells_k2 hxN
    have hpost : OutD w D (.returned (.tuple #[.agg #[.slice none 0 0, .slice none 0 0], .int .i64 11])) wN := by rw [hDv]; exact outD_no hbN
    rw [hokb]
    clear hD1 hD2 hD3 hD4 hfit hsz hok hDv hmd2 hG2 hF2 hxN hbN hx2 hx02 hb hb00
    generalize (trM (rdM b).1).consts.length = L1 at *
    generalize (trM (rdM b).1).funcs.length = L2 at *
    go_wp2_with fail
    exact bodyPost_ret (v := .tuple #[.agg #[.slice none 0 0, .slice none 0 0], .int .i64 11]) (by simp [results, Tryz.results8, go_sem, hlN, t0, t1]) rfl hpost
  have hokb : ((rdM b).2 == some []) = true := by rw [hok]; rfl
  rw [hokb]
  have hft := hfit.out hok
  have hsz1 := hsz.out hok
  have hEn := lencode_any hmd2 hft states (fun hr => by
    have he := run_trM hr
    rw [he] at hr ⊢
    have h1 := encM_len' hr (okVs_w (by have := hmd2.con; rw [he] at this; exact this) (fun v hv => (ctype_shp (hr.con v hv)).1))
    omega)
  by_cases hrun : Run (rdM b).1 states
  rotate_left
  · have hnr : ¬ Run (trM (rdM b).1) states := fun h => hrun (by have := run_trM h; rwa [this] at h)
    have hDv := hD2.out hok hrun
    have hee : encE (trM (rdM b).1) states = ([], 40) := by unfold encE; rw [if_neg hnr]
    rw [hee] at hEn
    clear hD1 hD2 hD3 hD4 hfit hsz hok hnr hrun hmd2 hG2 hF2 hft hsz1 hee hb hb00
    generalize (trM (rdM b).1).consts.length = L1 at *
    generalize (trM (rdM b).1).funcs.length = L2 at *
    go_wp2_with fail
    refine hEn.mono ?_
    rintro e w3 ⟨⟨a3, N3, c3, rfl, -⟩, hb3⟩
    have hx03 := (hb3.block _ hlo).trans hx02
    have hB3 : Below w.heap.size w w3 := hB2.trans (hb3.mono hB2.size)
    obtain ⟨p0, p1, fp0, fp1, hlp⟩ := cells_k2 hx03
    obtain ⟨wN, hWN, hxN, hbN, -, -⟩ := resW hx03 hB3 (.slice none 0 0) (.slice none 0 0)
    obtain ⟨t0, t1, -, -, hlN⟩ := cells_k2 hxN
    have hpost : OutD w D (.returned (.tuple #[.agg #[.slice none 0 0, .slice none 0 0], .int .i64 40])) wN := by rw [hDv]; exact outD_no hbN
    clear hEn hxN hbN hx2 hx02 hx03 hb3 hB3 hDv c0 c1 o0 o1 fo0 fo1 hWz hW2 z0 z1 y0 y1
    go_wp2_with fail
    exact bodyPost_ret (v := .tuple #[.agg #[.slice none 0 0, .slice none 0 0], .int .i64 40]) (by simp [results, Tryz.results8, go_sem, hlN, t0, t1]) rfl hpost
  have het := trM_run hrun
  have hee : encE (trM (rdM b).1) states = (encM (rdM b).1, 0) := by unfold encE; rw [het, if_pos hrun]
  rw [hee] at hEn
  rw [het] at hEn hG2 hF2 hx2 hW2 hmd2 c0 c1 ⊢
  have hD3' : Hid (encM (rdM b).1 ≠ b → D = (Md.no, 11)) := hD3.out hok hrun
  have hD4' : Hid (encM (rdM b).1 = b → D = ((rdM b).1, 0)) := hD4.out hok hrun
  clear hD1 hD2 hD3 hD4 hfit hsz hok hrun hmd2 hft hsz1 hee het hokb
  generalize (rdM b).1 = m at *
  obtain ⟨X, HX⟩ : ∃ X, Hid (encM m = X) := ⟨_, rfl⟩
  rw [HX.out] at hEn hD3' hD4'
  have hGH : Hid (Gv (fun k => w0.heap.size ≤ k ∧ k < n1) w2 (.slice sa m.consts.length sc) m.consts ∧ GF n1 w2 (.slice fa m.funcs.length fc) m.funcs) := ⟨hG2, hF2⟩
  clear hG2 hF2
  go_wp2_with fail
  refine hEn.mono ?_
  rintro e w3 ⟨⟨a3, N3, c3, rfl, ho3⟩, hb3⟩
  have hx03 := (hb3.block _ hlo).trans hx02
  have hx23 := (hb3.block _ hl2).trans hx2
  have hB3 : Below w.heap.size w w3 := hB2.trans (hb3.mono hB2.size)
  have hEq := equal_any ho3.isB ((hb.since (Since.of_below hB3)))
  have hs3 := hb3.size
  obtain ⟨p0, p1, fp0, fp1, hlp⟩ := cells_k2 hx03
  obtain ⟨v0, v1, -, -, hlv⟩ := cells_k2 hx23
  clear hEn ho3 hx2 hx02 c0 c1 o0 o1 fo0 fo1 hWz hW2 z0 z1 y0 y1 hb hb00
  by_cases hX : X = b
  rotate_left
  · have hDv := hD3'.out hX
    have hXd : decide (X = b) = false := by simpa using hX
    rw [hXd] at hEq
    obtain ⟨wN, hWN, hxN, hbN, -, -⟩ := resW hx03 hB3 (.slice none 0 0) (.slice none 0 0)
    obtain ⟨t0, t1, -, -, hlN⟩ := cells_k2 hxN
    have hpost : OutD w D (.returned (.tuple #[.agg #[.slice none 0 0, .slice none 0 0], .int .i64 11])) wN := by rw [hDv]; exact outD_no hbN
    clear hxN hbN hx03 hb3 hB3 hDv hGH hD3' hD4' HX hX hXd hx23
    go_wp2_with fail
    refine hEq.mono ?_
    rintro e w4 ⟨rfl, hw4⟩
    obtain rfl := hw4.symm
    clear hEq
    go_wp2_with fail
    exact bodyPost_ret (v := .tuple #[.agg #[.slice none 0 0, .slice none 0 0], .int .i64 11]) (by simp [results, Tryz.results8, go_sem, hlN, t0, t1]) rfl hpost
  · have hDv := hD4'.out hX
    have hXd : decide (X = b) = true := by simpa using hX
    rw [hXd] at hEq
    obtain ⟨wN, hWN, hxN, hbN, hsN, hkN⟩ := resW hx03 hB3 (.slice sa m.consts.length sc) (.slice fa m.funcs.length fc)
    obtain ⟨t0, t1, -, -, hlN⟩ := cells_k2 hxN
    have hpost : OutD w D (.returned (.tuple #[.agg #[.slice sa m.consts.length sc, .slice fa m.funcs.length fc], .int .i64 0])) wN := by
      rw [hDv]
      have hG3 := hGH.out.1.below hb3
      have hF3 := hGH.out.2.below hb3
      refine ⟨⟨sa, sc, fa, fc, n1, rfl, ?_, ?_, by omega, by omega⟩, hbN⟩
      · exact (hG3.since ⟨by omega, fun k hk _ => hkN k (by omega)⟩).base (fun k hk _ => ⟨by omega, hk.2⟩)
      · exact hF3.since (by omega) (fun k hk _ => hkN k (by omega))
    clear hxN hbN hx03 hb3 hB3 hDv hGH hD3' hD4' HX hX hXd hkN hsN hx23
    go_wp2_with fail
    refine hEq.mono ?_
    rintro e w4 ⟨rfl, hw4⟩
    obtain rfl := hw4.symm
    clear hEq
    go_wp2_with fail
    exact bodyPost_ret (v := .tuple #[.agg #[.slice sa m.consts.length sc, .slice fa m.funcs.length fc], .int .i64 0]) (by simp [results, Tryz.results8, go_sem, hlN, t0, t1]) rfl hpost
theorem dec_ok : DecOk := fun B ab cb b w states hb hl _ => ldecode_any hb hl states
end Go.Proofs.YtndahpcjkcihlaaGreat
/- Encode and Decode of anything: the statement's walk. -/
namespace Go.Proofs.YtndahpcjkcihlaaGreat
open Go.RowKit
theorem bytes_done {B : Nat → Prop} {m : Md} {ac af : Option Addr} {cc cf : Nat} {w : World} (hm : IsMd B w m (.slice ac m.consts.length cc) (.slice af m.funcs.length cf)) (hz : SzM m) (states : Int) (hst : InR states) {ab : Option Addr} {cb : Nat} {b : List UInt8} (hb : IsB B w (.slice ab b.length cb) b) :
    Calls Tryz.prog 3 #[.agg #[.slice ac m.consts.length cc, .slice af m.funcs.length cf], .int .i64 states, .slice ab b.length cb] w fun e w' => e = .returned (.bool true) ∧ Below w.heap.size w w' := codebytes_walk wake_ok enc_ok dec_ok hm hz states hst hb
end Go.Proofs.YtndahpcjkcihlaaGreat
/- From how an argument that is bytes is read to what the walks ask. -/
namespace Go.Proofs.YtndahpcjkcihlaaGreat
open Go.ChangeShapes Go.WideShapes Go.ChangeAt Go.RowKit
set_option linter.unusedVariables false
set_option linter.unusedSimpArgs false

set_option maxRecDepth 100000 in
theorem bytes_open {H : Type} {enc : TypeId × Value → H} {W : World} {base : Nat} {v : Value} {d : DataW H} {p : List MemPlace} (hv : Value.okWide Tryz.prog W .any base 26 v) (h : DataW.Trod enc Tryz.prog W 0 (fun _ => true) true 26 v d p) :
    ∃ (bs : List UInt8) (ao : Option Addr) (cap : Nat), v = .slice ao bs.length cap ∧ IsB Any W (.slice ao bs.length cap) bs ∧ bs.length ≤ 9223372036854775807 := by
  obtain ⟨a, len, cap, rfl⟩ := okWide_slice Tryz.underlying26 hv
  obtain ⟨fuel, hf⟩ := h
  rcases open_ints Tryz.underlying26 Tryz.underlying5 (by kernel_rfl) (by simpa [Value.cells] using hf) with ⟨e, _⟩ | ⟨a', len', cap', zs, e, _, hlc, hcm, hzl, _, hcell, hwf⟩
  · simp only [List.cons.injEq, Value.slice.injEq, and_true] at e
    obtain ⟨rfl, rfl, rfl⟩ := e
    exact ⟨[], none, 0, rfl, IsB.nil, Nat.zero_le _⟩
  · simp only [List.cons.injEq, Value.slice.injEq, and_true] at e
    obtain ⟨rfl, rfl, rfl⟩ := e
    have hzl' : zs.length = cap := hzl
    have hbl : ((zs.take len).map (fun n => UInt8.ofNat n.toNat)).length = len := by simp; omega
    unfold maxLen at hcm
    refine ⟨(zs.take len).map (fun n => UInt8.ofNat n.toNat), some a', cap, by rw [hbl], ⟨some a', cap, rfl, by rw [hbl]; omega, by omega, fun h => (by cases h), fun hne => ?_⟩, by rw [hbl]; omega⟩
    have h0 : 0 < zs.length := by
      rcases zs with _ | ⟨z, r⟩
      · simp at hne
      · simp
    obtain ⟨g, o, sp⟩ := a'
    have hz0 := hcell 0 h0
    have hspn : sp = none := by simpa [Addr.add] using World.cell?_spot hz0
    subst hspn
    refine ⟨g, o, rfl, trivial, ?_, fun i b hi => ?_⟩
    · have := World.block_lt_of_cell? W _ hz0
      simpa [Addr.add] using this
    · rw [List.getElem?_map, List.getElem?_take] at hi
      split at hi
      · obtain ⟨z, hz, rfl⟩ := Option.map_eq_some_iff.1 hi
        have hil : i < zs.length := (List.getElem?_eq_some_iff.1 hz).1
        have hc := hcell i hil
        have hzd : zs.getD i 0 = z := by rw [List.getD_eq_getElem?_getD, hz]; rfl
        rw [hzd] at hc
        have hw := hwf z (List.mem_of_getElem? hz)
        have hb : 0 ≤ z ∧ z < 256 := by
          simp [Lit.wf, IntKind.min, IntKind.max, IntKind.bits, IntKind.signed] at hw
          omega
        have e1 : ((UInt8.ofNat z.toNat).toNat : Int) = z := by rw [UInt8.toNat_ofNat']; omega
        rw [e1]
        by_cases hi0 : i = 0
        · subst hi0; simpa [Addr.add] using hc
        · simpa [Addr.add, hi0] using hc
      · simp at hi
end Go.Proofs.YtndahpcjkcihlaaGreat
