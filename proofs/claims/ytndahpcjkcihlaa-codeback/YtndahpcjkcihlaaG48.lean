/- Texts of ours, joined: Kbk, Job, Lob. -/
import Derived.Test.YtndahpcjkcihlaaG40
import Derived.Test.YtndahpcjkcihlaaG47
import Derived.Deep.CutBlock
import Derived.Test.YtndahpcjkcihlaaG42
import Derived.Test.YtndahpcjkcihlaaG18
import Derived.Test.YtndahpcjkcihlaaG28
import Derived.ChangeSlices
import Derived.WideShapes
/- What is read back: the statement's. -/
namespace Go.Proofs.Ytndahpcjkcihlaa
open Go.RowKit
set_option linter.unusedVariables false
set_option linter.unusedSimpArgs false
attribute [local go_sem ↓] Go.wp_at_zero Go.wp_at_succ

theorem cells_add {w : World} {g o i : Nat} {u : Value} (h : w.cell? ⟨g, o + i, none⟩ = some u) : w.cell? (Addr.add ⟨g, o, none⟩ i) = some u := by
  by_cases h0 : i = 0
  · subst h0; simpa [Addr.add] using h
  · simpa [Addr.add, h0] using h
theorem more_run {B : Nat → Prop} {w : World} {a : Option Addr} {c : Nat} {x : List UInt8} (h : IsB B w (.slice a x.length c) x) (hl : x.length ≤ 1000000) :
    ∃ wa a1 c1 w1 wb a2 c2 w2, w.alloc (.cells #[] 5) = wa ∧ (Builtin.append_ #[34, 34] 34 #[.slice (some ⟨w.heap.size, 0, none⟩) 0 0, .slice a x.length c]).run Try.prog wa = .ok (.slice a1 x.length c1) w1 ∧ w1.alloc (.cells #[.int .u8 0] 5) = wb ∧
      (Builtin.append_ #[34, 34] 34 #[.slice a1 x.length c1, .slice (some ⟨w1.heap.size, 0, none⟩) 1 1]).run Try.prog wb = .ok (.slice a2 (x.length + 1) c2) w2 ∧ IsB (From w.heap.size) w2 (.slice a2 (x.length + 1) c2) (x ++ [0]) ∧ Below w.heap.size w w2 := by
  obtain ⟨ao, cap, e, hc1, hc2, h5, hcell⟩ := h
  simp only [Value.slice.injEq, true_and] at e
  obtain ⟨rfl, rfl⟩ := e
  obtain ⟨wa, hWa⟩ : ∃ wa, w.alloc (.cells #[] 5) = wa := ⟨_, rfl⟩
  have hba : Below w.heap.size w wa := by rw [← hWa]; exact (Below.refl _ _).alloc (Nat.le_refl _) _
  have hown : wa.ownsRow w.heap.size 5 1 (.slice (some ⟨w.heap.size, 0, none⟩) 0 0) 0 [] := by
    rw [← hWa]
    exact ⟨rfl, Or.inr ⟨w.heap.size, 0, #[], rfl, Nat.le_refl _, heap_new _ _, Nat.le_refl _, by unfold maxLen; omega, rfl, rfl⟩⟩
  obtain ⟨a1, c1, w1, hr1, ho1, hb1, _⟩ := app_run Try.underlying34 byteInfo rfl (by decide) 34 (c := c) (m := x.length) (ad := a) (news := x.map byteV) hown (fun h => by have := h5 h; omega) (by simp) (fun b hb j u hu => by
      subst hb
      rw [List.getElem?_map] at hu
      obtain ⟨k, hk, rfl⟩ := Option.map_eq_some_iff.1 hu
      obtain ⟨g, o, e1, e2, e3, e4⟩ := hcell (by rintro rfl; simp at hk)
      obtain rfl := Option.some.inj e1
      have := e4 j k hk
      rw [← (bcell hba).1 g _ e3] at this
      exact cells_add this) (by intro u hu; obtain ⟨k, _, rfl⟩ := List.mem_map.1 hu; rfl) (by omega) (by decide) hba.size
  have hz : 0 + x.length = x.length := by omega
  rw [hz] at hr1 ho1
  obtain ⟨wb, hWb⟩ : ∃ wb, w1.alloc (.cells #[.int .u8 0] 5) = wb := ⟨_, rfl⟩
  have hbb : Below w1.heap.size w1 wb := by rw [← hWb]; exact (Below.refl _ _).alloc (Nat.le_refl _) _
  have hblk : wb.heap[w1.heap.size]? = some (.cells #[.int .u8 0] 5 (0, 0)) := by rw [← hWb]; exact heap_new _ _
  have hs1 := hb1.size
  have hsa := hba.size
  obtain ⟨a2, c2, w2, hr2, ho2, hb2, _⟩ := app_run Try.underlying34 byteInfo rfl (by decide) 34 (c := 1) (m := 1) (ad := some ⟨w1.heap.size, 0, none⟩) (news := [byteV 0]) (owns_below ho1 hbb) (fun h => by cases h) (by simp) (fun b hb j u hu => by
      obtain rfl := Option.some.inj hb
      rcases j with _ | j
      · simp at hu
        subst hu
        exact cells_add (by rw [cell_block hblk]; rfl)
      · simp at hu) (by intro u hu; simp at hu; subst hu; rfl) (by omega) (by decide) (by have := hbb.size; omega)
  refine ⟨wa, a1, c1, w1, wb, a2, c2, w2, hWa, hr1, hWb, hr2, ?_, (hba.trans hb1).trans ((hbb.mono (by omega)).trans hb2)⟩
  have e : [] ++ x.map byteV ++ [byteV 0] = (x ++ [0]).map byteV := by simp
  have e2 : x.length + 1 = (x ++ [0]).length := by simp
  rw [e, e2] at ho2
  have := owns_b ho2
  rw [e2]
  exact this
theorem DecOk.at {hDe : DecOk} {B : Nat → Prop} {ab : Option Addr} {cb N : Nat} {b : List UInt8} {w : World} {states : Int} (hN : b.length = N) (hb : IsB B w (.slice ab N cb) b) (hl : N ≤ 900000) (hst : InR states) : Calls Try.prog 14 #[.slice ab N cb, .int .i64 states] w fun e w' => OutD w (decR b states) e w' := by
  subst hN
  exact hDe B ab cb b w states hb hl hst
theorem decR_sz {b : List UInt8} {states : Int} (h : (decR b states).2 = 0) : csz (decR b states).1.consts + fsz (decR b states).1.funcs ≤ b.length := by
  unfold decR at h ⊢
  split at h
  · simp at h
  · rename_i h1
    rw [if_neg h1]
    split at h
    · simp at h
    · rename_i h2
      rw [if_neg h2]
      split at h
      · simp at h
      · rename_i h3
        rw [if_neg h3]
        exact rdM_sz (b := b) (r := []) (Classical.byContradiction h1)
theorem Run.fit {m : Md} {states : Int} (h : Run m states) (hc : csz m.consts ≤ 10000) (hf : fsz m.funcs ≤ 10000) : Fit m :=
  ⟨fun v hv => by have := (ctype_shp (h.con v hv)).2.1; omega, by have := csz_len m.consts; omega, by have := fsz_len m.funcs; omega, fun f hf' => by have := fsz_mem hf'; omega⟩
set_option maxRecDepth 100000 in
set_option maxHeartbeats 8000000 in
theorem codeback_walk (hWk : WakeOk) (hEn : EncOk) (hDe : DecOk) (hVr : VerOk) {B : Nat → Prop} {m : Md} {ac af : Option Addr} {cc cf : Nat} {w : World} (hm : IsMd B w m (.slice ac m.consts.length cc) (.slice af m.funcs.length cf)) (hz : SzM m) (states : Int) (hst : InR states) {ab : Option Addr} {cb : Nat} {b : List UInt8} (hb : IsB B w (.slice ab b.length cb) b) :
    Calls Try.prog 4 #[.agg #[.slice ac m.consts.length cc, .slice af m.funcs.length cf], .int .i64 states, .slice ab b.length cb] w fun e w' => e = .returned (.bool true) ∧ Below w.heap.size w w' := by
  have hbn : b.length ≤ 9223372036854775807 := by
    obtain ⟨ao, cap, h1, h2, h3⟩ := hb.slice
    simp only [Value.slice.injEq] at h1
    omega
  obtain ⟨w0, hW0, hb0, hl0, hx0⟩ := box2 w (.slice ac m.consts.length cc) (.slice af m.funcs.length cf) 25
  have hld : w.heap.size < w0.heap.size := by omega
  have hBf : ∀ wr, Below w0.heap.size w0 wr → Below w.heap.size w wr := fun wr hb => hb0.trans (hb.mono hb0.size)
  have up : ∀ x y, Below w0.heap.size w0 x → Below x.heap.size x y → Below w0.heap.size w0 y := fun x y h1 h2 => h1.trans (h2.mono h1.size)
  have hcell : ∀ wr, Below w0.heap.size w0 wr → wr.cell? ⟨w.heap.size, 0, none⟩ = some (.slice ac m.consts.length cc) ∧ wr.cell? ⟨w.heap.size, 1, none⟩ = some (.slice af m.funcs.length cf) ∧ w.heap.size < wr.heap.size := fun wr hb => by
    obtain ⟨q0, q1, -, -, q2⟩ := cells_k2 ((hb.block _ hld).trans hx0)
    exact ⟨q0, q1, q2⟩
  have hW := hWk w0
  clear hl0 hx0
  go_enter Try.func4, Try.ntmps4
  go_wp2_with fail
  refine hW.mono ?_
  rintro e w1 ⟨rfl, hb1⟩
  obtain ⟨k0, k1, k2⟩ := hcell w1 hb1
  have hL := large13_any (hm.below (hBf w1 hb1)) hz
  clear hW hW0
  go_wp2_with fail
  refine hL.mono ?_
  rintro e w2 ⟨⟨lg, rfl, hlg⟩, hb2⟩
  have hB2 : Below w0.heap.size w0 w2 := up _ _ hb1 hb2
  have hbH : Hid (lg = false → Small m) := hlg
  clear hL k0 k1 hlg hb2 hb1 k2
  cases lg with
  | true =>
    have hpost := hBf w2 hB2
    clear hm hz hcell hBf hbH up
    go_wp2
    go_ret
    exact ⟨rfl, hpost⟩
  | false =>
  by_cases hlen : 8192 < b.length
  · have hlenI : (8192 : Int) < (b.length : Int) := by omega
    have hpost := hBf w2 hB2
    clear hm hz hcell hBf hbH up
    go_wp2
    go_ret
    exact ⟨rfl, hpost⟩
  have hlenI : ¬ (8192 : Int) < (b.length : Int) := by omega
  have hsm := hbH.out rfl
  have hfit := hsm.fit hz
  have hc1 : csz m.consts ≤ 10000 := by have := hsm.c; omega
  have hc2 : fsz m.funcs ≤ 10000 := by have := hsm.f; omega
  obtain ⟨k0, k1, k3⟩ := hcell w2 hB2
  have hE1 := hEn B m ac af cc cf w2 states (hm.below (hBf w2 hB2)) hfit hc1 hc2 hst
  have hstr : ∀ w', Below w0.heap.size w0 w' → (convert 34 9 (.slice ab b.length cb)).run Try.prog w' = .ok (.string ⟨b.toArray⟩) w' := fun w' h => str_b (hb.since (Since.of_below (hBf w' h)))
  have hDb : ∀ w', Below w0.heap.size w0 w' → Calls Try.prog 14 #[.slice ab b.length cb, .int .i64 states] w' fun e w'' => OutD w' (decR b states) e w'' := fun w' h => hDe B ab cb b w' states (hb.since (Since.of_below (hBf w' h))) (by omega) hst
  have hlb : b.length ≤ 8192 := by omega
  have hR : Hid (Run m states ∧ encE m states = (encM m, 0) ∨ encE m states = ([], 40)) := by
    by_cases hr : Run m states
    · exact Or.inl ⟨hr, by unfold encE; rw [if_pos hr]⟩
    · exact Or.inr (by unfold encE; rw [if_neg hr])
  obtain ⟨x, HX⟩ : ∃ x, Hid (encE m states = x) := ⟨_, rfl⟩
  rw [HX.out] at hE1 hR
  clear hbH hlen
  go_wp2_with fail
  refine hE1.mono ?_
  rintro e w3 ⟨⟨a3, N3, c3, rfl, hO3⟩, hb3⟩
  have hB3 := up _ _ hB2 hb3
  clear hE1 k0 k1 k3 hb3 hB2
  go_upto_if 31 with fail
  go_cut [9, 10, 11] from 32 to 77 (fun s9 s10 s11 wc => Below w0.heap.size w0 wc)
  case first =>
    rcases hR.out with ⟨hr, hx⟩ | hx
    rotate_left
    · have hx0 : (x.2 == 0) = false := by rw [hx]; rfl
      clear hR hx hm hz hfit hsm hb hO3 HX hstr hDb hcell
      go_wp2_with fail
      go_meet
      exact hB3
    subst hx
    have hok := okVs_w hm.con (fun v hv => (ctype_shp (hr.con v hv)).1)
    have hel := encM_len hr hok hc1 hc2
    have hde := dec_enc hr hok
    have Hmore := dec_more hr hok (r := [0]) (by simp)
    have Hpart : Hid (∀ i, i < (encM m).length → decR ((encM m).take i) states = (Md.no, 11)) := fun i hi => dec_part hr hok hi
    have hkl : ∀ f ∈ m.funcs, f.code.length ≤ 9223372036854775807 := fun f hf => by have := hfit.kl f hf; omega
    obtain ⟨hN3, hOw⟩ := hO3
    have hx3 := owns_b hOw
    have hx3' : IsB (From w2.heap.size) w3 (.slice a3 N3 c3) (encM m) := by rw [hN3]; exact hx3
    simp only at hN3 hx3'
    have hN9 : N3 ≤ 800000 := by omega
    have hNN : Hid (N3 = (encM m).length) := hN3
    have hD1 := DecOk.at (hDe := hDe) hN3.symm hx3' (by omega) hst
    rw [hde] at hD1
    obtain ⟨k0, k1, k3⟩ := hcell w3 hB3
    clear hR HX hDb hstr hx3 hOw hz hsm hb hde hok hr hN3
    go_wp2_with fail
    refine hD1.mono ?_
    rintro e w4 h4
    obtain ⟨⟨a4, c4, f4, g4, rfl, hm4⟩, hb4⟩ := h4.md
    have hB4 := up _ _ hB3 hb4
    obtain ⟨wy, w5, hWy, hW5, -, hb5, -, hx5, hzy⟩ := zmbox w4 (.slice a4 m.consts.length c4) (.slice f4 m.funcs.length g4)
    obtain ⟨z0, z1, y0, y1, hlz⟩ := cells_k2 hzy
    obtain ⟨q0, q1, -, -, hlq⟩ := cells_k2 hx5
    have hB5 := up _ _ hB4 hb5
    clear k0 k1 k3 hD1 h4 hzy
    obtain ⟨k0, k1, k3⟩ := hcell w5 hB5
    have hSm := same13_any (B := fun _ => True) ((hm4.below hb5).base (fun _ _ _ => trivial)) ((hm.below (hBf w5 hB5)).base (fun _ _ _ => trivial)) hkl
    have hx5' := (hx3'.since (Since.of_below hb4)).since (Since.of_below hb5)
    clear hm4 hx3' hm hx5 hkl hfit
    go_wp2_with fail
    refine hSm.mono ?_
    rintro e w6 ⟨rfl, hb6⟩
    have hB6 := up _ _ hB5 hb6
    have hx6 := hx5'.since (Since.of_below hb6)
    have hdv : Int.tdiv (N3 : Int) 30 = ((N3 / 30 : Nat) : Int) := by rw [Int.tdiv_eq_ediv_of_nonneg (by omega)]; omega
    clear hSm k0 k1 k3 q0 q1 z0 z1 y0 y1 hWy hW5 hlz hx5' hb6 hb5 hb4 hB3 hB4 hB5
    go_wp2_with fail
    go_loopg [11] N3 (fun g i wr => ∃ q : Nat, q ≤ 2 * N3 + 1 ∧ g = N3 - q ∧ i = .int .i64 q ∧ Hid (Below w0.heap.size w0 wr ∧ Below w6.heap.size w6 wr))
    case atStart => exact ⟨0, Nat.zero_le _, rfl, rfl, hB6, Below.refl _ _⟩
    case round =>
      obtain ⟨q, hq, rfl, rfl, HR⟩ := hrel
      obtain ⟨hBr, hb6r⟩ := HR.out
      have hxr := hx6.since (Since.of_below hb6r)
      clear HR hx6
      by_cases hq1 : q < N3
      · have hq1I : (q : Int) < (N3 : Int) := by omega
        have hc3 : N3 ≤ c3 := by
          obtain ⟨ae, ce, hee, hce1, hce2⟩ := hxr.slice
          simp only [Value.slice.injEq] at hee
          omega
        have hcut := bcut_high a3 N3 c3 q (by omega)
        have htl : ((encM m).take q).length = q := by rw [List.length_take, ← hNN.out]; omega
        have hxt : IsB (From w2.heap.size) wr (.slice a3 q c3) ((encM m).take q) := by
          rw [hNN.out] at hxr
          exact hxr.take (by rw [← hNN.out]; omega)
        have hDq := DecOk.at (hDe := hDe) htl hxt (by omega) hst
        rw [Hpart.out q (by rw [← hNN.out]; exact hq1)] at hDq
        have hnw : N3 / 30 ≤ N3 := Nat.div_le_self _ _
        clear hxt hxr htl
        go_wp2_with fail
        refine hDq.mono ?_
        rintro e w9 h9
        obtain ⟨⟨a9, c9, f9, g9, rfl, -⟩, hb9⟩ := h9.md
        have hnew : Hid (Below w0.heap.size w0 w9 ∧ Below w6.heap.size w6 w9) := ⟨up _ _ hBr hb9, hb6r.trans (hb9.mono hb6r.size)⟩
        clear hDq hcut h9
        go_wp2_with fail
        go_roundg (N3 - (q + (1 + N3 / 30)))
        case measure => omega
        case rel => exact ⟨q + (1 + N3 / 30), by omega, rfl, by go_num, hnew⟩
      · have hq1I : ¬ (q : Int) < (N3 : Int) := by omega
        have hxr' : IsB (From w2.heap.size) wr (.slice a3 (encM m).length c3) (encM m) := by rw [← hNN.out]; exact hxr
        obtain ⟨wa, a1, c1, w1', wb, a2, c2, w2', hWa, hr1, hWb, hr2, hx2, hbx2⟩ := more_run hxr' (by omega)
        rw [← hNN.out] at hr1 hr2 hx2
        have hB2 := up _ _ hBr hbx2
        have hD2 := DecOk.at (hDe := hDe) (b := encM m ++ [0]) (N := N3 + 1) (by rw [List.length_append, ← hNN.out]; rfl) hx2 (by omega) hst
        rw [Hmore] at hD2
        clear hxr hxr' hx2 hcell hb6r hB6 hBr Hmore Hpart hbx2
        go_wp2_with (at_builtin; first | (refine Lib.wpList_append_run _ rfl _ _ 34 34 rfl _ _ rfl rfl _ _ hr1 ?_; clear hr1) | (refine Lib.wpList_append_run _ rfl _ _ 34 34 rfl _ _ rfl rfl _ _ hr2 ?_; clear hr2))
        refine hD2.mono ?_
        rintro e w9 h9
        obtain ⟨⟨a9, c9, f9, g9, rfl, -⟩, hb9⟩ := h9.md
        have hfin := up _ _ hB2 hb9
        clear hD2 h9 hWa hWb
        go_wp2_with fail
        go_meet
        exact hfin
  case rest =>
    have hBc : Below w0.heap.size w0 wc := hcut
    have hD := hDb wc hBc
    have hbk : Hid ((decR b states).2 = 0 → Run (decR b states).1 states ∧ encM (decR b states).1 = b) := fun h => dec_back h
    have her : Hid ((decR b states).2 ≠ 0 → (decR b states).1 = Md.no) := fun h => dec_err h
    have hdz : Hid ((decR b states).2 = 0 → csz (decR b states).1.consts + fsz (decR b states).1.funcs ≤ b.length) := fun h => decR_sz h
    obtain ⟨d, Hd⟩ : ∃ d, Hid (decR b states = d) := ⟨_, rfl⟩
    rw [Hd.out] at hD hbk her hdz
    clear Hd hDb hcut hR HX hm hz hfit hsm hb hO3 hcell hB3
    go_wp2_with fail
    refine hD.mono ?_
    rintro e w7 h7
    obtain ⟨⟨a7, c7, f7, g7, rfl, hm7⟩, hb7⟩ := h7.md
    have hB7 := up _ _ hBc hb7
    obtain ⟨wu, w8, hWu, hW8, -, hb8, -, hx8, hzu⟩ := zmbox w7 (.slice a7 d.1.consts.length c7) (.slice f7 d.1.funcs.length g7)
    obtain ⟨z0, z1, y0, y1, hlz⟩ := cells_k2 hzu
    obtain ⟨q0, q1, -, -, hlq⟩ := cells_k2 hx8
    have hB8 := up _ _ hB7 hb8
    have hm8 := hm7.below hb8
    clear hD h7 hzu
    by_cases hd0 : d.2 = 0
    rotate_left
    · have hd0b : (d.2 != 0) = true := by simp [hd0]
      have hdn := her.out hd0
      have hl1 : ((d.1.funcs.length : Int) == 0) = true := by rw [hdn]; rfl
      have hl2 : ((d.1.consts.length : Int) == 0) = true := by rw [hdn]; rfl
      have hpost := hBf w8 hB8
      clear her hbk hdz hd0 hdn hm7 hm8 hx8
      go_wp2
      go_ret
      exact ⟨rfl, hpost⟩
    have hd0b : (d.2 != 0) = false := by simp [hd0]
    obtain ⟨hrd, hed⟩ := hbk.out hd0
    have hdz' := hdz.out hd0
    have hfd := hrd.fit (by omega) (by omega)
    have hE2 := hEn _ d.1 a7 f7 c7 g7 w8 states hm8 hfd (by omega) (by omega) hst
    have hEE : encE d.1 states = (b, 0) := by unfold encE; rw [if_pos hrd, hed]
    rw [hEE] at hE2
    clear hbk her hdz hd0 hEE hed
    go_wp2_with fail
    refine hE2.mono ?_
    rintro e w10 ⟨⟨a10, N10, c10, rfl, hO10⟩, hb10⟩
    have hB10 := up _ _ hB8 hb10
    have hs1 : (convert 34 9 (.slice a10 N10 c10)).run Try.prog w10 = .ok (.string ⟨b.toArray⟩) w10 := by rw [hO10.1]; exact str_b (owns_b hO10.2)
    have hs2 := hstr w10 hB10
    have hV2 := hVr _ d.1 a7 f7 c7 g7 w10 states (hm8.below hb10) hfd hst
    rw [vfy_ok hrd] at hV2
    have hxx := (hb10.block _ hlq).trans hx8
    clear hE2 hO10 hstr q0 q1 hlq z0 z1 y0 y1 hWu hW8 hlz hm7 hm8 hfd hrd hx8
    obtain ⟨q0, q1, -, -, hlq⟩ := cells_k2 hxx
    clear hxx
    go_wp2_with fail
    refine hV2.mono ?_
    rintro e w11 ⟨rfl, hb11⟩
    have hpost := hBf w11 (up _ _ hB10 hb11)
    clear hV2
    go_wp2
    go_ret
    exact ⟨ret_bool (by simp), hpost⟩
end Go.Proofs.Ytndahpcjkcihlaa
/- There and back: the statement's walk. -/
namespace Go.Proofs.Ytndahpcjkcihlaa
open Go.RowKit
theorem back_done {B : Nat → Prop} {m : Md} {ac af : Option Addr} {cc cf : Nat} {w : World} (hm : IsMd B w m (.slice ac m.consts.length cc) (.slice af m.funcs.length cf)) (hz : SzM m) (states : Int) (hst : InR states) {ab : Option Addr} {cb : Nat} {b : List UInt8} (hb : IsB B w (.slice ab b.length cb) b) :
    Calls Try.prog 4 #[.agg #[.slice ac m.consts.length cc, .slice af m.funcs.length cf], .int .i64 states, .slice ab b.length cb] w fun e w' => e = .returned (.bool true) ∧ Below w.heap.size w w' := codeback_walk wake_ok enc_ok dec_ok ver_ok hm hz states hst hb
end Go.Proofs.Ytndahpcjkcihlaa
/- From how an argument that is bytes is read to what the walks ask. -/
namespace Go.Proofs.Ytndahpcjkcihlaa
open Go.ChangeShapes Go.WideShapes Go.ChangeAt Go.RowKit
set_option linter.unusedVariables false
set_option linter.unusedSimpArgs false

set_option maxRecDepth 100000 in
theorem bytes_open {H : Type} {enc : TypeId × Value → H} {W : World} {base : Nat} {v : Value} {d : DataW H} {p : List MemPlace} (hv : Value.okWide Try.prog W .any base 34 v) (h : DataW.Trod enc Try.prog W 0 (fun _ => true) true 34 v d p) :
    ∃ (bs : List UInt8) (ao : Option Addr) (cap : Nat), v = .slice ao bs.length cap ∧ IsB Any W (.slice ao bs.length cap) bs ∧ bs.length ≤ 9223372036854775807 := by
  obtain ⟨a, len, cap, rfl⟩ := okWide_slice Try.underlying34 hv
  obtain ⟨fuel, hf⟩ := h
  rcases open_ints Try.underlying34 Try.underlying5 (by kernel_rfl) (by simpa [Value.cells] using hf) with ⟨e, _⟩ | ⟨a', len', cap', zs, e, _, hlc, hcm, hzl, _, hcell, hwf⟩
  · simp only [List.cons.injEq, Value.slice.injEq, and_true] at e
    obtain ⟨rfl, rfl, rfl⟩ := e
    exact ⟨[], none, 0, rfl, IsB.nil, Nat.zero_le _⟩
  · simp only [List.cons.injEq, Value.slice.injEq, and_true] at e
    obtain ⟨rfl, rfl, rfl⟩ := e
    have hzl' : zs.length = cap := hzl
    have hbl : ((zs.take len).map (fun n => UInt8.ofNat n.toNat)).length = len := by simp; omega
    unfold maxLen at hcm
    refine ⟨(zs.take len).map (fun n => UInt8.ofNat n.toNat), some a', cap, by rw [hbl], ⟨some a', cap, rfl, by rw [hbl]; omega, by omega, fun h => (by cases h), fun hne => ?_⟩, by rw [hbl]; omega⟩
    have h0 : 0 < zs.length := by
      rcases zs with _ | ⟨z, r⟩
      · simp at hne
      · simp
    obtain ⟨g, o, sp⟩ := a'
    have hz0 := hcell 0 h0
    have hspn : sp = none := by simpa [Addr.add] using World.cell?_spot hz0
    subst hspn
    refine ⟨g, o, rfl, trivial, ?_, fun i b hi => ?_⟩
    · have := World.block_lt_of_cell? W _ hz0
      simpa [Addr.add] using this
    · rw [List.getElem?_map, List.getElem?_take] at hi
      split at hi
      · obtain ⟨z, hz, rfl⟩ := Option.map_eq_some_iff.1 hi
        have hil : i < zs.length := (List.getElem?_eq_some_iff.1 hz).1
        have hc := hcell i hil
        have hzd : zs.getD i 0 = z := by rw [List.getD_eq_getElem?_getD, hz]; rfl
        rw [hzd] at hc
        have hw := hwf z (List.mem_of_getElem? hz)
        have hb : 0 ≤ z ∧ z < 256 := by
          simp [Lit.wf, IntKind.min, IntKind.max, IntKind.bits, IntKind.signed] at hw
          omega
        have e1 : ((UInt8.ofNat z.toNat).toNat : Int) = z := by rw [UInt8.toNat_ofNat']; omega
        rw [e1]
        by_cases hi0 : i = 0
        · subst hi0; simpa [Addr.add] using hc
        · simpa [Addr.add, hi0] using hc
      · simp at hi
end Go.Proofs.Ytndahpcjkcihlaa
