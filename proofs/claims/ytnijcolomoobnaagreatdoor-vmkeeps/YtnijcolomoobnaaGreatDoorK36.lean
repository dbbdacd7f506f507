/- Texts of ours, joined: Jg, Jj. -/
import Derived.Test.YtnijcolomoobnaaGreatDoorK35
import Derived.Test.YtnijcolomoobnaaGreatDoorK34
namespace Go.Proofs.YtnijcolomoobnaaGreatDoor
open Go.RowKit
set_option linter.unusedVariables false
set_option linter.unusedSimpArgs false
attribute [local go_sem ↓] Go.wp_at_zero Go.wp_at_succ

theorem lpops_any {B : Nat → Prop} {fs : List Fu} {f : Fu} (ho : InsOk fs f) {cd : Value} {nc st : Int} {af : Option Addr} {cf : Nat} {i : In} {w : World} (hi : i ∈ f.code) (hm : IsFus B w fs (.slice af fs.length cf)) : Calls Tryz.prog 148 #[.agg #[.int .i64 f.params, .int .i64 f.locals, .int .i64 f.zero, .int .i64 f.stack, cd, .int .i64 nc, .int .i64 st, .slice af fs.length cf], .agg #[.int .i64 i.op, .int .i64 i.a]] w fun e w' => e = .returned (.int .i64 (popN fs i)) ∧ Below w.heap.size w w' := by
  by_cases h9 : i.op = 9
  · obtain ⟨k, g, h1, h2⟩ := ho.call i hi h9
    exact lpops_call hm h9 h1 h2
  · exact lpops_other (by simpa using h9)
theorem zwbox (w : World) (x0 x1 : Value) : ∃ wz w4, w.alloc (.cells #[.slice none 0 0, .slice none 0 0] 152) = wz ∧ (wz.setCell ⟨w.heap.size, 0, none⟩ x0).setCell ⟨w.heap.size, 1, none⟩ x1 = w4 ∧ Below w.heap.size w wz ∧ Below w.heap.size w w4 ∧ w4.heap[w.heap.size]? = some (.cells #[x0, x1] 152 (0, 0)) ∧ wz.heap[w.heap.size]? = some (.cells #[.slice none 0 0, .slice none 0 0] 152 (0, 0)) := by
  have hb : Below w.heap.size w (w.alloc (.cells #[.slice none 0 0, .slice none 0 0] 152)) := (Below.refl _ _).alloc (Nat.le_refl _) _
  have hz : (w.alloc (.cells #[.slice none 0 0, .slice none 0 0] 152)).heap[w.heap.size]? = some (.cells #[.slice none 0 0, .slice none 0 0] 152 (0, 0)) := heap_new _ _
  refine ⟨_, _, rfl, rfl, hb, (hb.setCell (p := ⟨w.heap.size, 0, none⟩) (Nat.le_refl _) x0).setCell (p := ⟨w.heap.size, 1, none⟩) (Nat.le_refl _) x1, ?_, hz⟩
  generalize w.alloc (.cells #[.slice none 0 0, .slice none 0 0] 152) = wz at *
  simp [World.setCell, Array.getElem?_modify, hz]
theorem IRow.pop {n0 : Nat} {w : World} {ao : Option Addr} {n cap : Nat} {l : List Int} {x : Int} (h : IRow n0 w (.slice ao n cap) (l ++ [x])) : IRow n0 w (.slice ao l.length cap) l := by
  rcases h.2 with ⟨e, h0⟩ | ⟨g, c, cur, h3, h4, h5, h6, h7, h8, h9⟩
  · simp at h0
  · simp only [Value.slice.injEq] at h3
    obtain ⟨rfl, -, rfl⟩ := h3
    refine ⟨by simp, Or.inr ⟨g, cap, cur, rfl, h4, h5, by simp at h6; omega, h7, h8, ?_⟩⟩
    have h10 := congrArg (List.take l.length) h9
    rw [List.take_take] at h10
    simp only [List.length_append, List.length_cons, List.length_nil, Nat.mul_one, List.map_append] at h10
    rw [Nat.min_eq_left (by omega)] at h10
    rw [Nat.mul_one, h10, List.take_left' (by simp)]
theorem Wk.pop {G : Nat → Prop} {p gh : Nat} {hs : List Int} {td : List Nat} {q : Nat} {w : World} (h : Wk G p gh hs (td ++ [q]) w) : ∃ g cap, w.heap[p]? = some (.cells #[.slice (some ⟨gh, 0, none⟩) hs.length hs.length, .slice (some ⟨g, 0, none⟩) (td.length + 1) cap] 152 (0, 0)) ∧ td.length + 1 ≤ cap ∧ cap ≤ 9223372036854775807 ∧ g < w.heap.size ∧ w.cell? ⟨g, td.length, none⟩ = some (.int .i64 q) ∧ Wk G p gh hs td (w.setCell ⟨p, 1, none⟩ (.slice (some ⟨g, 0, none⟩) td.length cap)) := by
  obtain ⟨tv, b1, b2, b3, b4, b5⟩ := h.bx
  have e : tI (td ++ [q]) = tI td ++ [(q : Int)] := by simp [tI]
  rw [e] at b2
  have hlen : (tI td ++ [(q : Int)]).length = td.length + 1 := by simp
  obtain ⟨ao, c, e1, l1, l2⟩ := b2.slice
  obtain ⟨g, cap, e2, hg, hc⟩ := b2.get (i := td.length) (x := (q : Int)) (by rw [List.getElem?_append_right (by simp)]; simp)
  rw [hlen] at e1 e2 l1
  rw [e2] at e1
  simp only [Value.slice.injEq] at e1
  obtain ⟨rfl, -, rfl⟩ := e1
  subst e2
  have hgp : g ≠ p := by rintro rfl; exact b3 rfl
  refine ⟨g, cap, b1, l1, l2, hg, hc, h.hk.keep (Below.heap_setCell _ _ _ _ (Ne.symm h.pg)), ⟨_, set2_1 b1 _, ?_, fun e => ?_, fun e => ?_, fun k e => ?_⟩, h.np, h.ng, h.pg, fun k hk => by have := h.gb k hk; simpa [World.setCell] using this⟩
  · have h1 := b2.pop
    rw [tI_len] at h1
    refine h1.since (fun j hj => Below.heap_setCell _ _ _ _ ?_)
    have : g = j := by simpa [Value.ownBlock] using hj
    show j ≠ p
    rw [← this]; exact hgp
  · have : g = p := by simpa [Value.ownBlock] using e
    exact hgp this
  · exact b4 (by simpa [Value.ownBlock] using e)
  · exact b5 k (by simpa [Value.ownBlock] using e)
set_option maxRecDepth 100000 in
set_option maxHeartbeats 8000000 in
theorem level_any {B : Nat → Prop} {fs : List Fu} {f : Fu} {ak af : Option Addr} {ck cf nc : Nat} {states : Int} {w : World} (hf : IsFn B w f (.slice ak f.code.length ck)) (hfs : IsFus B w fs (.slice af fs.length cf)) (ho : InsOk fs f) (hop : ∀ i ∈ f.code, 1 ≤ i.op ∧ i.op ≤ 21) (hja : ∀ i ∈ f.code, i.op = 7 ∨ i.op = 8 → 0 ≤ i.a ∧ i.a ≤ 900000) : Calls Tryz.prog 123 #[.agg #[.int .i64 f.params, .int .i64 f.locals, .int .i64 f.zero, .int .i64 f.stack, .slice ak f.code.length ck, .int .i64 nc, .int .i64 states, .slice af fs.length cf]] w fun e w' => WkPost fs f w e w' := by
  obtain ⟨w0, hW0, hb0, hl0, hx0⟩ := box8 w (.int .i64 f.params) (.int .i64 f.locals) (.int .i64 f.zero) (.int .i64 f.stack) (.slice ak f.code.length ck) (.int .i64 nc) (.int .i64 states) (.slice af fs.length cf) 131
  obtain ⟨d0, d1, d2, d3, d4, d5, d6, d7, hlt0⟩ := cells_k8 hx0
  have htop := ho.top
  have hlen := ho.len
  have hstk := ho.stk
  obtain ⟨w1, hmk, hI1, hb1, hl1⟩ := make_ints f.code.length (by omega) w0
  obtain ⟨wz, w2, hWz, hW2, hbz, hb2, hx2, hzz⟩ := zwbox w1 (.slice (some ⟨w0.heap.size, 0, none⟩) f.code.length f.code.length) (.slice none 0 0)
  obtain ⟨z0, z1, y0, y1, hlz⟩ := cells_k2 hzz
  obtain ⟨G, hG⟩ : ∃ G : Nat → Prop, Hid (∀ k, G k ↔ k < w0.heap.size) := ⟨fun k => k < w0.heap.size, fun k => Iff.rfl⟩
  have hk2 : Wk G w1.heap.size w0.heap.size (List.replicate f.code.length 0) [] w2 := by
    refine ⟨hI1.keep (hb2.block _ hl1), ⟨.slice none 0 0, by rw [List.length_replicate]; exact hx2, IRow.nil _ _, by simp [Value.ownBlock], by simp [Value.ownBlock], fun k e => by simp [Value.ownBlock] at e⟩, ?_, ?_, by omega, fun k hk => ?_⟩
    · rw [hG.out]; omega
    · rw [hG.out]; omega
    · have := (hG.out k).1 hk
      have := hb2.size
      omega
  have hF2 : Fr G w0 w2 := (Fr.of_below hb1).trans (Fr.of_below hb2)
  have hbel : ∀ wr, Fr G w0 wr → Below w0.heap.size w0 wr := fun wr h => h.below (Nat.le_refl _) (fun k hk => (hG.out k).2 hk)
  have hlow0 : ∀ (q : Nat) (y : Int), (List.replicate f.code.length (0 : Int))[q]? = some y → 0 ≤ y ∧ y ≤ 1000 := by
    intro q y hq
    rw [List.getElem?_replicate] at hq
    split at hq
    · have := Option.some.inj hq; omega
    · cases hq
  have hR := reach_any hk2 (by simp; omega) (by simp) hlow0 0 (by omega) 0 (by omega)
  have hr0 : rch (List.replicate f.code.length 0) [] 0 0 = some ((List.replicate f.code.length 0).set 0 1, [0]) := by
    unfold rch
    rw [List.getElem?_replicate, if_pos (by omega)]
    rfl
  rw [hr0] at hR
  have hrz : ((0 : Nat) : Int) = 0 := rfl
  rw [hrz] at hR
  clear hx2 hzz hI1 hrz hr0 hlow0 hl0
  go_enter Tryz.func123, Tryz.ntmps123
  go_wp2_with fail
  refine hR.mono ?_
  rintro e w3 ⟨hF3, rfl, hk3⟩
  have hk3H : Hid (Wk G w1.heap.size w0.heap.size ((List.replicate f.code.length 0).set 0 1) [0] w3 ∧ WInv fs f ((List.replicate f.code.length 0).set 0 1) [0] (List.replicate f.code.length false) ∧ Fr G w0 w3) := ⟨hk3 _ rfl, WInv.init hlen, hF2.trans hF3⟩
  clear hR hmk hW0 hWz hW2 z0 z1 y0 y1 hlz d0 d1 d2 d3 d4 d5 d6 d7 hk3 hF3 hk2 hF2 hbz hb2 hb1 hl1
  simp only [Option.isSome_some]
  go_wp2_with fail
  go_loopg [] (left (List.replicate f.code.length false)) (fun gk wr => ∃ (hs : List Int) (td : List Nat) (sn : List Bool), gk = left sn ∧ Hid (Wk G w1.heap.size w0.heap.size hs td wr ∧ WInv fs f hs td sn ∧ Fr G w0 wr))
  case atStart => exact ⟨_, _, _, rfl, hk3H.out⟩
  case round =>
    obtain ⟨hs, td, sn, rfl, HI⟩ := hrel
    have hk := HI.out.1
    have hinv := HI.out.2.1
    have hFr := HI.out.2.2
    clear HI hk3H
    have hB0 := hbel wr hFr
    have hBw : Below w.heap.size w wr := hb0.trans (hB0.mono hb0.size)
    rcases List.eq_nil_or_concat td with rfl | ⟨td0, q, rfl⟩
    · obtain ⟨tv, b1, b2, -, -, -⟩ := hk.bx
      have htv := b2.slice
      rw [tI_len] at htv
      obtain ⟨ao, cap, rfl, -, -⟩ := htv
      obtain ⟨c0, c1, -, -, hlc⟩ := cells_k2 b1
      have hpost : WkPost fs f w (.returned (.bool true)) wr := ⟨⟨true, rfl, by simp; exact hinv.done⟩, hBw⟩
      clear hk hinv hFr hB0 hBw b1 b2 hf hfs ho hop hja hbel
      go_wp2
      go_ret
      exact hpost
    rw [List.concat_eq_append] at hk hinv
    obtain ⟨y, i, hy, hy1, hy2, hi, hsq⟩ := hinv.top
    have hmem := List.mem_of_getElem? hi
    obtain ⟨g, cap, b1, hc1, hc2, hgl, hcq, hk4⟩ := hk.pop
    obtain ⟨c0, c1, f0, f1, hlc⟩ := cells_k2 b1
    have hNl : td0.length ≤ 16384 := by have := hinv.tdo.few; rw [List.length_append] at this; omega
    have hql := (List.getElem?_eq_some_iff.1 hi).1
    obtain ⟨w4, hW4⟩ : ∃ w4, wr.setCell ⟨w1.heap.size, 1, none⟩ (.slice (some ⟨g, 0, none⟩) td0.length cap) = w4 := ⟨_, rfl⟩
    rw [hW4] at hk4
    have hF4 : Fr G w0 w4 := hFr.trans (by rw [← hW4]; exact Fr.set hk.np _ _)
    have hB4 := hbel w4 hF4
    have hBw4 : Below w.heap.size w w4 := hb0.trans (hB4.mono hb0.size)
    obtain ⟨gc, oc, hak, -, hgc, ci0, ci1, -, -⟩ := ((hf.below hBw4).code).get hi
    subst hak
    obtain ⟨wz, wi, hWz, hWi, hbz, hbi, -, hxi, hz⟩ := zibox w4 (.int .i64 i.op) (.int .i64 i.a)
    obtain ⟨z0, z1, y0, y1, hlz⟩ := cells_k2 hz
    obtain ⟨u0, u1, -, -, hli⟩ := cells_k2 hxi
    have hki := hk4.keep hbi
    have hFi : Fr G w0 wi := hF4.trans (Fr.of_below hbi)
    have hBi := hbel wi hFi
    have hBwi : Below w.heap.size w wi := hb0.trans (hBi.mono hb0.size)
    obtain ⟨e0, e1, e2, e3, e4, e5, e6, e7, hle⟩ := cells_k8 ((hBi.block _ hlt0).trans hx0)
    obtain ⟨s0, s1, s2, s3, s4, s5, s6, s7, hls⟩ := cells_k8 ((hB4.block _ hlt0).trans hx0)
    obtain ⟨m0, m1, -, -, hlm⟩ := cells_k2 (show w4.heap[w1.heap.size]? = some (.cells #[.slice (some ⟨w0.heap.size, 0, none⟩) hs.length hs.length, .slice (some ⟨g, 0, none⟩) td0.length cap] 152 (0, 0)) by rw [← hW4]; exact set2_1 b1 _)
    have hHt : ∀ w', Below wi.heap.size wi w' → Calls Tryz.prog 147 #[.pointer (some ⟨w1.heap.size, 0, none⟩), .int .i64 q] w' fun e w'' => e = .returned (.int .i64 (y - 1)) ∧ w'' = w' := fun w' hb => height_any (hki.keep hb) (by have := hinv.len; omega) hy (by omega)
    have hPo : ∀ w', Below wi.heap.size wi w' → Calls Tryz.prog 148 #[.agg #[.int .i64 f.params, .int .i64 f.locals, .int .i64 f.zero, .int .i64 f.stack, .slice (some ⟨gc, oc, none⟩) f.code.length ck, .int .i64 nc, .int .i64 states, .slice af fs.length cf], .agg #[.int .i64 i.op, .int .i64 i.a]] w' fun e w'' => e = .returned (.int .i64 (popN fs i)) ∧ Below w'.heap.size w' w'' := fun w' hb => lpops_any ho hmem ((hfs.since (Since.of_below hBwi)).since (Since.of_below hb))
    have hSk : ∀ ww, Below wi.heap.size wi ww → (ww.cell? ⟨w.heap.size, 0, none⟩ = some (.int .i64 f.params) ∧ ww.cell? ⟨w.heap.size, 1, none⟩ = some (.int .i64 f.locals) ∧ ww.cell? ⟨w.heap.size, 2, none⟩ = some (.int .i64 f.zero) ∧ ww.cell? ⟨w.heap.size, 3, none⟩ = some (.int .i64 f.stack) ∧ ww.cell? ⟨w.heap.size, 4, none⟩ = some (.slice (some ⟨gc, oc, none⟩) f.code.length ck) ∧ ww.cell? ⟨w.heap.size, 5, none⟩ = some (.int .i64 nc) ∧ ww.cell? ⟨w.heap.size, 6, none⟩ = some (.int .i64 states) ∧ ww.cell? ⟨w.heap.size, 7, none⟩ = some (.slice af fs.length cf) ∧ ww.cell? ⟨w4.heap.size, 0, none⟩ = some (.int .i64 i.op) ∧ ww.cell? ⟨w4.heap.size, 1, none⟩ = some (.int .i64 i.a)) := fun ww hb => by
      obtain ⟨k, -⟩ := bcell hb
      exact ⟨(k _ _ hle).trans e0, (k _ _ hle).trans e1, (k _ _ hle).trans e2, (k _ _ hle).trans e3, (k _ _ hle).trans e4, (k _ _ hle).trans e5, (k _ _ hle).trans e6, (k _ _ hle).trans e7, (k _ _ hli).trans u0, (k _ _ hli).trans u1⟩
    obtain ⟨hpn1, hpn2⟩ := ho.pop i hmem
    obtain ⟨hps1, hps2⟩ := psh_pos i.op
    have hpu : ∀ w', Calls Tryz.prog 149 #[.int .i64 i.op] w' fun e w'' => e = .returned (.int .i64 (psh i.op)) ∧ w'' = w' := fun w' => by have := lpushes_any i.op w'; rwa [pshL_eq (hop i hmem).1 (hop i hmem).2] at this
    have hN1 : (0 : Int) ≤ (td0.length : Int) := by omega
    have hN2 : (td0.length : Int) < (cap : Int) := by omega
    have hq0 : (0 : Int) ≤ (q : Int) := by omega
    have hqI : (q : Int) < (f.code.length : Int) := by omega
    have hw1 : IntKind.i64.wrap (y - 1 - popN fs i) = y - 1 - popN fs i := by rw [IntKind.wrap_i64]; omega
    obtain ⟨L, hL⟩ : ∃ L, Hid (y - 1 - popN fs i = L) := ⟨_, rfl⟩
    have hLb : -10 ≤ L ∧ L ≤ 256 := by have := hL.out; omega
    obtain ⟨X, hX⟩ : ∃ X, Hid (L + psh i.op = X) := ⟨_, rfl⟩
    have hw2 : IntKind.i64.wrap (L + psh i.op) = X := by have := hX.out; rw [IntKind.wrap_i64]; omega
    have hXb : (0 ≤ L → 0 ≤ X) ∧ X ≤ 257 := by have := hX.out; omega
    have hXL : Hid (hgt fs i (y - 1) = X) := by show _ = _; rw [← hX.out, ← hL.out]; rfl
    have hinvH : Hid (WInv fs f hs (td0 ++ [q]) sn) := hinv
    have hyH : Hid (hs[q]? = some y) := hy
    have hiH : Hid (f.code[q]? = some i) := hi
    have hhl := hinv.len
    clear hk hinv hy hi hz hxi b1 hBw hB0 hFr hB4 hBw4 hF4 hk4 e0 e1 e2 e3 e4 e5 e6 e7 u0 u1 hsq hql
    go_wp2_with fail
    clear hWz hWi z0 z1 y0 y1 ci0 ci1 c0 c1 f0 f1 hcq m0 m1 s0 s1 s2 s3 s4 s5 s6 s7 hW4
    refine wpE_begin (S := fun w' => w'.cell? ⟨w.heap.size, 0, none⟩ = some (.int .i64 f.params) ∧ w'.cell? ⟨w.heap.size, 1, none⟩ = some (.int .i64 f.locals) ∧ w'.cell? ⟨w.heap.size, 2, none⟩ = some (.int .i64 f.zero) ∧ w'.cell? ⟨w.heap.size, 3, none⟩ = some (.int .i64 f.stack) ∧ w'.cell? ⟨w.heap.size, 4, none⟩ = some (.slice (some ⟨gc, oc, none⟩) f.code.length ck) ∧ w'.cell? ⟨w.heap.size, 5, none⟩ = some (.int .i64 nc) ∧ w'.cell? ⟨w.heap.size, 6, none⟩ = some (.int .i64 states) ∧ w'.cell? ⟨w.heap.size, 7, none⟩ = some (.slice af fs.length cf) ∧ w'.cell? ⟨w4.heap.size, 0, none⟩ = some (.int .i64 i.op) ∧ w'.cell? ⟨w4.heap.size, 1, none⟩ = some (.int .i64 i.a)) (N := fun _ => true) (by kernel_rfl) ?_
    have hS0 : wi.drew.cell? ⟨w.heap.size, 0, none⟩ = some (.int .i64 f.params) ∧ wi.drew.cell? ⟨w.heap.size, 1, none⟩ = some (.int .i64 f.locals) ∧ wi.drew.cell? ⟨w.heap.size, 2, none⟩ = some (.int .i64 f.zero) ∧ wi.drew.cell? ⟨w.heap.size, 3, none⟩ = some (.int .i64 f.stack) ∧ wi.drew.cell? ⟨w.heap.size, 4, none⟩ = some (.slice (some ⟨gc, oc, none⟩) f.code.length ck) ∧ wi.drew.cell? ⟨w.heap.size, 5, none⟩ = some (.int .i64 nc) ∧ wi.drew.cell? ⟨w.heap.size, 6, none⟩ = some (.int .i64 states) ∧ wi.drew.cell? ⟨w.heap.size, 7, none⟩ = some (.slice af fs.length cf) ∧ wi.drew.cell? ⟨w4.heap.size, 0, none⟩ = some (.int .i64 i.op) ∧ wi.drew.cell? ⟨w4.heap.size, 1, none⟩ = some (.int .i64 i.a) := hSk _ (Below.refl _ _).drew
    refine wpE_takeX (some 42) (fun _ => false) (i := 0) (v := .int .i64 q) rfl rfl (by kernel_rfl) (by kernel_rfl) (by kernel_rfl) (by kernel_rfl) (fun j hj => by cases hj) (fun _ _ _ h => h) rfl (fun w' hS => by obtain ⟨g0, g1, g2, g3, g4, g5, g6, g7, g8, g9⟩ := hS; go_simp) (hS0) ?_
    try simp only [Act.put, List.setIfInBounds_toArray, List.set_cons_zero, List.set_cons_succ]
    refine wpE_takeX (some 44) (fun _ => false) (i := 2) (v := .agg #[.int .i64 f.params, .int .i64 f.locals, .int .i64 f.zero, .int .i64 f.stack, .slice (some ⟨gc, oc, none⟩) f.code.length ck, .int .i64 nc, .int .i64 states, .slice af fs.length cf]) rfl rfl (by kernel_rfl) (by kernel_rfl) (by kernel_rfl) (by kernel_rfl) (fun j hj => by cases hj) (fun _ _ _ h => h) rfl (fun w' hS => by obtain ⟨g0, g1, g2, g3, g4, g5, g6, g7, g8, g9⟩ := hS; go_simp) (hS0) ?_
    try simp only [Act.put, List.setIfInBounds_toArray, List.set_cons_zero, List.set_cons_succ]
    refine wpE_takeX (some 45) (fun _ => false) (i := 3) (v := .agg #[.int .i64 i.op, .int .i64 i.a]) rfl rfl (by kernel_rfl) (by kernel_rfl) (by kernel_rfl) (by kernel_rfl) (fun j hj => by cases hj) (fun _ _ _ h => h) rfl (fun w' hS => by obtain ⟨g0, g1, g2, g3, g4, g5, g6, g7, g8, g9⟩ := hS; go_simp) (hS0) ?_
    try simp only [Act.put, List.setIfInBounds_toArray, List.set_cons_zero, List.set_cons_succ]
    refine wpE_one (i := 1) (by kernel_rfl) rfl rfl (fun K hK => ?_)
    go_simp
    refine (hHt _ (Below.refl _ _).drew).mono ?_
    rintro e w6 ⟨rfl, rfl⟩
    refine hK _ _ (fun _ => hSk _ (Below.refl _ _).drew) ?_
    clear hK K
    try simp only [Act.put, List.setIfInBounds_toArray, List.set_cons_zero, List.set_cons_succ]
    refine wpE_one (i := 4) (by kernel_rfl) rfl rfl (fun K hK => ?_)
    go_simp
    refine (hPo _ (Below.refl _ _).drew).mono ?_
    rintro e w7 ⟨rfl, hb7⟩
    replace hb7 : Below wi.heap.size wi w7 := below_undrew hb7
    refine hK _ _ (fun _ => hSk _ hb7) ?_
    clear hK K
    try simp only [Act.put, List.setIfInBounds_toArray, List.set_cons_zero, List.set_cons_succ]
    refine wpE_one (i := 5) (by kernel_rfl) rfl rfl (fun K hK => ?_)
    go_simp
    refine hK _ _ (fun _ => hSk _ hb7) ?_
    clear hK K
    try simp only [Act.put, List.setIfInBounds_toArray, List.set_cons_zero, List.set_cons_succ]
    refine wpE_one (i := 6) (by kernel_rfl) rfl rfl (fun K hK => ?_)
    go_simp
    refine hK _ _ (fun _ => hSk _ hb7) ?_
    clear hK K
    try simp only [Act.put, List.setIfInBounds_toArray, List.set_cons_zero, List.set_cons_succ]
    refine wpE_done (by kernel_rfl) ?_
    rw [hL.out]
    have hk7 := hki.keep hb7
    have hF7 : Fr G w0 w7 := hFi.trans (Fr.of_below hb7)
    have hB7 := hbel w7 hF7
    have hBw7 : Below w.heap.size w w7 := hb0.trans (hB7.mono hb0.size)
    obtain ⟨-, -, -, g3, -, -, -, -, g8, g9⟩ := hSk w7 hb7
    have hl7 : w.heap.size < w7.heap.size := Nat.lt_of_lt_of_le hle hb7.size
    have hli7 : w4.heap.size < w7.heap.size := Nat.lt_of_lt_of_le hli hb7.size
    have hp7 := hpu w7
    clear hHt hPo hSk hS0 hpu hb7 hki hFi hBi hBwi hw1 hB7 hbz hbi
    simp only [Exit.inBlock, Exit.then]
    refine ‹∀ (a : Act) (w : World), _ → _› _ _ ?_
    go_wp2_with fail
    refine hp7.mono ?_
    rintro e w8 ⟨rfl, rfl⟩
    clear hp7
    by_cases hLn : L < 0
    · have hpost : WkPost fs f w (.returned (.bool false)) w8 := ⟨⟨false, rfl, by simp; exact hinvH.out.bad hyH.out hy1 hiH.out (Or.inl (by have := hL.out; omega))⟩, hBw7⟩
      clear hk7 hF7 hinvH hyH hiH hbel hf hfs ho hop hja
      go_wp2
      go_ret
      exact hpost
    by_cases hXn : f.stack < X
    · have hpost : WkPost fs f w (.returned (.bool false)) w8 := ⟨⟨false, rfl, by simp; exact hinvH.out.bad hyH.out hy1 hiH.out (Or.inr (by rw [hXL.out]; omega))⟩, hBw7⟩
      clear hk7 hF7 hinvH hyH hiH hbel hf hfs ho hop hja
      go_wp2
      go_ret
      exact hpost
    have hlow : ∀ (q : Nat) (y : Int), hs[q]? = some y → 0 ≤ y ∧ y ≤ 1000 := fun q y hq => by have := hinvH.out.inv.low q (y - 1) (dnH_get hq); omega
    have hGo := goOn_any hk7 (by omega) (by omega) hlow q (by omega) i (hja i hmem) X (by have := hXb.1 (by omega); omega)
    clear hlow
    rcases hS : rchs X hs td0 (lnx q i) with _ | s
    · rw [hS] at hGo
      have hno : Hid (¬ WalkOk fs f) := hinvH.out.none hstk hyH.out hy1 hiH.out (by have := hL.out; omega) (by rw [hXL.out]; omega) (by rw [hXL.out]; exact hS)
      clear hk7 hinvH hyH hiH hf hfs ho hop hja hS
      go_wp2_with fail
      refine hGo.mono ?_
      rintro e w9 ⟨hF9, rfl, -⟩
      have hB9 := hbel w9 (hF7.trans hF9)
      have hpost : WkPost fs f w (.returned (.bool false)) w9 := ⟨⟨false, rfl, by simp; exact hno.out⟩, hb0.trans (hB9.mono hb0.size)⟩
      clear hGo hbel hF7 hF9 hB9 g3 g8 g9
      simp only [Option.isSome_none]
      go_wp2
      go_ret
      exact hpost
    · rw [hS] at hGo
      have hnx := hinvH.out.next hstk hyH.out hy1 hiH.out (by have := hL.out; omega) (by rw [hXL.out]; omega) (by rw [hXL.out]; exact hS)
      have hnx1 : Hid (WInv fs f s.1 s.2 (sn.set q true)) := hnx.1
      have hnx2 : Hid (left (sn.set q true) < left sn) := hnx.2
      clear hk7 hinvH hyH hiH hf hfs ho hop hja hS hnx
      go_wp2_with fail
      refine hGo.mono ?_
      rintro e w9 ⟨hF9, rfl, hk9⟩
      have hnew : Hid (Wk G w1.heap.size w0.heap.size s.1 s.2 w9 ∧ WInv fs f s.1 s.2 (sn.set q true) ∧ Fr G w0 w9) := ⟨hk9 s rfl, hnx1.out, hF7.trans hF9⟩
      clear hGo hbel hF7 hF9 g3 g8 g9 hk9 hnx1
      simp only [Option.isSome_some]
      go_wp2_with fail
      go_roundg (left (sn.set q true))
      case measure => exact hnx2.out
      case rel => exact ⟨s.1, s.2, _, rfl, hnew⟩
end Go.Proofs.YtnijcolomoobnaaGreatDoor
namespace Go.Proofs.YtnijcolomoobnaaGreatDoor
open Go.RowKit
set_option linter.unusedVariables false
set_option linter.unusedSimpArgs false
attribute [local go_sem ↓] Go.wp_at_zero Go.wp_at_succ

theorem AllFu.take {B : Nat → Prop} {w : World} : ∀ {l : List Fu} {row : List Value} (n : Nat), AllFu B w l row → AllFu B w (l.take n) (row.take (n * 5))
  | [], row, n, h => by
    rw [AllFu] at h
    subst h
    simp [AllFu]
  | e :: r, row, 0, h => by simp [AllFu]
  | e :: r, row, n + 1, h => by
    rw [AllFu] at h
    obtain ⟨c1, c2, rfl, h1, h2⟩ := h
    rw [List.take_succ_cons, AllFu]
    refine ⟨c1, c2.take (n * 5), ?_, h1, AllFu.take n h2⟩
    have := h1.len
    rw [List.take_append, List.take_of_length_le (by omega)]
    congr 2
    omega
theorem SlRow.take {B : Nat → Prop} {w : World} {sz : Nat} {ao : Option Addr} {n cap : Nat} {row : List Value} (h : SlRow B w sz (.slice ao n cap) n row) {k : Nat} (hk : k ≤ n) : SlRow B w sz (.slice ao k cap) k (row.take (k * sz)) := by
  obtain ⟨h1, h2⟩ := h
  have hks : k * sz ≤ n * sz := Nat.mul_le_mul_right _ hk
  refine ⟨by rw [List.length_take, h1]; omega, ?_⟩
  rcases h2 with ⟨h3, h4⟩ | ⟨g, o, c, e, h5, h6, h7, h8, h9⟩
  · refine Or.inl ⟨?_, by omega⟩
    have : k = 0 := by omega
    subst this
    subst h4
    exact h3
  · simp only [Value.slice.injEq] at e
    obtain ⟨rfl, -, rfl⟩ := e
    refine Or.inr ⟨g, o, cap, rfl, by omega, h6, h7, h8, fun i u hi => h9 i u ?_⟩
    rw [List.getElem?_take] at hi
    split at hi
    · exact hi
    · cases hi
theorem IsFus.take {B : Nat → Prop} {w : World} {l : List Fu} {ao : Option Addr} {cap : Nat} (h : IsFus B w l (.slice ao l.length cap)) {n : Nat} (hn : n ≤ l.length) : IsFus B w (l.take n) (.slice ao (l.take n).length cap) := by
  obtain ⟨row, h1, h2⟩ := h
  have e : (l.take n).length = n := by simp; omega
  rw [e]
  refine ⟨row.take (n * 5), ?_, h2.take n⟩
  rw [e]
  exact h1.take hn
end Go.Proofs.YtnijcolomoobnaaGreatDoor
