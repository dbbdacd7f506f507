import Derived.Test.YtifebbdjdllfpaaGreatDoorWF
import Derived.Test.YtifebbdjdllfpaaGreatDoorSxB
/- Writing a function. -/
namespace Go.Proofs.YtifebbdjdllfpaaGreatDoor
open Go.RowKit
set_option linter.unusedSimpArgs false
set_option linter.unusedVariables false

def OkL (s : List UInt8 × List UInt8) : Prop := s.1.length ≤ maxLen ∧ s.2.length ≤ maxLen
structure OkF (f : GF) : Prop where
  name : f.name.length ≤ maxLen
  result : f.result.length ≤ maxLen
  params : ∀ s ∈ f.params, OkL s
  body : OkSs f.body
  deep : 0 + 1 + gsDs f.body ≤ 1099511627776
/-- A function's text, but for the line's end. -/
noncomputable def fnT (wd : List UInt8) (nm : List UInt8) (ps : List (List UInt8 × List UInt8)) (rs : List UInt8) (bo : List GS) : Option (List UInt8) :=
  if gName nm then (allS (ps.map gSl)).bind fun xs => if gType rs then (gBlk (gSts bo (indT 0)) (indT 0) bo.isEmpty).map fun y => wd ++ (nm ++ ([40] ++ (commasS xs ++ ([41, 58, 32] ++ (rs ++ ([32] ++ y)))))) else none else none
theorem gFn_eq (f : GF) : gFn f = (fnT (if f.on then [111, 110, 32] else [102, 110, 32]) f.name f.params f.result f.body).map fun x => x ++ [10] := by
  unfold gFn fnT
  rw [gSls_all]
  rcases hn : gName f.name with _ | _
  · simp
  rcases ht : gType f.result with _ | _
  · rcases allS (f.params.map gSl) with _ | xs <;> simp
  rcases allS (f.params.map gSl) with _ | xs
  · simp
  rcases hb : gBlk (gSts f.body []) [] f.body.isEmpty with _ | y
  · rw [show indT 0 = [] from rfl, hb]; simp
  · rw [show indT 0 = [] from rfl, hb]; simp
theorem slot_at {base b : Nat} {w w' : World} {ps : List (List UInt8 × List UInt8)} {row : List Value} {ao : Option Addr} {cap : Nat} (hr : SlRow (fun k => k < base) w 3 (.slice ao ps.length cap) ps.length row) (ha : AllGL ps row) (hF : FW base b w w') {q : Nat} {e : List UInt8 × List UInt8} (hq : ps[q]? = some e) :
    ∃ (g o : Nat) (x y : ByteArray) (p : Int), ao = some ⟨g, o, none⟩ ∧ g < w'.heap.size ∧
      (w'.cell? ⟨g, o + q * 3, none⟩ = some (.string x) ∧ w'.cell? ⟨g, o + q * 3 + 1, none⟩ = some (.string y) ∧ w'.cell? ⟨g, o + q * 3 + 2, none⟩ = some (.int .i64 p)) ∧
      IsGL e [.string x, .string y, .int .i64 p] := by
  have hql : q < ps.length := (List.getElem?_eq_some_iff.1 hq).1
  obtain ⟨cx, kx, rx⟩ := ha.get hq
  obtain ⟨g, o, c, e0, _, _, hgb, hg, hc⟩ := hr.cells (by omega)
  simp only [Value.slice.injEq] at e0
  obtain ⟨rfl, _, rfl⟩ := e0
  have kx' := kx
  obtain ⟨p, rfl⟩ := kx
  have f0 : ∀ (j : Nat) (u : Value), j < 3 → ([.string ⟨e.1.toArray⟩, .string ⟨e.2.toArray⟩, .int .i64 p] : List Value)[j]? = some u → w'.cell? ⟨g, o + q * 3 + j, none⟩ = some u := by
    intro j u hj hu
    rw [Nat.add_assoc, hF.below.cell (p := ⟨g, o + (q * 3 + j), none⟩) hgb]
    exact hc _ _ (by rw [rx j hj]; exact hu)
  exact ⟨g, o, _, _, p, rfl, by have := hF.size; omega, ⟨f0 0 _ (by omega) rfl, f0 1 _ (by omega) rfl, f0 2 _ (by omega) rfl⟩, kx'⟩
abbrev fBox (cs : Array Value) : Obj := .cells cs 38 (0, 0)
structure FnIn (base b g0 : Nat) (cs : Array Value) (w w1 : World) : Prop where
  p : w1.heap[g0]? = some (pBox b)
  x : w1.heap[g0 + 1]? = some (fBox cs)
  gt : b < g0
  fw : FW base b w w1
theorem FnIn.step {base b g0 : Nat} {cs : Array Value} {w w1 w2 : World} (h : FnIn base b g0 cs w w1) (hf : FW base b w1 w2) : FnIn base b g0 cs w w2 := by
  have hg := h.gt
  exact ⟨hf.block h.p (by omega) (by decide), hf.block h.x (by omega) (by decide), hg, h.fw.trans hf⟩
abbrev gfBox (nm : List UInt8) (on : Bool) (ps : Value) (rs : List UInt8) (bs : Value) (p : Int) : Array Value := #[.string ⟨nm.toArray⟩, .bool on, ps, .string ⟨rs.toArray⟩, .slice none 0 0, bs, .int .i64 p]
set_option maxRecDepth 100000 in
set_option maxHeartbeats 8000000 in
theorem paramfn_any {base b g0 : Nat} {nm : List UInt8} {on : Bool} {rs : List UInt8} {bs : Value} {p : Int} {ao : Option Addr} {cap : Nat} {ps : List (List UInt8 × List UInt8)} {row : List Value} {tabs : Nat} {w : World} (hr : SlRow (fun k => k < base) w 3 (.slice ao ps.length cap) ps.length row) (ha : AllGL ps row) (hO : ∀ s ∈ ps, OkL s)
    (i : Nat) (r : Option (List UInt8)) (l : List UInt8) (w1 : World) (hi : (ps.map gSl)[i]? = some r) (hW : Wr base b l tabs w1) (hI : FnIn base b g0 (gfBox nm on (.slice ao ps.length cap) rs bs p) w w1) :
    Calls Tryz.prog 62 (#[.int .i64 i] ++ #[.pointer (some ⟨g0, 0, none⟩), .pointer (some ⟨g0 + 1, 0, none⟩)]) w1 fun e w2 => WPost base b l tabs w1 r e w2 := by
  rw [List.getElem?_map] at hi
  rcases he : ps[i]? with _ | e
  · rw [he] at hi; cases hi
  rw [he, Option.map_some, Option.some.injEq] at hi
  have hmem : e ∈ ps := List.mem_of_getElem? he
  have hil : i < ps.length := (List.getElem?_eq_some_iff.1 he).1
  obtain ⟨_, _, -, hm⟩ := hr.slice
  unfold maxLen at hm
  obtain ⟨g, o', x, y, pp, rfl, hg, ⟨e0, e1, e2⟩, hgs⟩ := slot_at hr ha hI.fw he
  have hC := wslot_any hW.drew hgs (hO e hmem).1 (hO e hmem).2
  rw [hi] at hC
  have l0 : g0 < w1.heap.size := (Array.getElem?_eq_some_iff.1 hI.p).1
  have l1 : g0 + 1 < w1.heap.size := (Array.getElem?_eq_some_iff.1 hI.x).1
  have c0 := cell_of_one hI.p
  obtain ⟨x0, x1, x2, x3, x4, x5, x6, _⟩ := cells_of7 hI.x
  have hiI : (i : Int) < (ps.length : Int) := by omega
  clear hr ha hgs hI he hi hO
  show Calls Tryz.prog 62 #[.int .i64 i, .pointer (some ⟨g0, 0, none⟩), .pointer (some ⟨g0 + 1, 0, none⟩)] w1 _
  go_enter Tryz.func62, Tryz.ntmps62
  go_upto_region 0 with fail
  rcases r with _ | z
  · go_region_with (go_at_call 40; refine hC.mono ?_; rintro e w5 ⟨rfl, l5, tabs5, h5, hf5⟩; refine skip_way w5 ⟨rfl, rfl, l5, tabs5, h5, FW.from_drewN 1 hf5⟩ ?_)
    all_goals trivial
  · go_region_with (go_at_call 40; refine hC.mono ?_; rintro e w5 ⟨rfl, l5, hw5, h5, hf5⟩)
    all_goals
      go_wp2
      go_end0
      exact ⟨rfl, l5, hw5, h5, FW.from_drewN 1 hf5⟩
theorem eParF (args : Array Value) (w : World) : (callFunc 62 args).run Tryz.prog w = .ok (.enter 62 args) w := enters_of Tryz.func62 (by kernel_rfl) rfl args w
abbrev fks (b g0 : Nat) (cs : Array Value) : List (Nat × Obj) := [(g0 + 1, fBox cs), (g0, pBox b)]
theorem In.fboxes {base b : Nat} {l : List UInt8} {tabs : Nat} {w : World} (h : Wr base b l tabs w) (cs : Array Value) : In base b (fks b w.heap.size cs) l tabs w ((w.alloc (pBox b)).alloc (fBox cs)) := by
  have := ((In.start h).alloc #[wPtr b] 87 (by decide)).alloc cs 38 (by decide)
  simpa [fks] using this
theorem res_cat (y : List UInt8) : ((⟨#[58, 32]⟩ ++ ⟨y.toArray⟩ ++ ⟨#[32]⟩ : ByteArray)) = ⟨([58, 32] ++ (y ++ [32])).toArray⟩ := by
  apply ByteArray.ext
  simp [ByteArray.data_append]
end Go.Proofs.YtifebbdjdllfpaaGreatDoor
/- Writing a function that others call. -/
namespace Go.Proofs.YtifebbdjdllfpaaGreatDoor
open Go.RowKit
set_option linter.unusedSimpArgs false
set_option linter.unusedVariables false

set_option maxRecDepth 100000 in
set_option maxHeartbeats 8000000 in
theorem fn_off {base b : Nat} {nm rs : List UInt8} {ps : List (List UInt8 × List UInt8)} {bo : List GS} {l : List UInt8} {cs : List Value} {w : World} (hW : Wr base b l 0 w) (hx : IsGF (fun k => k < base) w ⟨nm, false, ps, rs, bo⟩ cs) (hO : OkF ⟨nm, false, ps, rs, bo⟩) :
    Calls Tryz.prog 41 #[wPtr b, .agg cs.toArray] w fun r w' => WPost base b l 0 w (fnT [102, 110, 32] nm ps rs bo) r w' := by
  obtain ⟨res, hres⟩ : ∃ res : Option (List UInt8), Aside (res = fnT [102, 110, 32] nm ps rs bo) := ⟨_, show _ = _ from rfl⟩
  rw [← hres.out]
  unfold fnT at hres
  obtain ⟨pv, bv, p, rfl, ⟨row1, hr1, ha1⟩, ⟨row2, hr2, ha2⟩⟩ := hx
  simp only at hr1 ha1 hr2 ha2
  obtain ⟨a1, q1, rfl, hm1⟩ := hr1.slice
  obtain ⟨a2, q2, rfl, hm2⟩ := hr2.slice
  obtain ⟨ho1, ho2, ho3, ho4, ho5⟩ := hO
  simp only at ho1 ho2 ho3 ho4 ho5
  have hgt := hW.lt
  have hBo : ∀ w', FW base b w w' → IsGSs (fun k => k < base) w' bo (.slice a2 bo.length q2) := fun w' hF => ⟨row2, hr2.since hF.since, ha2.since hF.since⟩
  have hB := blok (base := base) (b := b) bo ho4
  have hE := In.fboxes hW (gfBox nm false (.slice a1 ps.length q1) rs (.slice a2 bo.length q2) p)
  have hN := name_any nm
  have hY := typet_any rs
  have hmf : ∀ (fn : Fn) (first cap : Array Value) (w : World), (Instr.makeFunc fn first cap).run Tryz.prog w = .ok (.func fn first cap) w := fun _ _ _ _ => rfl
  clear hr2 ha2 hm2 hW
  unfold maxLen at hm1
  go_enter Tryz.func41, Tryz.ntmps41
  go_upto_region 4 with fail
  generalize ((w.alloc (pBox b)).alloc (fBox (gfBox nm false (.slice a1 ps.length q1) rs (.slice a2 bo.length q2) p))) = w2 at *
  generalize w.heap.size = g0 at *
  have l0 : g0 < w2.heap.size := hE.lt (q := (g0, pBox b)) (by simp)
  have l1 : g0 + 1 < w2.heap.size := hE.lt (List.mem_cons_self)
  have c0 := cell_of_one (hE.kept (g0, pBox b) (by simp))
  obtain ⟨x0, x1, x2, x3, x4, x5, x6, _⟩ := cells_of7 (hE.kept _ (List.mem_cons_self))
  rcases hgn : gName nm with _ | _
  · rw [hgn] at hN
    go_region_with (go_at_call 59; refine (hN _ ho1).mono ?_; rintro e w3 ⟨rfl, rfl⟩; refine skip_way w2.drew ⟨rfl, (show WPost base b l 0 w res _ _ by rw [hres.out, hgn]; exact ⟨rfl, l, 0, hE.drew.wr, hE.drew.fw⟩)⟩ ?_)
    all_goals trivial
  rw [hgn] at hN
  have hnl := gName_len' hgn
  have hP := put_l hE.drew.wr ([102, 110, 32] ++ nm) (by simp; omega)
  rw [← cat2] at hP
  go_cut [] from 7 to 13 (fun wc => ∃ l3, wrote l ([102, 110, 32] ++ nm) l3 ∧ In base b (fks b g0 (gfBox nm false (.slice a1 ps.length q1) rs (.slice a2 bo.length q2) p)) l3 0 w wc)
  case first =>
    go_region_with (first
      | (go_at_call 59; refine (hN _ ho1).mono ?_; rintro e w3 ⟨rfl, rfl⟩)
      | (go_at_call 38; refine hP.mono ?_; rintro e w4 ⟨rfl, l4, hw4, h4, hf4⟩))
    all_goals (go_wp2_with fail; go_meet; exact ⟨l4, hw4, hE.step h4 (FW.from_drewN 1 hf4)⟩)
  case rest =>
    clear l0 l1 c0 x0 x1 x2 x3 x4 x5 x6 hN hP hE
    obtain ⟨l3, hw3, hE3⟩ := hcut
    have l0 : g0 < wc.heap.size := hE3.lt (q := (g0, pBox b)) (by simp)
    have l1 : g0 + 1 < wc.heap.size := hE3.lt (List.mem_cons_self)
    have c0 := cell_of_one (hE3.kept (g0, pBox b) (by simp))
    obtain ⟨x0, x1, x2, x3, x4, x5, x6, _⟩ := cells_of7 (hE3.kept _ (List.mem_cons_self))
    have hC := wlisted_any (K := 62) (caps := #[.pointer (some ⟨g0, 0, none⟩), .pointer (some ⟨g0 + 1, 0, none⟩)]) (xs := ps.map gSl) (Inv := FnIn base b g0 (gfBox nm false (.slice a1 ps.length q1) rs (.slice a2 bo.length q2) p) w) hE3.wr (by simp; omega) eParF (paramfn_any hr1 ha1 ho3) (fun _ _ h hf => h.step hf) ⟨hE3.kept (g0, pBox b) (by simp), hE3.kept _ (List.mem_cons_self), hgt, hE3.fw⟩
    rw [List.length_map] at hC
    clear hr1 ha1 ho3
    go_wp2_with fail
    refine hC.mono ?_
    rcases hqa : allS (ps.map gSl) with _ | zs
    · rintro e w4 ⟨rfl, l4, tabs4, h4, hf4⟩
      refine ⟨rfl, ?_⟩
      rw [hres.out, hgn, if_pos rfl, hqa]
      exact ⟨rfl, l4, tabs4, h4, hE3.fw.trans hf4⟩
    rintro e w4 ⟨rfl, l4, hw4, h4, hf4⟩
    have hE4 := hE3.step h4 hf4
    clear l0 l1 c0 x0 x1 x2 x3 x4 x5 x6 hC
    have l0 : g0 < w4.heap.size := hE4.lt (q := (g0, pBox b)) (by simp)
    have l1 : g0 + 1 < w4.heap.size := hE4.lt (List.mem_cons_self)
    have c0 := cell_of_one (hE4.kept (g0, pBox b) (by simp))
    obtain ⟨x0, x1, x2, x3, x4, x5, x6, _⟩ := cells_of7 (hE4.kept _ (List.mem_cons_self))
    go_upto_region 6 with fail
    rcases hgy : gType rs with _ | _
    · rw [hgy] at hY
      go_region_with (go_at_call 60; refine (hY _ ho2).mono ?_; rintro e w5 ⟨rfl, rfl⟩; refine skip_way w4.drew ⟨rfl, (show WPost base b l 0 w res _ _ by rw [hres.out, hgn, if_pos rfl, hqa, hgy]; exact ⟨rfl, l4, 0, hE4.drew.wr, hE4.drew.fw⟩)⟩ ?_)
      all_goals trivial
    rw [hgy] at hY
    have hyl := gType_len hgy
    have hP := put_l hE4.drew.wr ([58, 32] ++ (rs ++ [32])) (by simp; omega)
    rw [← res_cat] at hP
    go_cut [] from 20 to 26 (fun wc => ∃ l5, wrote l4 ([58, 32] ++ (rs ++ [32])) l5 ∧ In base b (fks b g0 (gfBox nm false (.slice a1 ps.length q1) rs (.slice a2 bo.length q2) p)) l5 0 w wc)
    case first =>
      go_region_with (first
        | (go_at_call 60; refine (hY _ ho2).mono ?_; rintro e w5 ⟨rfl, rfl⟩)
        | (go_at_call 38; refine hP.mono ?_; rintro e w6 ⟨rfl, l6, hw6, h6, hf6⟩))
      all_goals (go_wp2_with fail; go_meet; exact ⟨l6, hw6, hE4.step h6 (FW.from_drewN 1 hf6)⟩)
    case rest =>
      clear l0 l1 c0 x0 x1 x2 x3 x4 x5 x6 hY hP
      obtain ⟨l5, hw5, hE5⟩ := hcut
      have l0 : g0 < wc.heap.size := hE5.lt (q := (g0, pBox b)) (by simp)
      have l1 : g0 + 1 < wc.heap.size := hE5.lt (List.mem_cons_self)
      have c0 := cell_of_one (hE5.kept (g0, pBox b) (by simp))
      obtain ⟨x0, x1, x2, x3, x4, x5, x6, _⟩ := cells_of7 (hE5.kept _ (List.mem_cons_self))
      have hC := hB l5 0 _ wc ho5 hE5.wr (hBo wc hE5.fw)
      go_wp2_with fail
      refine hC.mono ?_
      rcases hqb : gBlk (gSts bo (indT 0)) (indT 0) bo.isEmpty with _ | y
      · rintro e w6 ⟨rfl, l6, tabs6, h6, hf6⟩
        refine ⟨rfl, ?_⟩
        rw [hres.out, hgn, if_pos rfl, hqa, Option.bind_some, hgy, if_pos rfl, hqb]
        exact ⟨rfl, l6, tabs6, h6, hE5.fw.trans hf6⟩
      · rintro e w6 ⟨rfl, l6, hw6, h6, hf6⟩
        go_wp2
        go_end0
        rw [hres.out, hgn, if_pos rfl, hqa, Option.bind_some, hgy, if_pos rfl, hqb]
        exact ⟨rfl, l6, by simpa using ((hw3.trans hw4).trans hw5).trans hw6, h6, hE5.fw.trans hf6⟩
end Go.Proofs.YtifebbdjdllfpaaGreatDoor
/- Writing a function that is called from without. -/
namespace Go.Proofs.YtifebbdjdllfpaaGreatDoor
open Go.RowKit
set_option linter.unusedSimpArgs false
set_option linter.unusedVariables false

set_option maxRecDepth 100000 in
set_option maxHeartbeats 8000000 in
theorem fn_on {base b : Nat} {nm rs : List UInt8} {ps : List (List UInt8 × List UInt8)} {bo : List GS} {l : List UInt8} {cs : List Value} {w : World} (hW : Wr base b l 0 w) (hx : IsGF (fun k => k < base) w ⟨nm, true, ps, rs, bo⟩ cs) (hO : OkF ⟨nm, true, ps, rs, bo⟩) :
    Calls Tryz.prog 41 #[wPtr b, .agg cs.toArray] w fun r w' => WPost base b l 0 w (fnT [111, 110, 32] nm ps rs bo) r w' := by
  obtain ⟨res, hres⟩ : ∃ res : Option (List UInt8), Aside (res = fnT [111, 110, 32] nm ps rs bo) := ⟨_, show _ = _ from rfl⟩
  rw [← hres.out]
  unfold fnT at hres
  obtain ⟨pv, bv, p, rfl, ⟨row1, hr1, ha1⟩, ⟨row2, hr2, ha2⟩⟩ := hx
  simp only at hr1 ha1 hr2 ha2
  obtain ⟨a1, q1, rfl, hm1⟩ := hr1.slice
  obtain ⟨a2, q2, rfl, hm2⟩ := hr2.slice
  obtain ⟨ho1, ho2, ho3, ho4, ho5⟩ := hO
  simp only at ho1 ho2 ho3 ho4 ho5
  have hgt := hW.lt
  have hBo : ∀ w', FW base b w w' → IsGSs (fun k => k < base) w' bo (.slice a2 bo.length q2) := fun w' hF => ⟨row2, hr2.since hF.since, ha2.since hF.since⟩
  have hB := blok (base := base) (b := b) bo ho4
  have hE := In.fboxes hW (gfBox nm true (.slice a1 ps.length q1) rs (.slice a2 bo.length q2) p)
  have hN := name_any nm
  have hY := typet_any rs
  have hmf : ∀ (fn : Fn) (first cap : Array Value) (w : World), (Instr.makeFunc fn first cap).run Tryz.prog w = .ok (.func fn first cap) w := fun _ _ _ _ => rfl
  clear hr2 ha2 hm2 hW
  unfold maxLen at hm1
  go_enter Tryz.func41, Tryz.ntmps41
  go_upto_region 4 with fail
  generalize ((w.alloc (pBox b)).alloc (fBox (gfBox nm true (.slice a1 ps.length q1) rs (.slice a2 bo.length q2) p))) = w2 at *
  generalize w.heap.size = g0 at *
  have l0 : g0 < w2.heap.size := hE.lt (q := (g0, pBox b)) (by simp)
  have l1 : g0 + 1 < w2.heap.size := hE.lt (List.mem_cons_self)
  have c0 := cell_of_one (hE.kept (g0, pBox b) (by simp))
  obtain ⟨x0, x1, x2, x3, x4, x5, x6, _⟩ := cells_of7 (hE.kept _ (List.mem_cons_self))
  rcases hgn : gName nm with _ | _
  · rw [hgn] at hN
    go_region_with (go_at_call 59; refine (hN _ ho1).mono ?_; rintro e w3 ⟨rfl, rfl⟩; refine skip_way w2.drew ⟨rfl, (show WPost base b l 0 w res _ _ by rw [hres.out, hgn]; exact ⟨rfl, l, 0, hE.drew.wr, hE.drew.fw⟩)⟩ ?_)
    all_goals trivial
  rw [hgn] at hN
  have hnl := gName_len' hgn
  have hP := put_l hE.drew.wr ([111, 110, 32] ++ nm) (by simp; omega)
  rw [← cat2] at hP
  go_cut [] from 7 to 13 (fun wc => ∃ l3, wrote l ([111, 110, 32] ++ nm) l3 ∧ In base b (fks b g0 (gfBox nm true (.slice a1 ps.length q1) rs (.slice a2 bo.length q2) p)) l3 0 w wc)
  case first =>
    go_region_with (first
      | (go_at_call 59; refine (hN _ ho1).mono ?_; rintro e w3 ⟨rfl, rfl⟩)
      | (go_at_call 38; refine hP.mono ?_; rintro e w4 ⟨rfl, l4, hw4, h4, hf4⟩))
    all_goals (go_wp2_with fail; go_meet; exact ⟨l4, hw4, hE.step h4 (FW.from_drewN 1 hf4)⟩)
  case rest =>
    clear l0 l1 c0 x0 x1 x2 x3 x4 x5 x6 hN hP hE
    obtain ⟨l3, hw3, hE3⟩ := hcut
    have l0 : g0 < wc.heap.size := hE3.lt (q := (g0, pBox b)) (by simp)
    have l1 : g0 + 1 < wc.heap.size := hE3.lt (List.mem_cons_self)
    have c0 := cell_of_one (hE3.kept (g0, pBox b) (by simp))
    obtain ⟨x0, x1, x2, x3, x4, x5, x6, _⟩ := cells_of7 (hE3.kept _ (List.mem_cons_self))
    have hC := wlisted_any (K := 62) (caps := #[.pointer (some ⟨g0, 0, none⟩), .pointer (some ⟨g0 + 1, 0, none⟩)]) (xs := ps.map gSl) (Inv := FnIn base b g0 (gfBox nm true (.slice a1 ps.length q1) rs (.slice a2 bo.length q2) p) w) hE3.wr (by simp; omega) eParF (paramfn_any hr1 ha1 ho3) (fun _ _ h hf => h.step hf) ⟨hE3.kept (g0, pBox b) (by simp), hE3.kept _ (List.mem_cons_self), hgt, hE3.fw⟩
    rw [List.length_map] at hC
    clear hr1 ha1 ho3
    go_wp2_with fail
    refine hC.mono ?_
    rcases hqa : allS (ps.map gSl) with _ | zs
    · rintro e w4 ⟨rfl, l4, tabs4, h4, hf4⟩
      refine ⟨rfl, ?_⟩
      rw [hres.out, hgn, if_pos rfl, hqa]
      exact ⟨rfl, l4, tabs4, h4, hE3.fw.trans hf4⟩
    rintro e w4 ⟨rfl, l4, hw4, h4, hf4⟩
    have hE4 := hE3.step h4 hf4
    clear l0 l1 c0 x0 x1 x2 x3 x4 x5 x6 hC
    have l0 : g0 < w4.heap.size := hE4.lt (q := (g0, pBox b)) (by simp)
    have l1 : g0 + 1 < w4.heap.size := hE4.lt (List.mem_cons_self)
    have c0 := cell_of_one (hE4.kept (g0, pBox b) (by simp))
    obtain ⟨x0, x1, x2, x3, x4, x5, x6, _⟩ := cells_of7 (hE4.kept _ (List.mem_cons_self))
    go_upto_region 6 with fail
    rcases hgy : gType rs with _ | _
    · rw [hgy] at hY
      go_region_with (go_at_call 60; refine (hY _ ho2).mono ?_; rintro e w5 ⟨rfl, rfl⟩; refine skip_way w4.drew ⟨rfl, (show WPost base b l 0 w res _ _ by rw [hres.out, hgn, if_pos rfl, hqa, hgy]; exact ⟨rfl, l4, 0, hE4.drew.wr, hE4.drew.fw⟩)⟩ ?_)
      all_goals trivial
    rw [hgy] at hY
    have hyl := gType_len hgy
    have hP := put_l hE4.drew.wr ([58, 32] ++ (rs ++ [32])) (by simp; omega)
    rw [← res_cat] at hP
    go_cut [] from 20 to 26 (fun wc => ∃ l5, wrote l4 ([58, 32] ++ (rs ++ [32])) l5 ∧ In base b (fks b g0 (gfBox nm true (.slice a1 ps.length q1) rs (.slice a2 bo.length q2) p)) l5 0 w wc)
    case first =>
      go_region_with (first
        | (go_at_call 60; refine (hY _ ho2).mono ?_; rintro e w5 ⟨rfl, rfl⟩)
        | (go_at_call 38; refine hP.mono ?_; rintro e w6 ⟨rfl, l6, hw6, h6, hf6⟩))
      all_goals (go_wp2_with fail; go_meet; exact ⟨l6, hw6, hE4.step h6 (FW.from_drewN 1 hf6)⟩)
    case rest =>
      clear l0 l1 c0 x0 x1 x2 x3 x4 x5 x6 hY hP
      obtain ⟨l5, hw5, hE5⟩ := hcut
      have l0 : g0 < wc.heap.size := hE5.lt (q := (g0, pBox b)) (by simp)
      have l1 : g0 + 1 < wc.heap.size := hE5.lt (List.mem_cons_self)
      have c0 := cell_of_one (hE5.kept (g0, pBox b) (by simp))
      obtain ⟨x0, x1, x2, x3, x4, x5, x6, _⟩ := cells_of7 (hE5.kept _ (List.mem_cons_self))
      have hC := hB l5 0 _ wc ho5 hE5.wr (hBo wc hE5.fw)
      go_wp2_with fail
      refine hC.mono ?_
      rcases hqb : gBlk (gSts bo (indT 0)) (indT 0) bo.isEmpty with _ | y
      · rintro e w6 ⟨rfl, l6, tabs6, h6, hf6⟩
        refine ⟨rfl, ?_⟩
        rw [hres.out, hgn, if_pos rfl, hqa, Option.bind_some, hgy, if_pos rfl, hqb]
        exact ⟨rfl, l6, tabs6, h6, hE5.fw.trans hf6⟩
      · rintro e w6 ⟨rfl, l6, hw6, h6, hf6⟩
        go_wp2
        go_end0
        rw [hres.out, hgn, if_pos rfl, hqa, Option.bind_some, hgy, if_pos rfl, hqb]
        exact ⟨rfl, l6, by simpa using ((hw3.trans hw4).trans hw5).trans hw6, h6, hE5.fw.trans hf6⟩
end Go.Proofs.YtifebbdjdllfpaaGreatDoor
/- Writing a function . -/
namespace Go.Proofs.YtifebbdjdllfpaaGreatDoor
open Go.RowKit
set_option linter.unusedSimpArgs false
set_option linter.unusedVariables false

/-- Every function is written as it should be. -/
theorem fn_any {base b : Nat} (f : GF) (hO : OkF f) {l : List UInt8} {cs : List Value} {w : World} (hW : Wr base b l 0 w) (hx : IsGF (fun k => k < base) w f cs) :
    Calls Tryz.prog 41 #[wPtr b, .agg cs.toArray] w fun r w' => WPost base b l 0 w (fnT (if f.on then [111, 110, 32] else [102, 110, 32]) f.name f.params f.result f.body) r w' := by
  obtain ⟨nm, on, ps, rs, bo⟩ := f
  cases on
  · exact fn_off hW hx hO
  · exact fn_on hW hx hO
end Go.Proofs.YtifebbdjdllfpaaGreatDoor
