import Derived.Test.YtifebbdjdllfpaaGreatDoorWA
import Derived.Lib.UnsafeStr
import Derived.Test.YtifebbdjdllfpaaGreatDoorWG
import Derived.Test.YtifebbdjdllfpaaGreatDoorPsE
import Derived.Test.YtifebbdjdllfpaaGreatDoorSxB
/- The text that a writer holds, told. -/
namespace Go.Proofs.YtifebbdjdllfpaaGreatDoor
open Go.RowKit
set_option linter.unusedSimpArgs false
set_option linter.unusedVariables false

set_option maxRecDepth 100000 in
set_option maxHeartbeats 4000000 in
theorem fstring_any {base b : Nat} {l : List UInt8} {tabs : Nat} {w : World} (h : Wr base b l tabs w) (h0 : l ≠ []) :
    Calls Tryz.prog 25 #[wPtr b] w fun e w' => e = .returned (.string ⟨l.toArray⟩) ∧ FW base b w w' := by
  obtain ⟨hle, _, p, v, hp, hbk, hown⟩ := h
  have hl0 : l.length ≠ 0 := by simpa using h0
  obtain ⟨g, cap, cur, fz, rfl, hbg, hg, hfz, hnc, hcm, hcs, htake⟩ : ∃ g cap cur fz, v = .slice (some ⟨g, 0, none⟩) l.length cap ∧ base ≤ g ∧ w.heap[g]? = some (.cells cur 5 fz) ∧ fz.2 ≤ l.length * 1 ∧ l.length ≤ cap ∧ cap ≤ maxLen ∧ cur.size = cap * 1 ∧ cur.toList.take (l.length * 1) = Lib.byteCells l := by
    rcases hown.2 with ⟨_, hz⟩ | ⟨g, cap, cur, fz, hv, r⟩
    · exact absurd hz hl0
    · exact ⟨g, cap, cur, fz, hv, r⟩
  have hlt : b < w.heap.size := (Array.getElem?_eq_some_iff.1 hbk).1
  have c1 : w.drew.cell? ⟨b, 1, none⟩ = some (.slice (some ⟨g, 0, none⟩) l.length cap) := (cells_of3 (w := w.drew) hbk).2.1
  have hSD : (Builtin.unsafeSliceData_ #[61] 93 #[.slice (some ⟨g, 0, none⟩) l.length cap]).run Tryz.prog w.drew = .ok (.pointer (some ⟨g, 0, none⟩)) w.drew :=
    Lib.run_unsafeSliceData_row _ _ _ _ _ _ (by omega)
  have hUS : (Builtin.unsafeString_ #[93, 3] 9 #[.pointer (some ⟨g, 0, none⟩), .int .i64 l.length]).run Tryz.prog w.drew = .ok (.string ⟨l.toArray⟩) (w.drew.freeze ⟨g, 0, none⟩ l.length) := by
    refine Lib.run_unsafeString_row w.drew 93 3 9 5 Tryz.underlying93 (by kernel_rfl) g cur.size (by have hg' : w.drew.heap[g]? = some (.cells cur 5 fz) := hg; simp [World.shape?, hg']) l h0 (by omega) (by unfold maxLen at hcm; omega) ?_
    intro j x hx
    have := hown.cells (g := g) rfl j (.int .u8 x.toNat) (by simp [Lib.byteCells, hx])
    exact this
  have hF : FW base b w (w.drew.freeze ⟨g, 0, none⟩ l.length) :=
    ⟨Lib.below_freeze (Below.drew (Below.refl base w)) (p := ⟨g, 0, none⟩) hbg _, Lib.OthersKept.freeze (Lib.OthersKept.drew (Lib.OthersKept.refl _ _ _)) ⟨g, 0, none⟩ _ ⟨cur, fz, hg⟩⟩
  clear hown htake hcs hfz
  go_enter Tryz.func25, Tryz.ntmps25
  go_wp2
  go_region
  all_goals
    go_wp2
    go_ret
    exact ⟨rfl, hF⟩
end Go.Proofs.YtifebbdjdllfpaaGreatDoor
/- Writing a program. -/
namespace Go.Proofs.YtifebbdjdllfpaaGreatDoor
open Go.RowKit
open Px (dg)
set_option linter.unusedSimpArgs false
set_option linter.unusedVariables false

theorem In.tail {base b : Nat} {q : Nat × Obj} {ks : List (Nat × Obj)} {l : List UInt8} {tabs : Nat} {w w' : World} (h : In base b (q :: ks) l tabs w w') : In base b ks l tabs w w' :=
  ⟨h.wr, fun q hq => h.kept q (List.mem_cons_of_mem _ hq), fun q hq => h.fine q (List.mem_cons_of_mem _ hq), h.fw⟩
structure OkP (p : GP) : Prop where
  version : p.version ≤ 9223372036854775807
  states : ∀ s ∈ p.states, OkL s
  fns : ∀ f ∈ p.fns, OkF f
def ssJ (ys : List (List UInt8)) : List UInt8 := ys.flatMap fun y => [115, 116, 97, 116, 101, 32] ++ (y ++ [59, 10])
def fsJ (ys : List (List UInt8)) : List UInt8 := ys.flatMap fun y => y
theorem gSs_all : ∀ l : List (List UInt8 × List UInt8), gSs l = (allS (l.map gSl)).map ssJ
  | [] => by simp [gSs, allS, ssJ]
  | s :: r => by
    simp only [gSs, List.map_cons, allS, gSs_all r]
    rcases gSl s with _ | x <;> rcases allS (r.map gSl) with _ | xs <;> simp [ssJ]
theorem gFs_all : ∀ l : List GF, gFs l = (allS (l.map gFn)).map fsJ
  | [] => by simp [gFs, allS, fsJ]
  | s :: r => by
    simp only [gFs, List.map_cons, allS, gFs_all r]
    rcases gFn s with _ | x <;> rcases allS (r.map gFn) with _ | xs <;> simp [fsJ]
theorem fn_at {base b : Nat} {w w' : World} {fs : List GF} {row : List Value} {ao : Option Addr} {cap : Nat} (hr : SlRow (fun k => k < base) w 7 (.slice ao fs.length cap) fs.length row) (ha : AllGF (fun k => k < base) w fs row) (hF : FW base b w w') {q : Nat} {f : GF} (hq : fs[q]? = some f) :
    ∃ (g o : Nat) (x y : ByteArray) (on : Bool) (a1 : Option Addr) (n1 q1 : Nat) (a2 : Option Addr) (n2 q2 : Nat) (p : Int), ao = some ⟨g, o, none⟩ ∧ g < w'.heap.size ∧
      (w'.cell? ⟨g, o + q * 7, none⟩ = some (.string x) ∧ w'.cell? ⟨g, o + q * 7 + 1, none⟩ = some (.bool on) ∧ w'.cell? ⟨g, o + q * 7 + 2, none⟩ = some (.slice a1 n1 q1) ∧ w'.cell? ⟨g, o + q * 7 + 3, none⟩ = some (.string y) ∧ w'.cell? ⟨g, o + q * 7 + 4, none⟩ = some (.slice none 0 0) ∧ w'.cell? ⟨g, o + q * 7 + 5, none⟩ = some (.slice a2 n2 q2) ∧ w'.cell? ⟨g, o + q * 7 + 6, none⟩ = some (.int .i64 p)) ∧
      IsGF (fun k => k < base) w f [.string x, .bool on, .slice a1 n1 q1, .string y, .slice none 0 0, .slice a2 n2 q2, .int .i64 p] := by
  have hql : q < fs.length := (List.getElem?_eq_some_iff.1 hq).1
  obtain ⟨cx, kx, rx⟩ := ha.get hq
  obtain ⟨g, o, c, e0, _, _, hgb, hg, hc⟩ := hr.cells (by omega)
  simp only [Value.slice.injEq] at e0
  obtain ⟨rfl, _, rfl⟩ := e0
  have kx' := kx
  obtain ⟨pv, bv, p, rfl, ⟨r1, h1, _⟩, ⟨r2, h2, _⟩⟩ := kx
  obtain ⟨a1, q1, rfl, _⟩ := h1.slice
  obtain ⟨a2, q2, rfl, _⟩ := h2.slice
  have f0 : ∀ (j : Nat) (u : Value), j < 7 → ([.string ⟨f.name.toArray⟩, .bool f.on, .slice a1 f.params.length q1, .string ⟨f.result.toArray⟩, .slice none 0 0, .slice a2 f.body.length q2, .int .i64 p] : List Value)[j]? = some u → w'.cell? ⟨g, o + q * 7 + j, none⟩ = some u := by
    intro j u hj hu
    rw [Nat.add_assoc, hF.below.cell (p := ⟨g, o + (q * 7 + j), none⟩) hgb]
    exact hc _ _ (by rw [rx j hj]; exact hu)
  exact ⟨g, o, _, _, _, _, _, _, _, _, _, p, rfl, by have := hF.size; omega, ⟨f0 0 _ (by omega) rfl, f0 1 _ (by omega) rfl, f0 2 _ (by omega) rfl, f0 3 _ (by omega) rfl, f0 4 _ (by omega) rfl, f0 5 _ (by omega) rfl, f0 6 _ (by omega) rfl⟩, kx'⟩
theorem ver_cat (y : List UInt8) : ((⟨#[118, 101, 114, 115, 105, 111, 110, 32]⟩ ++ ⟨y.toArray⟩ ++ ⟨#[59, 10]⟩ : ByteArray)) = ⟨([118, 101, 114, 115, 105, 111, 110, 32] ++ (y ++ [59, 10])).toArray⟩ := by
  apply ByteArray.ext
  simp [ByteArray.data_append]
theorem ss_snoc (ys : List (List UInt8)) (y : List UInt8) : ssJ (ys ++ [y]) = ssJ ys ++ ([115, 116, 97, 116, 101, 32] ++ (y ++ [59, 10])) := by simp [ssJ]
theorem fs_snoc (ys : List (List UInt8)) (y : List UInt8) : fsJ (ys ++ [y]) = fsJ ys ++ y := by simp [fsJ]
abbrev prBox (cs : Array Value) : Obj := .cells cs 31 (0, 0)
set_option maxRecDepth 100000 in
set_option maxHeartbeats 8000000 in
theorem program_any {base b : Nat} {p : GP} (hO : OkP p) {l : List UInt8} {v : Value} {w : World} (hW : Wr base b l 0 w) (hx : IsGP (fun k => k < base) w p v) :
    Calls Tryz.prog 23 #[wPtr b, v] w fun r w' => WPost base b l 0 w (gPr p) r w' := by
  obtain ⟨ver, ss, fs⟩ := p
  obtain ⟨ssv, fsv, rfl, ⟨row1, hr1, ha1⟩, ⟨row2, hr2, ha2⟩⟩ := hx
  simp only at hr1 ha1 hr2 ha2
  obtain ⟨a1, q1, rfl, hm1⟩ := hr1.slice
  obtain ⟨a2, q2, rfl, hm2⟩ := hr2.slice
  obtain ⟨ho1, ho2, ho3⟩ := hO
  simp only at ho1 ho2 ho3
  obtain ⟨res, hres⟩ : ∃ res : Option (List UInt8), Aside (res = gPr ⟨ver, ss, fs⟩) := ⟨_, show _ = _ from rfl⟩
  rw [← hres.out]
  rw [gPr] at hres
  simp only [gSs_all, gFs_all] at hres
  have hE := (In.start hW).alloc #[.int .i64 ver, .slice a1 ss.length q1, .slice a2 fs.length q2] 31 (by decide)
  have hS := fun (q : Nat) (s : List UInt8 × List UInt8) (w' : World) (hq : ss[q]? = some s) (hF : FW base b w w') => slot_at hr1 ha1 hF hq
  have hFn := fun (q : Nat) (f : GF) (w' : World) (hq : fs[q]? = some f) (hF : FW base b w w') => fn_at hr2 ha2 hF hq
  clear hW hr1 ha1 hr2 ha2
  unfold maxLen at hm1 hm2
  go_enter Tryz.func23, Tryz.ntmps23
  go_wp2_with fail
  generalize w.alloc (.cells #[.int .i64 ver, .slice a1 ss.length q1, .slice a2 fs.length q2] 31) = w2 at *
  generalize w.heap.size = g0 at *
  have hN := number_any ver w2 hE.wr.tab ho1
  refine hN.mono ?_
  by_cases hv : ¬ 0 ≤ ver
  · rw [if_neg hv]
    rintro e w3 ⟨rfl, hb3⟩
    refine ⟨rfl, ?_⟩
    rw [hres.out, if_neg hv]
    exact ⟨rfl, l, 0, (hE.call hb3).wr, (hE.call hb3).fw⟩
  replace hv : 0 ≤ ver := by omega
  rw [if_pos hv]
  rintro e w3 ⟨rfl, hb3⟩
  have hE3 := hE.call hb3
  have hdl := dg_len ver.toNat (by omega)
  replace hres : Aside (res = ((allS (ss.map gSl)).map ssJ).bind fun x => ((allS (fs.map gFn)).map fsJ).map fun y => ([118, 101, 114, 115, 105, 111, 110, 32] ++ (dg ver.toNat ++ [59, 10])) ++ (x ++ y)) := by
    show _ = _
    rw [hres.out, if_pos hv]
    rcases allS (ss.map gSl) with _ | xs <;> rcases allS (fs.map gFn) with _ | ys <;> simp
  clear hN hE hb3 hv ho1
  generalize dg ver.toNat = dd at *
  go_wp2_with fail
  rw [ver_cat]
  refine (put_l hE3.wr ([118, 101, 114, 115, 105, 111, 110, 32] ++ (dd ++ [59, 10])) (by simp; omega)).mono ?_
  rintro e w4 ⟨rfl, l4, hw4, h4, hf4⟩
  have hE4 := hE3.step h4 hf4
  generalize [118, 101, 114, 115, 105, 111, 110, 32] ++ (dd ++ [59, 10]) = hd at *
  clear hE3 hf4 h4 hdl
  have l0 : g0 < w4.heap.size := hE4.lt (List.mem_cons_self)
  obtain ⟨x0, x1, x2, _⟩ := cells_of3 (hE4.kept _ (List.mem_cons_self))
  go_wp2_with fail
  clear l0 x0 x1 x2
  go_loopg [18] ss.length (fun g i wr => ∃ (ys : List (List UInt8)) (lk : List UInt8), ys.length ≤ ss.length ∧ g = ss.length - ys.length ∧ i = .int .i64 ys.length ∧ (ss.take ys.length).map gSl = ys.map some ∧ wrote l (hd ++ ssJ ys) lk ∧ In base b [(g0, prBox #[.int .i64 ver, .slice a1 ss.length q1, .slice a2 fs.length q2])] lk 0 w wr)
  case atStart => exact ⟨[], l4, by simp, rfl, rfl, by simp, by simpa [ssJ] using hw4, hE4⟩
  case round =>
    clear hw4 hE4
    obtain ⟨ys, lk, hk, rfl, rfl, htk, hwk, hEk⟩ := hrel
    by_cases hlt : ys.length < ss.length
    · clear hFn
      have hltI : (ys.length : Int) < (ss.length : Int) := by omega
      obtain ⟨s, hs⟩ : ∃ s, ss[ys.length]? = some s := ⟨_, List.getElem?_eq_getElem hlt⟩
      obtain ⟨g, o', x, y, pp, rfl, hg, ⟨e0, e1, e2⟩, hgs⟩ := hS ys.length s wr hs hEk.fw
      have hmem : s ∈ ss := List.mem_of_getElem? hs
      have hE5 := hEk.alloc #[.string x, .string y, .int .i64 pp] 90 (by decide)
      clear hS
      go_wp2_with fail
      generalize wr.alloc (.cells #[.string x, .string y, .int .i64 pp] 90) = w5 at *
      generalize wr.heap.size = gg at *
      refine (put_l hE5.wr [115, 116, 97, 116, 101, 32] (by simp)).mono ?_
      rintro e w6 ⟨rfl, l6, hw6, h6, hf6⟩
      have hE6 := hE5.step h6 hf6
      have lg : gg < w6.heap.size := hE6.lt (List.mem_cons_self)
      obtain ⟨x0, x1, x2, _⟩ := cells_of3 (hE6.kept _ (List.mem_cons_self))
      have hC := wslot_any h6 hgs (ho2 s hmem).1 (ho2 s hmem).2
      clear e0 e1 e2 hE5 hf6
      go_wp2_with fail
      refine hC.mono ?_
      rcases hq : gSl s with _ | z
      · rintro e w7 ⟨rfl, l7, tabs7, h7, hf7⟩
        refine ⟨rfl, ?_⟩
        rw [hres.out, allS_none (xs := ss.map gSl) (i := ys.length) (by rw [List.getElem?_map, hs, Option.map_some, hq])]
        exact ⟨rfl, l7, tabs7, h7, hE6.fw.trans hf7⟩
      · rintro e w7 ⟨rfl, l7, hw7, h7, hf7⟩
        have hE7 := hE6.step h7 hf7
        clear x0 x1 x2 lg hC
        go_wp2_with fail
        refine (put_l h7 [59, 10] (by simp)).mono ?_
        rintro e w8 ⟨rfl, l8, hw8, h8, hf8⟩
        have hE8 := (hE7.step h8 hf8).tail
        go_wp2_with fail
        go_roundg (ss.length - (ys.length + 1))
        case measure => omega
        case rel =>
          refine ⟨ys ++ [z], l8, by simp; omega, by simp, by simp, ?_, ?_, hE8⟩
          · rw [List.length_append, List.length_singleton, List.take_add_one, List.map_append, htk, hs]
            simp [hq]
          · rw [ss_snoc]
            simpa using ((hwk.trans hw6).trans hw7).trans hw8
    · have hltI : ¬ (ys.length : Int) < (ss.length : Int) := by omega
      have hall : ss.map gSl = ys.map some := by
        rw [List.take_of_length_le (by omega)] at htk
        exact htk
      replace hres : Aside (res = ((allS (fs.map gFn)).map fsJ).map fun y => (hd ++ ssJ ys) ++ y) := by
        show _ = _
        rw [hres.out, hall, allS_some]
        rcases allS (fs.map gFn) with _ | zs <;> simp
      clear hS hall htk hk ho2
      generalize hd ++ ssJ ys = hd2 at *
      have l0 : g0 < wr.heap.size := hEk.lt (List.mem_cons_self)
      obtain ⟨x0, x1, x2, _⟩ := cells_of3 (hEk.kept _ (List.mem_cons_self))
      go_wp2_with fail
      clear l0 x0 x1 x2
      go_loopg [33] fs.length (fun g i wr => ∃ (zs : List (List UInt8)) (lk : List UInt8), zs.length ≤ fs.length ∧ g = fs.length - zs.length ∧ i = .int .i64 zs.length ∧ (fs.take zs.length).map gFn = zs.map some ∧ wrote l (hd2 ++ fsJ zs) lk ∧ In base b [(g0, prBox #[.int .i64 ver, .slice a1 ss.length q1, .slice a2 fs.length q2])] lk 0 w wr)
      case atStart => exact ⟨[], lk, by simp, rfl, rfl, by simp, by simpa [fsJ] using hwk, hEk⟩
      case round =>
        clear hwk hEk
        obtain ⟨zs, lk, hk, rfl, rfl, htk, hwk, hEk⟩ := hrel
        by_cases hlt : zs.length < fs.length
        · have hltI2 : (zs.length : Int) < (fs.length : Int) := by omega
          obtain ⟨f, hf⟩ : ∃ f, fs[zs.length]? = some f := ⟨_, List.getElem?_eq_getElem hlt⟩
          obtain ⟨g, o', x, y, on, b1, n1, c1, b2, n2, c2, pp, rfl, hg, ⟨e0, e1, e2, e3, e4, e5, e6⟩, hgs⟩ := hFn zs.length f wr hf hEk.fw
          have hmem : f ∈ fs := List.mem_of_getElem? hf
          have hE5 := hEk.alloc #[.string x, .bool on, .slice b1 n1 c1, .string y, .slice none 0 0, .slice b2 n2 c2, .int .i64 pp] 38 (by decide)
          clear hFn
          go_wp2_with fail
          generalize wr.alloc (.cells #[.string x, .bool on, .slice b1 n1 c1, .string y, .slice none 0 0, .slice b2 n2 c2, .int .i64 pp] 38) = w5 at *
          generalize wr.heap.size = gg at *
          have hC := fn_any f (ho3 f hmem) hE5.wr (hgs.since hE5.fw.since)
          refine hC.mono ?_
          have hgf := gFn_eq f
          rcases hq : fnT (if f.on then [111, 110, 32] else [102, 110, 32]) f.name f.params f.result f.body with _ | z
          · rw [hq] at hgf
            rintro e w7 ⟨rfl, l7, tabs7, h7, hf7⟩
            refine ⟨rfl, ?_⟩
            rw [hres.out, allS_none (xs := fs.map gFn) (i := zs.length) (by rw [List.getElem?_map, hf, Option.map_some, hgf]; rfl)]
            exact ⟨rfl, l7, tabs7, h7, hE5.fw.trans hf7⟩
          · rw [hq] at hgf
            rintro e w7 ⟨rfl, l7, hw7, h7, hf7⟩
            have hE7 := hE5.step h7 hf7
            clear e0 e1 e2 e3 e4 e5 e6 hC hE5
            go_wp2_with fail
            refine (put_l h7 [10] (by simp)).mono ?_
            rintro e w8 ⟨rfl, l8, hw8, h8, hf8⟩
            have hE8 := (hE7.step h8 hf8).tail
            go_wp2_with fail
            go_roundg (fs.length - (zs.length + 1))
            case measure => omega
            case rel =>
              refine ⟨zs ++ [z ++ [10]], l8, by simp; omega, by simp, by simp, ?_, ?_, hE8⟩
              · rw [List.length_append, List.length_singleton, List.take_add_one, List.map_append, htk, hf]
                simp [hgf]
              · rw [fs_snoc]
                simpa using (hwk.trans hw7).trans hw8
        · have hltI2 : ¬ (zs.length : Int) < (fs.length : Int) := by omega
          have hall : fs.map gFn = zs.map some := by
            rw [List.take_of_length_le (by omega)] at htk
            exact htk
          go_wp2
          go_end0
          rw [hres.out, hall, allS_some]
          exact ⟨rfl, lk, hwk, hEk.wr, hEk.fw⟩
end Go.Proofs.YtifebbdjdllfpaaGreatDoor
/- Show: a fault that was thrown is recovered; the text is told, or that it is too long. -/
namespace Go.Proofs.YtifebbdjdllfpaaGreatDoor
open Go.RowKit
set_option linter.unusedSimpArgs false
set_option linter.unusedVariables false

set_option maxRecDepth 100000 in
set_option maxHeartbeats 2000000 in
theorem sfaultOf_any (w : World) : Calls Tryz.prog 22 #[.iface 86 (.agg #[.int .i64 11])] w fun e w' => e = .returned (.int .i64 11) ∧ w' = w := by
  have hta : ∀ w1 : World, (Instr.typeAssert (.iface 86 (.agg #[.int .i64 11])) 20 86 false).run Tryz.prog w1 = .ok (.agg #[.int .i64 11]) w1 := fun _ => by kernel_rfl
  have hfd : ∀ w1 : World, (Instr.field 86 (.agg #[.int .i64 11]) 0).run Tryz.prog w1 = .ok (.int .i64 11) w1 := fun _ => by kernel_rfl
  go_enter Tryz.func22, Tryz.ntmps22
  go_wp2
  go_ret
  exact ⟨rfl, rfl⟩
set_option maxHeartbeats 2000000 in
theorem scatch_idle (p q : Addr) (w : World) :
    CallsD Tryz.prog 21 #[.pointer (some p), .pointer (some q)] .returning w fun e u' w' => e = .returned (.tuple #[]) ∧ u' = .returning ∧ w' = w := by
  refine callsD_of_wpS Tryz.func21 rfl fun c₀ cs hu => ?_
  apply wpS_seq
  apply wpS_region
  simp [wpOpsS, go_sem, recoverD, hu, Tryz.ntmps21, Exit.thenS]
  refine wpS_of_wp ?_
  go_wp2
  cases c₀
  simp_all [bodyPostS, results, Tryz.results21]
abbrev strO (x : ByteArray) : Obj := .cells #[.string x] 9 (0, 0)
set_option maxHeartbeats 4000000 in
theorem scatch_thrown (g1 g2 v2 : Nat) (x1 : ByteArray) (hg2 : g1 < g2) (w : World) (hq : w.heap[g1]? = some (strO x1)) (hr : w.heap[g2]? = some (errO v2)) :
    CallsD Tryz.prog 21 #[.pointer (some ⟨g1, 0, none⟩), .pointer (some ⟨g2, 0, none⟩)] (.panicking thrownF) w fun e u' w' =>
      e = .returned (.tuple #[]) ∧ u' = .panicking [{ v := .iface 86 (.agg #[.int .i64 11]), recovered := true }] ∧
      w'.heap[g1]? = some (strO ⟨#[]⟩) ∧ w'.heap[g2]? = some (errO 11) ∧ Below g1 w w' := by
  refine callsD_of_wpS Tryz.func21 rfl fun c₀ cs hu => ?_
  apply wpS_seq
  apply wpS_region
  simp [wpOpsS, go_sem, recoverD, hu, Tryz.ntmps21, Exit.thenS]
  refine wpS_of_wp ?_
  have lq : g1 < w.heap.size := (Array.getElem?_eq_some_iff.1 hq).1
  have lr : g2 < w.heap.size := (Array.getElem?_eq_some_iff.1 hr).1
  have k1 := cell_of_one hq
  have k2 := free_of_one hq
  have k3 := cell_of_one hr
  have k4 := free_of_one hr
  have hfin : ((w.setCell ⟨g1, 0, none⟩ (.string ⟨#[]⟩)).setCell ⟨g2, 0, none⟩ (.int .i64 11)).heap[g1]? = some (strO ⟨#[]⟩) ∧ ((w.setCell ⟨g1, 0, none⟩ (.string ⟨#[]⟩)).setCell ⟨g2, 0, none⟩ (.int .i64 11)).heap[g2]? = some (errO 11) ∧ Below g1 w ((w.setCell ⟨g1, 0, none⟩ (.string ⟨#[]⟩)).setCell ⟨g2, 0, none⟩ (.int .i64 11)) := by
    refine ⟨?_, ?_, ?_⟩
    · rw [Below.heap_setCell _ _ _ _ (by show g1 ≠ g2; omega)]; simp [World.setCell, Array.getElem?_modify, hq]
    · have : (w.setCell ⟨g1, 0, none⟩ (.string ⟨#[]⟩)).heap[g2]? = some (errO v2) := (Below.heap_setCell _ _ _ _ (by show g2 ≠ g1; omega)).trans hr
      simp [World.setCell, Array.getElem?_modify] at this ⊢
      simp [this]
    · exact ((Below.refl g1 w).setCell (p := ⟨g1, 0, none⟩) (Nat.le_refl _) _).setCell (p := ⟨g2, 0, none⟩) (by show g1 ≤ g2; omega) _
  have hne : g1 ≠ g2 := by omega
  go_wp2_with (go_at_call 22; refine (sfaultOf_any _).mono ?_; rintro e w1 ⟨rfl, rfl⟩)
  clear k1 k2 k3 k4 hq hr
  generalize ((w1.setCell ⟨g1, 0, none⟩ (.string ⟨#[]⟩)).setCell ⟨g2, 0, none⟩ (.int .i64 11)) = w2 at *
  cases c₀
  simp_all [bodyPostS, results, Tryz.results21]
end Go.Proofs.YtifebbdjdllfpaaGreatDoor
/- Show answers what the document says. -/
namespace Go.Proofs.YtifebbdjdllfpaaGreatDoor
open Go.RowKit
set_option linter.unusedSimpArgs false
set_option linter.unusedVariables false

abbrev freshW : Obj := .cells #[.pointer none, .slice none 0 0, .int .i64 0] 65 (0, 0)
abbrev showW (w : World) (cs : Array Value) : World := (((w.alloc (prBox cs)).alloc (strO ⟨#[]⟩)).alloc (errO 0)).alloc freshW
theorem showW_size (w : World) (cs : Array Value) : (showW w cs).heap.size = w.heap.size + 4 := by simp
theorem showW_below (w : World) (cs : Array Value) : Below w.heap.size w (showW w cs) := ((((Below.refl _ _).alloc (Nat.le_refl _) _).alloc (by simp) _).alloc (by simp <;> omega) _).alloc (by simp <;> omega) _
theorem showW_blocks (w : World) (cs : Array Value) : (showW w cs).heap[w.heap.size]? = some (prBox cs) ∧ (showW w cs).heap[w.heap.size + 1]? = some (strO ⟨#[]⟩) ∧ (showW w cs).heap[w.heap.size + 1 + 1]? = some (errO 0) ∧ (showW w cs).heap[w.heap.size + 1 + 1 + 1]? = some freshW := by
  refine ⟨?_, ?_, ?_, ?_⟩
  · rw [heap_old (by simp <;> omega), heap_old (by simp <;> omega), heap_old (by simp)]; exact heap_new w _
  · rw [heap_old (by simp <;> omega), heap_old (by simp)]
    have := heap_new (w.alloc (prBox cs)) (strO ⟨#[]⟩)
    simpa using this
  · rw [heap_old (by simp)]
    have := heap_new ((w.alloc (prBox cs)).alloc (strO ⟨#[]⟩)) (errO 0)
    simpa using this
  · have := heap_new (((w.alloc (prBox cs)).alloc (strO ⟨#[]⟩)).alloc (errO 0)) freshW
    simpa using this
theorem showW_wr (w : World) (cs : Array Value) (ht : Lib.TabIs Tryz.prog w "internal/strconv.uint64pow10" .u64 Lib.pow10Tab) : Wr w.heap.size (w.heap.size + 1 + 1 + 1) [] 0 (showW w cs) := by
  refine ⟨by omega, Tb.mono (Lib.tabBelow_of_tabIs ht) (showW_below w cs), .pointer none, .slice none 0 0, Or.inl rfl, (showW_blocks w cs).2.2.2, ?_⟩
  exact ⟨rfl, Or.inl ⟨rfl, rfl⟩⟩
theorem gPr_ne {p : GP} {s : List UInt8} (h : gPr p = some s) : s ≠ [] := by
  unfold gPr at h
  split at h
  · rcases h1 : gSs p.states with _ | x
    · rw [h1] at h; cases h
    · rcases h2 : gFs p.fns with _ | y
      · rw [h1, h2] at h; cases h
      · rw [h1, h2] at h
        simp only [Option.some.injEq] at h
        intro e
        rw [e] at h
        simp at h
  · cases h
/-- The two results are set. -/
theorem set_two {w w1 : World} {g : Nat} {x1 : ByteArray} {v2 : Nat} (b1 : w1.heap[g]? = some (strO x1)) (b2 : w1.heap[g + 1]? = some (errO v2)) {n : Nat} (hB : Below n w w1) (hn : n ≤ g) (x : ByteArray) (er : Value) :
    ∃ wF, wF = (w1.setCell ⟨g, 0, none⟩ (.string x)).setCell ⟨g + 1, 0, none⟩ er ∧ wF.heap[g]? = some (strO x) ∧ wF.heap[g + 1]? = some (.cells #[er] 32 (0, 0)) ∧ Below n w wF := by
  refine ⟨_, rfl, ?_, ?_, ?_⟩
  · rw [Below.heap_setCell _ _ _ _ (by show g ≠ g + 1; omega)]; simp [World.setCell, Array.getElem?_modify, b1]
  · have : (w1.setCell ⟨g, 0, none⟩ (.string x)).heap[g + 1]? = some (errO v2) := (Below.heap_setCell _ _ _ _ (by show g + 1 ≠ g; omega)).trans b2
    generalize w1.setCell ⟨g, 0, none⟩ (.string x) = wX at *
    simp [World.setCell, Array.getElem?_modify, this]
  · exact (hB.setCell (p := ⟨g, 0, none⟩) hn _).setCell (p := ⟨g + 1, 0, none⟩) (by show n ≤ g + 1; omega) _
set_option maxRecDepth 100000 in
set_option maxHeartbeats 8000000 in
theorem show_any {p : GP} (hO : OkP p) {v : Value} {w : World} (ht : Lib.TabIs Tryz.prog w "internal/strconv.uint64pow10" .u64 Lib.pow10Tab) (hx : IsGP (fun k => k < w.heap.size) w p v) :
    Calls Tryz.prog 12 #[v] w fun e w' => e = .returned (.tuple #[.string ⟨(gShow 11 p).1.toArray⟩, .int .i64 (gShow 11 p).2]) ∧ Below w.heap.size w w' := by
  have hx' := hx
  obtain ⟨ssv, fsv, rfl, ⟨row1, hr1, _⟩, ⟨row2, hr2, _⟩⟩ := hx'
  obtain ⟨a1, q1, rfl, hm1⟩ := hr1.slice
  obtain ⟨a2, q2, rfl, hm2⟩ := hr2.slice
  obtain ⟨cs, hcs⟩ : ∃ cs : Array Value, cs = #[.int .i64 p.version, .slice a1 p.states.length q1, .slice a2 p.fns.length q2] := ⟨_, rfl⟩
  have hW := showW_wr w cs ht
  obtain ⟨d0, d1, d2, d3⟩ := showW_blocks w cs
  have hsz := showW_size w cs
  have hB4 := showW_below w cs
  have hC := program_any hO hW (hx.since ⟨hB4.size, fun k h1 _ => hB4.block k h1⟩)
  obtain ⟨res, hres⟩ : ∃ res, Aside (res = gShow 11 p) := ⟨_, show _ = _ from rfl⟩
  rw [← hres.out]
  unfold gShow at hres
  have hmf : ∀ (fn : Fn) (first cap : Array Value) (w : World), (Instr.makeFunc fn first cap).run Tryz.prog w = .ok (.func fn first cap) w := fun _ _ _ _ => rfl
  subst hcs
  obtain ⟨c0, c1, c2, _⟩ := cells_of3 d0
  clear hr1 hr2 hm1 hm2 hx hW
  go_enter_defers Tryz.func12, Tryz.ntmps12
  go_wp2_with fail
  simp only [showW] at *
  generalize ((((w.alloc (prBox #[.int .i64 p.version, .slice a1 p.states.length q1, .slice a2 p.fns.length q2])).alloc (strO ⟨#[]⟩)).alloc (errO 0)).alloc freshW) = w4 at *
  refine hC.mono ?_
  generalize hg : w.heap.size = g0 at *
  rcases hq : gPr p with _ | s
  · replace hres : Aside (res = ([], 11)) := by
      show _ = _
      rw [hres.out, hq]
    rintro e w5 ⟨rfl, l5, tabs5, h5, hf5⟩
    have k1 := hf5.block d1 (by omega) (by decide)
    have k2 := hf5.block d2 (by omega) (by decide)
    have hB5 := hB4.trans hf5.below
    refine leaves_cons (f := 21) (args := #[.pointer (some ⟨g0 + 1, 0, none⟩), .pointer (some ⟨g0 + 1 + 1, 0, none⟩)]) (by simp) (by simp [go_sem]) ?_
    refine (scatch_thrown (g0 + 1) (g0 + 1 + 1) 0 _ (by omega) w5 k1 k2).mono ?_
    rintro e u' w6 ⟨rfl, rfl, r1, r2, hb6⟩
    have u1 := cell_of_one r1
    have u2 := cell_of_one r2
    have hB6 := hB5.trans (hb6.mono (by omega))
    clear r1 r2 hb6
    simp [Leaves, settle, results, Tryz.results12, go_sem, u1, u2]
    rw [hres.out]
    exact ⟨⟨rfl, rfl⟩, by rw [hg]; exact hB6⟩
  · rintro e w5 ⟨rfl, l5, hw5, h5, hf5⟩
    obtain ⟨ho1, ho2⟩ := hw5.over
    have hsne := gPr_ne hq
    have k1 := hf5.block d1 (by omega) (by decide)
    have k2 := hf5.block d2 (by omega) (by decide)
    have hB5 := hB4.trans hf5.below
    have hov := over_any h5
    have hlt5 := h5.lt
    have lq : g0 + 1 < w5.heap.size := by omega
    have lr : g0 + 1 + 1 < w5.heap.size := by omega
    by_cases hl : 16384 < l5.length
    · replace hres : Aside (res = ([], 3)) := by
        show _ = _
        rw [hres.out, hq]
        show (if 16384 < s.length then _ else _) = _
        rw [if_pos (ho1.1 hl)]
      simp only [hl, decide_true] at hov
      have m1 := cell_of_one k1
      have n1 := free_of_one k1
      have m2 := cell_of_one k2
      have n2 := free_of_one k2
      have hX := set_two k1 k2 hB5 (by omega) ⟨#[]⟩ (.int .i64 3)
      clear hC c0 c1 c2 d0 d1 d2 d3
      go_wp2_with fail
      refine hov.mono ?_
      rintro e w6 ⟨rfl, rfl⟩
      go_wp2
      obtain ⟨wF, hwF, r1, r2, hBF⟩ := hX
      rw [← hwF]
      have u1 := cell_of_one r1
      have u2 := cell_of_one r2
      refine leaves_cons (f := 21) (args := #[.pointer (some ⟨g0 + 1, 0, none⟩), .pointer (some ⟨g0 + 1 + 1, 0, none⟩)]) (by simp) (by simp [go_sem]) ?_
      refine (scatch_idle _ _ _).mono ?_
      rintro e u' w7 ⟨rfl, rfl, rfl⟩
      simp [Leaves, settle, results, Tryz.results12, go_sem, u1, u2]
      rw [hres.out]
      exact ⟨⟨rfl, rfl⟩, by rw [hg]; exact hBF⟩
    · have hls : l5 = s := ho2 hl
      subst hls
      replace hres : Aside (res = (l5, 0)) := by
        show _ = _
        rw [hres.out, hq]
        show (if 16384 < l5.length then _ else _) = _
        rw [if_neg hl]
      simp only [hl, decide_false] at hov
      have hSt := fstring_any h5 hsne
      clear hC c0 c1 c2 d0 d1 d2 d3
      go_wp2_with fail
      refine hov.mono ?_
      rintro e w6 ⟨rfl, rfl⟩
      go_wp2_with fail
      refine hSt.mono ?_
      rintro e w7 ⟨rfl, hf7⟩
      have k1' := hf7.block k1 (by omega) (by decide)
      have k2' := hf7.block k2 (by omega) (by decide)
      have lq' : g0 + 1 < w7.heap.size := by have := hf7.size; omega
      have lr' : g0 + 1 + 1 < w7.heap.size := by have := hf7.size; omega
      have m1 := cell_of_one k1'
      have n1 := free_of_one k1'
      have m2 := cell_of_one k2'
      have n2 := free_of_one k2'
      have hX := set_two k1' k2' (hB5.trans hf7.below) (by omega) ⟨l5.toArray⟩ (.int .i64 0)
      go_wp2
      obtain ⟨wF, hwF, r1, r2, hBF⟩ := hX
      rw [← hwF]
      have u1 := cell_of_one r1
      have u2 := cell_of_one r2
      refine leaves_cons (f := 21) (args := #[.pointer (some ⟨g0 + 1, 0, none⟩), .pointer (some ⟨g0 + 1 + 1, 0, none⟩)]) (by simp) (by simp [go_sem]) ?_
      refine (scatch_idle _ _ _).mono ?_
      rintro e u' w8 ⟨rfl, rfl, rfl⟩
      simp [Leaves, settle, results, Tryz.results12, go_sem, u1, u2]
      rw [hres.out]
      exact ⟨⟨rfl, rfl⟩, by rw [hg]; exact hBF⟩
end Go.Proofs.YtifebbdjdllfpaaGreatDoor
/- A program that was read has numbers, names and depths such as a machine has. -/
namespace Go.Proofs.YtifebbdjdllfpaaGreatDoor
open Px (Ex St Sl Pr exT WfE WfS WfSs WfSl WfF WfP NmOk prT stT stsT)
open Lx (B Tok)
set_option linter.unusedSimpArgs false
set_option linter.unusedVariables false

theorem vw_numle {t : B} {m : Nat} (h : VW 2 t m) : m ≤ 9223372036854775807 := by
  have h1 := h.reads [] (fun c hc => by simp at hc)
  obtain ⟨y, r, e, _, _⟩ := h.head
  rw [List.append_nil, e] at h1
  simp only [Lx.tokR] at h1
  split at h1
  · unfold Lx.nameR at h1
    split at h1 <;> simp [Lx.R.ok, Lx.R.bad] at h1
  split at h1
  · unfold Lx.numberR at h1
    split at h1
    · simp [Lx.R.ok, Lx.R.bad] at h1
    split at h1
    · rename_i hv
      simp only [Lx.R.ok, Sum.inl.injEq, Prod.mk.injEq] at h1
      rw [h1.2.2.1] at hv
      exact hv
    · simp [Lx.R.ok, Lx.R.bad] at h1
  split at h1
  · have := quote_kinds r.length r 1 [] 2 _ m _ (Nat.le_refl _) h1
    omega
  · unfold Lx.markR at h1; split at h1 <;> simp [Lx.R.ok, Lx.R.bad] at h1
theorem word8_len {t : B} (h : wordB t = true) : t.length ≤ 16 := by
  cases t with
  | nil => simp
  | cons c r => simp [wordB] at h; simp; omega
theorem plain8_len {t : B} (h : plainB t = true) : t.length ≤ 256 := by simp [plainB] at h; exact h.1
theorem le8_maxLen {n : Nat} (h : n ≤ 256) : n ≤ maxLen := by unfold maxLen; omega
mutual
theorem ok_ex : ∀ e : Ex, WfE VW e → OkE (ofEx e)
  | .mk k o n t args p, hw => by
    rw [WfE] at hw
    obtain ⟨hf, hs⟩ := hw
    rw [ofEx, OkE]
    have ha := ok_exs args hs
    rcases hf with h | h | h | h | h | h | h | h
    · obtain ⟨rfl, rfl, rfl, hl, x, hx⟩ := h
      have := vw_numle hx
      exact ⟨by omega, le8_maxLen (by simp), ha⟩
    · obtain ⟨rfl, rfl, rfl, hl, hn⟩ := h
      exact ⟨by omega, le8_maxLen (by simp), ha⟩
    · obtain ⟨rfl, rfl, rfl, hl, hv⟩ := h
      have := plain8_len (vw_plainB hv)
      exact ⟨by omega, le8_maxLen (by omega), ha⟩
    · obtain ⟨rfl, rfl, rfl, hl, hr, hv⟩ := h
      have := word8_len (wf_word hv)
      exact ⟨by omega, le8_maxLen (by omega), ha⟩
    · obtain ⟨rfl, rfl, rfl, hr, hv⟩ := h
      have := word8_len (wf_word hv)
      exact ⟨by omega, le8_maxLen (by omega), ha⟩
    · obtain ⟨rfl, rfl, rfl, rfl, hl⟩ := h
      exact ⟨by omega, le8_maxLen (by simp), ha⟩
    · obtain ⟨hk, rfl, rfl, rfl, hl⟩ := h
      exact ⟨by omega, le8_maxLen (by simp), ha⟩
    · obtain ⟨rfl, h1, h2, rfl, rfl, hl⟩ := h
      exact ⟨by omega, le8_maxLen (by simp), ha⟩
theorem ok_exs : ∀ l : List Ex, Px.WfEs VW l → OkEs (ofExs l)
  | [], _ => by rw [ofExs, OkEs]; trivial
  | e :: r, hw => by
    rw [Px.WfEs] at hw
    rw [ofExs, OkEs]
    exact ⟨ok_ex e hw.1, ok_exs r hw.2⟩
end
theorem nm8_len {t : B} (h : NmOk VW t) : t.length ≤ maxLen := le8_maxLen (by have := word8_len (wf_word h.2); omega)
mutual
theorem ok_st : ∀ s : St, WfS VW s → OkS (ofSt s) ∧ gsD (ofSt s) ≤ (stT s).length
  | .mk k n es b c p, hw => by
    rw [WfS] at hw
    obtain ⟨hf, he, hb, hc⟩ := hw
    rw [ofSt, OkS, gsD, stT]
    have h1 := ok_sts b hb
    have h2 := ok_sts c hc
    have h3 := ok_exs es (Px.WfEs_all.2 he)
    rcases hf with h | h | h | h | h | h
    · obtain ⟨rfl, hn, hl, rfl, rfl⟩ := h
      exact ⟨⟨nm8_len hn, h3, h1.1, h2.1⟩, by simp [ofSts, gsDs, Px.stK]⟩
    · obtain ⟨rfl, hn, hl, rfl, rfl⟩ := h
      refine ⟨⟨nm8_len hn, h3, h1.1, h2.1⟩, ?_⟩
      simp only [ofSts, gsDs, Px.stK]
      simp only [show ¬ (2 = 1) by decide, if_false, if_true]
      split <;> simp
    · obtain ⟨rfl, hn, hl, rfl, rfl⟩ := h
      exact ⟨⟨nm8_len hn, h3, h1.1, h2.1⟩, by simp [ofSts, gsDs, Px.stK]⟩
    · obtain ⟨rfl, rfl, hl⟩ := h
      refine ⟨⟨le8_maxLen (by simp), h3, h1.1, h2.1⟩, ?_⟩
      have a1 := h1.2
      have a2 := h2.2
      rcases c with _ | ⟨c1, c2⟩
      · simp [Px.stK, Px.blk, ofSts, gsDs]
        omega
      · simp [Px.stK, Px.blk]
        omega
    · obtain ⟨rfl, hn, hl, rfl⟩ := h
      refine ⟨⟨nm8_len hn, h3, h1.1, h2.1⟩, ?_⟩
      have a1 := h1.2
      simp [Px.stK, Px.blk, ofSts, gsDs]
      omega
    · obtain ⟨rfl, rfl, hl, rfl, rfl⟩ := h
      exact ⟨⟨le8_maxLen (by simp), h3, h1.1, h2.1⟩, by simp [ofSts, gsDs, Px.stK]⟩
theorem ok_sts : ∀ l : List St, WfSs VW l → OkSs (ofSts l) ∧ gsDs (ofSts l) ≤ (stsT l).length
  | [], _ => by rw [ofSts, OkSs, gsDs]; exact ⟨trivial, by simp⟩
  | s :: r, hw => by
    rw [WfSs] at hw
    rw [ofSts, OkSs, gsDs, stsT]
    have h1 := ok_st s hw.1
    have h2 := ok_sts r hw.2
    exact ⟨⟨h1.1, h2.1⟩, by simp; omega⟩
end
theorem ty_len' {y : B} (h : ∃ c, Px.Ty 4 y c) : y.length ≤ maxLen := by
  have hg : gType y = true := by unfold gType; rw [if_pos (show Px.IsTy 4 y from h)]
  exact le8_maxLen (by have := gType_len hg; omega)
theorem ok_sl {s : Sl} (h : WfSl VW s) : OkL (ofSl s) := ⟨nm8_len h.1, ty_len' h.2⟩
theorem ok_fn {f : Px.Fn} (h : WfF VW f) (hc : (Px.fnT f).length ≤ 4096) : OkF (ofFn f) := by
  obtain ⟨hn, hp, hy, hb, hd⟩ := h
  have h1 := ok_sts f.body hb
  refine ⟨nm8_len hn, ty_len' hy, ?_, h1.1, ?_⟩
  · intro s hs
    simp only [ofFn, List.mem_map] at hs
    obtain ⟨x, hx, rfl⟩ := hs
    exact ok_sl (hp x hx)
  · show 0 + 1 + gsDs (ofSts f.body) ≤ _
    simp [Px.fnT, Px.blk] at hc
    have := h1.2
    omega
theorem fsT_mem : ∀ {l : List Px.Fn} {f : Px.Fn}, f ∈ l → (Px.fnT f).length ≤ (Px.fsT l).length
  | [], f, h => by simp at h
  | a :: r, f, h => by
    rw [Px.fsT]
    rcases List.mem_cons.1 h with rfl | h
    · simp; omega
    · have := fsT_mem h
      simp; omega
theorem okp_of {p : Pr} (h : WfP VW p) (hc : (prT p).length ≤ 4096) : OkP (ofPr p) := by
  obtain ⟨⟨x, hx⟩, hs, hf⟩ := h
  refine ⟨?_, ?_, ?_⟩
  · have := vw_numle hx
    show (p.version : Int) ≤ _
    omega
  · intro s hss
    simp only [ofPr, List.mem_map] at hss
    obtain ⟨y, hy, rfl⟩ := hss
    exact ok_sl (hs y hy)
  · intro f hff
    simp only [ofPr, List.mem_map] at hff
    obtain ⟨y, hy, rfl⟩ := hff
    refine ok_fn (hf y hy) ?_
    have := fsT_mem hy
    simp [prT] at hc
    omega
end Go.Proofs.YtifebbdjdllfpaaGreatDoor
/- What all statements on Show share: the program that was read, shown; the chapter's example. -/
namespace Go.Proofs.YtifebbdjdllfpaaGreatDoor
open Go.RowKit
open Px (WfP prT)
set_option linter.unusedSimpArgs false
set_option linter.unusedVariables false

/-- What the library's variables hold. -/
structure Env8 (w : World) : Prop where
  env : Env w
  tab : Lib.TabIs Tryz.prog w "internal/strconv.uint64pow10" .u64 Lib.pow10Tab
theorem Env8.below {w w' : World} (h : Env8 w) (k : Below w.heap.size w w') : Env8 w' := ⟨h.env.below k h.env.lt, Lib.tabBelow_of_tabIs h.tab w' k⟩
def shT (p : Px.Pr) : List UInt8 × Nat := if 16384 < (prS p).length then ([], 3) else (prS p, 0)
theorem gShow_of {p : Px.Pr} (h : WfP VW p) : gShow 11 (ofPr p) = shT p := by
  unfold gShow
  rw [gPr_of h]
  rfl
/-- A program that was read, shown. -/
theorem show_read {p : Px.Pr} {B : Nat → Prop} {v : Value} {w : World} (hw : WfP VW p) (hc : (prT p).length ≤ 4096) (he : Env8 w) (hx : IsPr B w p v) :
    Calls Tryz.prog 12 #[v] w fun e w' => e = .returned (.tuple #[.string ⟨(shT p).1.toArray⟩, .int .i64 (shT p).2]) ∧ Below w.heap.size w w' := by
  have := show_any (okp_of hw hc) he.tab hx.any.under
  rw [gShow_of hw] at this
  exact this
theorem read_wf {b : List UInt8} {p : Px.Pr} (h : Px.parse b = .inl p) : WfP VW p ∧ (prT p).length ≤ 4096 := by
  obtain ⟨h1, ts, h2, h3, h4⟩ := show_reads h
  exact ⟨h1, by omega⟩
abbrev wakeS : List UInt8 := [118, 101, 114, 115, 105, 111, 110, 32, 49, 59, 102, 110, 32, 102, 40, 41, 58, 105, 110, 116, 123, 114, 101, 116, 32, 40, 40, 49, 43, 50, 41, 42, 51, 41, 45, 40, 45, 52, 41, 59, 125]
abbrev wakeT : List UInt8 := [118, 101, 114, 115, 105, 111, 110, 32, 49, 59, 10, 102, 110, 32, 102, 40, 41, 58, 32, 105, 110, 116, 32, 123, 10, 9, 114, 101, 116, 32, 40, 49, 32, 43, 32, 50, 41, 32, 42, 32, 51, 32, 45, 32, 45, 52, 59, 10, 125, 10]
theorem wake_reads : ∃ p, Px.parse wakeS = .inl p ∧ shT p = (wakeT, 0) := by
  have h := wake_show
  unfold shown at h
  rcases hp : Px.parse wakeS with p | x
  · rw [hp] at h
    refine ⟨p, rfl, ?_⟩
    have h' : prS p = wakeT := h
    unfold shT
    rw [h', if_neg (by decide)]
  · rw [hp] at h
    cases h
set_option maxRecDepth 100000 in
set_option maxHeartbeats 4000000 in
theorem wakes8_any (w : World) (he : Env8 w) : Calls Tryz.prog 9 #[] w fun e w' => e = .returned (.bool true) ∧ Below w.heap.size w w' := by
  obtain ⟨p, hp, hs⟩ := wake_reads
  have hL := parse_done ⟨wakeS.toArray⟩ w he.env (by show wakeS.toArray.size ≤ maxLen; unfold maxLen; decide)
  simp only [List.toList_toArray] at hL
  rw [hp] at hL
  replace hL : Calls Tryz.prog 10 #[.string ⟨wakeS.toArray⟩] w fun e w' => (∃ v, e = .returned (.tuple #[v, .int .i64 0, .int .i64 0]) ∧ IsPr (From w.heap.size) w' p v) ∧ Below w.heap.size w w' := hL
  obtain ⟨hw, hc⟩ := read_wf hp
  go_enter Tryz.func9, Tryz.ntmps9
  go_wp2_with fail
  refine hL.mono ?_
  rintro e w2 ⟨⟨v, rfl, hx⟩, hb2⟩
  obtain ⟨sa, sn, sc, fa, fn, fc, hv⟩ := hx.cells
  subst hv
  have he2 := he.below hb2
  have hbx : Below w2.heap.size w2 (w2.alloc (.cells #[.int .i64 p.version, .slice sa sn sc, .slice fa fn fc] 31)) := (Below.refl _ _).alloc (Nat.le_refl _) _
  have hC := show_read hw hc (he2.below hbx) (hx.since (Since.of_below hbx))
  have hB3 := hb2.trans (hbx.mono hb2.size)
  rw [hs] at hC
  obtain ⟨q0, q1, q2, _⟩ := cells_of3 (heap_new w2 (.cells #[.int .i64 p.version, .slice sa sn sc, .slice fa fn fc] 31))
  have q3 : w2.heap.size < (w2.alloc (.cells #[.int .i64 p.version, .slice sa sn sc, .slice fa fn fc] 31)).heap.size := by simp
  clear hL hx hbx he2 hp hs
  go_wp2_with fail
  generalize w2.alloc (.cells #[.int .i64 p.version, .slice sa sn sc, .slice fa fn fc] 31) = w3 at *
  refine hC.mono ?_
  rintro e w4 ⟨rfl, hb4⟩
  go_wp2
  go_ret
  exact ⟨rfl, hB3.trans (hb4.mono hB3.size)⟩
end Go.Proofs.YtifebbdjdllfpaaGreatDoor
