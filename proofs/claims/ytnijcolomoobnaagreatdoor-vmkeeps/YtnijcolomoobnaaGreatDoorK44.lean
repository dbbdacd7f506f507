/- Texts of ours, joined: Su, Laid15. -/
import Derived.Test.YtnijcolomoobnaaGreatDoorK34
import Derived.Test.YtnijcolomoobnaaGreatDoorK33
import Derived.Test.YtnijcolomoobnaaGreatDoorRows
import Derived.Test.YtnijcolomoobnaaGreatDoorK17
import Derived.ProofKit
import Derived.LaidMore
import Derived.OpenShut
import Derived.ShutString
import Derived.ChangeOld
import Derived.Below
import Derived.Lib.LaidTab
import Derived.Stop.LaidErr
import Derived.SizedLaws
import Derived.SliceStrings
namespace Go.Proofs.YtnijcolomoobnaaGreatDoor
open Go.ChangeShapes Go.WideShapes Go.ChangeAt Go.RowKit
set_option linter.unusedVariables false
set_option linter.unusedSimpArgs false

theorem fr_fields : Tryz.prog.cellsOf 27 = 4 := by kernel_rfl
theorem fr_struct : ∃ f0 f1 f2 f3 : Field, Tryz.prog.underlying 27 = some (.struct #[f0, f1, f2, f3]) ∧ f0.type = 22 ∧ f0.offset = 0 ∧ f1.type = 22 ∧ f1.offset = 1 ∧ f2.type = 3 ∧ f2.offset = 2 ∧ f3.type = 3 ∧ f3.offset = 3 := ⟨_, _, _, _, Tryz.underlying27, rfl, rfl, rfl, rfl, rfl, rfl, rfl, rfl⟩
set_option maxRecDepth 100000 in
theorem from_open {H : Type} {enc : TypeId × Value → H} {W : World} {base : Nat} {v : Value} {d : DataW H} {p : List MemPlace} (hv : Value.okWide Tryz.prog W .any base 27 v) (h : DataW.Trod enc Tryz.prog W 0 (fun _ => true) true 27 v d p) :
    ∃ (s a : List V) (as_ : Option Addr) (cs_ : Nat) (aa : Option Addr) (ca : Nat) (n fuel : Int), v = .agg #[.slice as_ s.length cs_, .slice aa a.length ca, .int .i64 n, .int .i64 fuel] ∧ IsVs Any' W s (.slice as_ s.length cs_) ∧ IsVs Any' W a (.slice aa a.length ca) ∧ InR n ∧ InR fuel ∧ ((d.weights Tryz.prog 27).all (· ≤ reachBytes) = true → SzVs s ∧ SzVs a) := by
  obtain ⟨f0, f1, f2, f3, hst, t0, o0, t1, o1, t2, o2, t3, o3⟩ := fr_struct
  unfold Value.okWide at hv
  rw [hst] at hv
  obtain ⟨cs, rfl, _, _⟩ := hv
  obtain ⟨fuel, hf⟩ := h
  obtain ⟨xs, n, rfl, e, hlen, hxl, hff⟩ := DataW.trod_struct hst hf
  simp only [Prod.mk.injEq] at e
  obtain ⟨rfl, -⟩ := e
  rw [fr_fields] at hlen
  have hx2 : xs.length = 4 := hxl
  have hcs : ∃ c0 c1 c2 c3, cs = #[c0, c1, c2, c3] := by
    obtain ⟨l⟩ := cs
    match l, hlen with
    | [c0, c1, c2, c3], _ => exact ⟨c0, c1, c2, c3, rfl⟩
  obtain ⟨c0, c1, c2, c3, rfl⟩ := hcs
  clear hf
  match xs, hx2, hff with
  | [x0, x1, x2, x3], _, hf =>
    have g0 := hf 0 f0 rfl
    have g1 := hf 1 f1 rfl
    have g2 := hf 2 f2 rfl
    have g3 := hf 3 f3 rfl
    rw [t0, o0, cells_sl] at g0
    rw [t1, o1, cells_sl] at g1
    rw [t2, o2, cells_int] at g2
    rw [t3, o3, cells_int] at g3
    simp only [Value.cells, List.drop_zero, List.drop_succ_cons, List.take_succ_cons, List.take_zero, List.getElem?_cons_zero, List.getElem?_cons_succ] at g0 g1 g2 g3
    obtain ⟨l0, a0, k0, e0, hi0, hz0⟩ := vals_of_trod n _ _ g0
    obtain ⟨l1, a1, k1, e1, hi1, hz1⟩ := vals_of_trod n _ _ g1
    obtain ⟨n2, e2, rfl, w2⟩ := DataW.trod_int Tryz.underlying3 g2
    obtain ⟨n3, e3, rfl, w3⟩ := DataW.trod_int Tryz.underlying3 g3
    simp only [List.cons.injEq, and_true] at e0 e1 e2 e3
    subst e0 e1 e2 e3
    refine ⟨l0, l1, a0, k0, a1, k1, n2, n3, rfl, hi0, hi1, wf_inR w2, wf_inR w3, fun hw => ?_⟩
    simp only [DataW.weights, hst, t0, t1, t2, t3, List.map_cons, List.map_nil, DataW.weightsEach, List.append_nil, List.all_append, Bool.and_eq_true] at hw
    exact ⟨szVs_of (hz0 hw.1), szVs_of (hz1 hw.2)⟩
end Go.Proofs.YtnijcolomoobnaaGreatDoor
namespace Go.Proofs.YtnijcolomoobnaaGreatDoor
open Go.ChangeShapes Go.WideShapes Go.ChangeAt Go.RowKit

def laidT : List (String × DataW Unit) := Rows.vmSoundRow.laid
theorem door_met (os : Os) (args : Array Value) : laidMetH Tryz.prog laidT ((World.doorLaid Tryz.prog 400 os).forCall (fun _ _ => 0) ⟨#[], args, []⟩).memory :=
  laidMetH_of_parts3 (fuel := 8) (laidMet_of_run' 8 (by kernel_rfl) (by kernel_rfl)) (by kernel_rfl) (by kernel_rfl)
theorem gPT : Tryz.prog.globalNamed "internal/strconv.uint64pow10" = some 1 := by kernel_rfl
theorem tPT : (Tryz.prog.globals[1]?).map (·.type) = some 166 := by kernel_rfl
theorem tb15_of_laid {W : World} (h : laidMetH Tryz.prog laidT W) : Tb15 W.heap.size W := by
  rw [MakeChecks.laidMetH_plain _ _ _ (by kernel_rfl)] at h
  have h2 : laidMet Tryz.prog [("internal/strconv.uint64pow10", Lib.tabData .u64 Lib.pow10Tab)] W := laidMet.tail (laidMet.tail (show laidMet Tryz.prog (("math/bits.deBruijn32tab", Rows.laid_math_bits_deBruijn32tab) :: ("math/bits.deBruijn64tab", Rows.laid_math_bits_deBruijn64tab) :: [("internal/strconv.uint64pow10", Lib.tabData .u64 Lib.pow10Tab)]) W from h))
  exact Lib.tabBelow_of_tabIs (Lib.tabIs_of_head gPT tPT Tryz.underlying166 Tryz.underlying141 (by kernel_rfl) (by kernel_rfl) h2)
end Go.Proofs.YtnijcolomoobnaaGreatDoor
