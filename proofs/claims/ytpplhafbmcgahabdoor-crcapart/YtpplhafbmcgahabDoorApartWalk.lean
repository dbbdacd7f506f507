/- What the statement's own function CrcApart does, by the contracts of what it calls. -/
import Derived.Test.YtpplhafbmcgahabDoorLaid
namespace Go.Proofs.YtpplhafbmcgahabDoor
open Go.RowKit
theorem apart_eq (x y : Int) (l : List Int) (hx0 : 0 ≤ x) (hx1 : x < 4294967296) (hy0 : 0 ≤ y) (hy1 : y < 4294967296) : ((Crc.add x l == Crc.add y l) == (x == y)) = true := by
  by_cases h : x = y
  · subst h; simp
  · have h2 : ¬ Crc.add x l = Crc.add y l := fun e => h (Crc.add_inj hx0 hx1 hy0 hy1 l e)
    rw [beq_eq_false_iff_ne.2 h, beq_eq_false_iff_ne.2 h2]; rfl
set_option maxHeartbeats 400000 in
theorem apart_walk (x y : Int) (a : Option Addr) (len cap : Nat) (l : List Int) (w : World) (hx0 : 0 ≤ x) (hx1 : x < 4294967296) (hy0 : 0 ≤ y) (hy1 : y < 4294967296) (hc : TabOk w) (hb : Bytes w a len l) :
    Calls Tryd.prog 3 #[.int .u32 x, .int .u32 y, .slice a len cap] w fun e w' => e = .returned (.bool true) ∧ Below w.heap.size w w' := by
  go_enter Tryd.func3, Tryd.ntmps3
  go_wp2_with fail
  refine (wakes_any _ hc).mono ?_
  rintro e w1 ⟨rfl, hw⟩
  go_wp2_with fail
  refine (add_any _ _ _ _ l _ hx0 hx1 (hc.below hw) (hb.below hw)).mono ?_
  rintro e w' ⟨rfl, rfl⟩
  go_wp2_with fail
  refine (add_any _ _ _ _ l _ hy0 hy1 (hc.below hw) (hb.below hw)).mono ?_
  rintro e w' ⟨rfl, rfl⟩
  go_wp2_with fail
  go_ret
  exact ⟨congrArg (fun b => Ending.returned (.bool b)) (apart_eq x y l hx0 hx1 hy0 hy1), hw⟩
end Go.Proofs.YtpplhafbmcgahabDoor
