/- What all statements on values begin with: the chapter's bytes. -/
import Derived.Test.YtkbplffckkjbfaaVen
import Derived.Test.YtkbplffckkjbfaaVu
import Derived.Laws.IdiomStrings
import Derived.Laws.BytesArg
namespace Go.Proofs.Ytkbplffckkjbfaa
open Go.RowKit
set_option linter.unusedVariables false
set_option linter.unusedSimpArgs false

theorem str_own {w : World} {base : Nat} {ao : Option Addr} {cap : Nat} {bs : List UInt8} (h : Own8 w base ao cap bs) : (convert 52 9 (.slice ao bs.length cap)).run Try.prog w = .ok (.string ⟨bs.toArray⟩) w := by
  obtain ⟨h1, h2⟩ := owns_news h
  cases ao with
  | none =>
    obtain ⟨h3, rfl⟩ := h1 rfl
    have : bs = [] := List.length_eq_zero_iff.1 h3
    subst this
    exact run_convert_bytes_nil (P := Try.prog) w 52 5 Try.underlying52 Try.underlying5 _ _ 9 Try.underlying9
  | some a =>
    refine run_convert_bytes_back (P := Try.prog) w 52 9 5 a cap bs Try.underlying52 Try.underlying5 Try.underlying9 (fun j hj => ?_)
    refine h2 a rfl j _ ?_
    simp [c8, hj]
theorem num_300 : num 300 = [172, 2] := by rw [num_ge (by omega), num_lt (by omega)]; decide
theorem num_0 : num 0 = [0] := by rw [num_lt (by omega)]; decide
theorem num_1 : num 1 = [1] := by rw [num_lt (by omega)]; decide
theorem ty_int : tyOf [105, 110, 116] = some .int := tyOf_ty (T := .int) (by decide)
theorem ty_texts : tyOf [91, 116, 101, 120, 116, 93] = some (.list .text) := tyOf_ty (T := .list .text) (by decide)
theorem wake_1 : encR [105, 110, 116] (.mk 1 300 [] []) = ([0, 172, 2], 0) := by
  have hs : fitS [105, 110, 116] (.mk 1 300 [] []) = true := by
    unfold fitS shpS
    rw [ty_int]
    have : shpB .int (.mk 1 300 [] []) = true := shpB_iff.2 (by rw [Shp]; exact ⟨rfl, rfl, rfl⟩)
    simp [this, wt, wts]
  unfold encR
  rw [if_pos hs, enc, if_pos rfl, if_neg (by decide), show (300 : Int).toNat = 300 from rfl, num_300, num_0]
  rfl
theorem wake_2 : pushV (.mk 4 0 [] []) (.mk 3 0 [97] []) = (.mk 4 0 [] [.mk 3 0 [97] []], 0) := by
  unfold pushV
  rw [if_neg (by simp [V.k]), if_neg (by simp [V.l])]
  unfold wgV
  rw [if_pos (by simp [V.k, V.n, V.t, V.l, wt, wts])]
  rfl
theorem wake_3 : encR [91, 116, 101, 120, 116, 93] (.mk 4 0 [] [.mk 3 0 [97] []]) = ([1, 1, 97], 0) := by
  have hs : fitS [91, 116, 101, 120, 116, 93] (.mk 4 0 [] [.mk 3 0 [97] []]) = true := by
    unfold fitS shpS
    rw [ty_texts]
    have : shpB (.list .text) (.mk 4 0 [] [.mk 3 0 [97] []]) = true := shpB_iff.2 (by
      rw [Shp]
      refine ⟨rfl, rfl, rfl, by simp [V.l], fun x hx => ?_⟩
      simp [V.l] at hx
      subst hx
      rw [Shp]
      exact ⟨rfl, rfl, rfl, by simp [V.t]⟩)
    simp [this, wt, wts]
  unfold encR
  rw [if_pos hs]
  simp [enc, encs, num_1]
theorem kd_texts : kdOf [91, 116, 101, 120, 116, 93] = 4 := by unfold kdOf; rw [ty_texts]; rfl
set_option maxRecDepth 100000 in
set_option maxHeartbeats 2000000 in
theorem wakes_any (w : World) : Calls Try.prog 9 #[] w fun r w' => r = .returned (.bool true) ∧ Below w.heap.size w w' := by
  have h1 := int_any 300 w
  have h2 : ∀ w1, Calls Try.prog 40 #[.agg #[.int .i64 1, .int .i64 300, .string ⟨#[]⟩, .slice none 0 0], .string ⟨#[105, 110, 116]⟩] w1 fun r w' => (∃ a c, r = .returned (.tuple #[.slice a 3 c, .int .i64 0]) ∧ Own8 w' w1.heap.size a c [0, 172, 2]) ∧ Below w1.heap.size w1 w' := by
    intro w1
    have := encode_any (B := Any) (y := [105, 110, 116]) (by simp) (v := .mk 1 300 [] []) (ao := none) (cap := 0) (w := w1) ⟨Nat.zero_le _, by constructor <;> decide, by constructor <;> decide, IsVs.nil⟩ (by simp [wt, wts])
    rw [wake_1] at this
    exact this
  have h3 : ∀ w1, Calls Try.prog 20 #[.string ⟨#[91, 116, 101, 120, 116, 93]⟩] w1 fun e w' => e = .returned (.agg #[.int .i64 4, .int .i64 0, .string ⟨#[]⟩, .slice none 0 0]) ∧ Below w1.heap.size w1 w' := by
    intro w1
    have := zero_any [91, 116, 101, 120, 116, 93] (by simp) w1
    rw [kd_texts] at this
    exact this
  have h4 : ∀ w1, Calls Try.prog 15 #[.string ⟨#[97]⟩] w1 fun e w' => e = .returned (.agg #[.int .i64 3, .int .i64 0, .string ⟨#[97]⟩, .slice none 0 0]) ∧ Below w1.heap.size w1 w' := fun w1 => text_any [97] (by simp) w1
  have h5 : ∀ w1, Calls Try.prog 38 #[.agg #[.int .i64 4, .int .i64 0, .string ⟨#[]⟩, .slice none 0 0], .agg #[.int .i64 3, .int .i64 0, .string ⟨#[97]⟩, .slice none 0 0]] w1 fun r w' => (∃ ao cap, r = .returned (.tuple #[.agg #[.int .i64 4, .int .i64 0, .string ⟨#[]⟩, .slice ao 1 cap], .int .i64 0]) ∧ IsW (From w1.heap.size) w' (.mk 4 0 [] [.mk 3 0 [97] []]) (.slice ao 1 cap)) ∧ Below w1.heap.size w1 w' := by
    intro w1
    have := push_any (B := Any) (v := .mk 4 0 [] []) (x := .mk 3 0 [97] []) (ao := none) (ax := none) (cap := 0) (cx := 0) (w := w1) ⟨Nat.zero_le _, by constructor <;> decide, by constructor <;> decide, IsVs.nil⟩ ⟨by simp [V.t]; unfold maxLen; omega, by constructor <;> decide, by constructor <;> decide, IsVs.nil⟩ (by simp [wt, wts]) (by simp [wt, wts])
    rw [wake_2] at this
    exact this
  have h6 : ∀ w1 ao cap, IsW Any w1 (.mk 4 0 [] [.mk 3 0 [97] []]) (.slice ao 1 cap) → Calls Try.prog 40 #[.agg #[.int .i64 4, .int .i64 0, .string ⟨#[]⟩, .slice ao 1 cap], .string ⟨#[91, 116, 101, 120, 116, 93]⟩] w1 fun r w' => (∃ a c, r = .returned (.tuple #[.slice a 3 c, .int .i64 0]) ∧ Own8 w' w1.heap.size a c [1, 1, 97]) ∧ Below w1.heap.size w1 w' := by
    intro w1 ao cap hx
    have := encode_any (y := [91, 116, 101, 120, 116, 93]) (by simp) (v := .mk 4 0 [] [.mk 3 0 [97] []]) (ao := ao) (cap := cap) (w := w1) hx (by simp [wt, wts])
    rw [wake_3] at this
    exact this
  go_enter Try.func9, Try.ntmps9
  go_wp2_with fail
  refine h1.mono ?_
  rintro e w1 ⟨rfl, hb1⟩
  go_wp2_with fail
  refine (h2 _).mono ?_
  rintro e w2 ⟨⟨a2, c2, rfl, ho2⟩, hb2⟩
  go_wp2_with fail
  refine (h3 _).mono ?_
  rintro e w3 ⟨rfl, hb3⟩
  go_wp2_with fail
  refine (h4 _).mono ?_
  rintro e w4 ⟨rfl, hb4⟩
  go_wp2_with fail
  refine (h5 _).mono ?_
  rintro e w5 ⟨⟨a5, c5, rfl, hx5⟩, hb5⟩
  go_wp2_with fail
  have hba : Below w5.heap.size w5 (w5.alloc (.cells #[.int .i64 4, .int .i64 0, .string ⟨#[]⟩, .slice a5 1 c5] 24)) := (Below.refl _ _).alloc (Nat.le_refl _) _
  refine (h6 _ _ _ ((hx5.below hba).base (fun _ _ _ => trivial))).mono ?_
  rintro e w6 ⟨⟨a6, c6, rfl, ho6⟩, hb6⟩
  have hb26 : Below w2.heap.size w2 w6 := (((hb3.trans (hb4.mono hb3.size)).trans (hb5.mono (by have := hb3.size; have := hb4.size; omega))).trans (hba.mono (by have := hb3.size; have := hb4.size; have := hb5.size; omega))).trans (hb6.mono (by have := hb3.size; have := hb4.size; have := hb5.size; have := hba.size; omega))
  have q1 : (convert 52 9 (.slice a2 3 c2)).run Try.prog w6 = .ok (.string ⟨#[0, 172, 2]⟩) w6 := str_own (owns_below ho2 hb26)
  have q2 : (convert 52 9 (.slice a6 3 c6)).run Try.prog w6 = .ok (.string ⟨#[1, 1, 97]⟩) w6 := str_own ho6
  have hB : Below w.heap.size w w6 := (hb1.trans (hb2.mono hb1.size)).trans (hb26.mono (by have := hb1.size; have := hb2.size; omega))
  clear h1 h2 h3 h4 h5 h6 ho2 ho6 hx5
  go_wp2
  go_ret
  exact ⟨rfl, hB⟩
end Go.Proofs.Ytkbplffckkjbfaa
