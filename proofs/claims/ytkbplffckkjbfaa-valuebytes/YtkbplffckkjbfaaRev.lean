/- The document's Depth and Type, whole. -/
import Derived.Test.YtkbplffckkjbfaaRdv
import Derived.Test.YtkbplffckkjbfaaVr
import Derived.WalkKit
import Derived.WalkSpells
import Derived.WalkLawsBesides
namespace Go.Proofs.Ytkbplffckkjbfaa
open Go.RowKit
set_option linter.unusedSimpArgs false
set_option linter.unusedVariables false

theorem ext_list (s : ByteArray) (i j : Nat) : (s.extract i j).data.toList = (s.data.toList.take j).drop i := by
  rw [ByteArray.data_extract]
  simp [Array.toList_extract, List.extract_eq_take_drop]
  rw [List.take_drop]
  by_cases h : i ≤ j
  · rw [Nat.add_sub_of_le h]
  · rw [List.drop_eq_nil_of_le (by simp; omega), List.drop_eq_nil_of_le (by simp; omega)]
theorem byte_at8 (t : ByteArray) (i : Nat) (h : i < t.size) (c : UInt8) : ((t[i].toNat : Int) = (c.toNat : Int)) ↔ t.data.toList[i]? = some c := by
  have hl : i < t.data.toList.length := by simpa using h
  have e : t.data.toList[i]? = some t[i] := by
    rw [List.getElem?_eq_getElem hl]
    simp
    rfl
  rw [e]
  constructor
  · intro h2
    have h3 : t[i].toNat = c.toNat := by omega
    rw [UInt8.toNat_inj.mp h3]
  · intro h2
    have h3 : t[i] = c := by simpa using h2
    rw [h3]
theorem take_at8 (t : ByteArray) (k : Nat) (x : List UInt8) : ((t.extract 0 k).toList == x) = true ↔ t.data.toList.take k = x := by
  rw [ByteArray.toList_eq, ext_list, List.drop_zero, beq_iff_eq]
theorem take_at8f {t : ByteArray} {k : Nat} {x : List UInt8} (h : ((t.extract 0 k).toList == x) = false) : ¬ t.data.toList.take k = x := by
  intro h2
  rw [(take_at8 t k x).mpr h2] at h
  cases h
theorem first_take {s : List UInt8} {k : Nat} {a c : UInt8} {r : List UInt8} (hk : 0 < k) (h : s.take k = a :: r) (h0 : s[0]? = some c) : a = c := by
  have e : (s.take k)[0]? = s[0]? := by rw [List.getElem?_take, if_pos hk]
  rw [h, h0] at e
  simpa using e
theorem innT_none {s : List UInt8} (h1 : ¬ (2 < s.length ∧ s[0]? = some 91 ∧ s[s.length - 1]? = some 93)) (h2 : ¬ (6 < s.length ∧ s.take 5 = [123, 105, 110, 116, 58] ∧ s[s.length - 1]? = some 125)) (h3 : ¬ (7 < s.length ∧ s.take 6 = [123, 116, 101, 120, 116, 58] ∧ s[s.length - 1]? = some 125)) : innT s = none := by
  unfold innT; rw [if_neg h1, if_neg h2, if_neg h3]
theorem depF_le : ∀ (f : Nat) (s : List UInt8), depF f s ≤ f
  | 0, s => by simp [depF]
  | f + 1, s => by
    simp only [depF]
    split
    · omega
    · rcases innT s with _ | y
      · simp
      · have := depF_le f y
        simp only []
        split
        · omega
        · split <;> omega
set_option maxRecDepth 100000 in
set_option maxHeartbeats 1000000 in
theorem rdep8_base (t : ByteArray) (w : World) (h : t = ⟨#[105, 110, 116]⟩ ∨ t = ⟨#[98, 111, 111, 108]⟩ ∨ t = ⟨#[116, 101, 120, 116]⟩) : Calls Try.prog 72 #[.string t] w fun r w' => r = .returned (.int .i64 1) ∧ w' = w := by
  rcases h with rfl | rfl | rfl
  all_goals
    go_enter Try.func72, Try.ntmps72
    go_wp2
    go_ret
    exact ⟨rfl, rfl⟩
theorem rdep8_any : ∀ (n : Nat) (t : ByteArray) (w : World), t.size < n → t.size ≤ 9223372036854775807 → Calls Try.prog 72 #[.string t] w fun r w' => r = .returned (.int .i64 (dep t.data.toList)) ∧ w' = w := by
  intro n
  induction n with
  | zero => intro t w hn; omega
  | succ n ih =>
    intro t w hn hs
    have hlen : t.data.toList.length = t.size := by simp
    by_cases hb : t.data.toList = [105, 110, 116] ∨ t.data.toList = [98, 111, 111, 108] ∨ t.data.toList = [116, 101, 120, 116]
    · rw [dep_eq, if_pos hb]
      refine rdep8_base t w ?_
      rcases hb with h | h | h
      · exact Or.inl (ByteArray.ext (Array.toList_inj.mp h))
      · exact Or.inr (Or.inl (ByteArray.ext (Array.toList_inj.mp h)))
      · exact Or.inr (Or.inr (ByteArray.ext (Array.toList_inj.mp h)))
    have h1 : (t.toList == [105, 110, 116]) = false := by rw [ByteArray.toList_eq, beq_eq_false_iff_ne]; exact fun h => hb (Or.inl h)
    have h2 : (t.toList == [98, 111, 111, 108]) = false := by rw [ByteArray.toList_eq, beq_eq_false_iff_ne]; exact fun h => hb (Or.inr (Or.inl h))
    have h3 : (t.toList == [116, 101, 120, 116]) = false := by rw [ByteArray.toList_eq, beq_eq_false_iff_ne]; exact fun h => hb (Or.inr (Or.inr h))
    have hno : innT t.data.toList = none → (Calls Try.prog 72 #[.string t] w fun r w' => r = .returned (.int .i64 0) ∧ w' = w) → Calls Try.prog 72 #[.string t] w fun r w' => r = .returned (.int .i64 (dep t.data.toList)) ∧ w' = w := by
      intro h4 h5
      rw [dep_eq, if_neg hb, h4]
      exact h5
    have hyes : ∀ (a : Nat) (y : List UInt8), innT t.data.toList = some y → (t.extract a (t.size - 1)).data.toList = y → (((t.size ≤ 200 → dep y ≤ 300) ∧ (t.size ≤ 200 → Calls Try.prog 72 #[.string (t.extract a (t.size - 1))] w fun r w' => r = .returned (.int .i64 (dep y)) ∧ w' = w)) → Calls Try.prog 72 #[.string t] w fun r w' => r = .returned (.int .i64 ((if 200 < t.size then 0 else if dep y = 0 then 0 else dep y + 1 : Nat) : Int)) ∧ w' = w) → Calls Try.prog 72 #[.string t] w fun r w' => r = .returned (.int .i64 (dep t.data.toList)) ∧ w' = w := by
      intro a y h4 h5 h6
      have hlt := innT_lt h4
      have hle := depF_le (y.length + 1) y
      have hsz : (t.extract a (t.size - 1)).size = y.length := by rw [← h5, Array.length_toList]; rfl
      have h7 := h6 ⟨fun h8 => by show depF _ _ ≤ _; omega, fun h8 => by
        have := ih (t.extract a (t.size - 1)) w (by omega) (by omega)
        rw [h5] at this
        exact this⟩
      rw [dep_eq, if_neg hb, h4, hlen]
      exact h7
    by_cases c1 : t.size ≤ 2
    · refine hno (innT_none ?_ ?_ ?_) (rdep8_n1 t w hs h1 h2 h3 c1) <;> (rintro ⟨x1, x2, x3⟩; omega)
    have hA := byte_at8 t 0 (by omega) 91
    have hB := byte_at8 t (t.size - 1) (by omega) 93
    have hC := byte_at8 t (t.size - 1) (by omega) 125
    have hQ := take_at8 t 5 [123, 105, 110, 116, 58]
    have hR := take_at8 t 6 [123, 116, 101, 120, 116, 58]
    by_cases a : (t[0].toNat : Int) = 91
    · have a' := hA.mp a
      have q' : ¬ t.data.toList.take 5 = [123, 105, 110, 116, 58] := fun h => by have := first_take (by omega) h a'; simp at this
      have r' : ¬ t.data.toList.take 6 = [123, 116, 101, 120, 116, 58] := fun h => by have := first_take (by omega) h a'; simp at this
      have q : ((t.extract 0 5).toList == [123, 105, 110, 116, 58]) = false := by rw [Bool.eq_false_iff]; exact fun h => q' (hQ.mp h)
      have r : ((t.extract 0 6).toList == [123, 116, 101, 120, 116, 58]) = false := by rw [Bool.eq_false_iff]; exact fun h => r' (hR.mp h)
      by_cases b : (t[t.size - 1].toNat : Int) = 93
      · have b' := hB.mp b
        refine hyes 1 _ (by unfold innT; rw [hlen, if_pos ⟨by omega, a', b'⟩]) (ext_list _ _ _) fun h => rdep8_l t w _ h.1 hs h1 h2 h3 (by omega) a b h.2
      · have b' : ¬ _ := fun h => b (hB.mpr h)
        refine hno (innT_none ?_ ?_ ?_) ?_
        · rw [hlen]; rintro ⟨x1, x2, x3⟩; contradiction
        · rintro ⟨x1, x2, x3⟩; contradiction
        · rintro ⟨x1, x2, x3⟩; contradiction
        by_cases c2 : t.size ≤ 6
        · exact rdep8_n3 t w hs h1 h2 h3 (by omega) c2 a b
        by_cases c3 : t.size ≤ 7
        · exact rdep8_n4 t w hs h1 h2 h3 (by omega) c3 a b q
        · exact rdep8_n5 t w hs h1 h2 h3 (by omega) a b q r
    · have a' : ¬ _ := fun h => a (hA.mpr h)
      by_cases c2 : t.size ≤ 6
      · refine hno (innT_none ?_ ?_ ?_) (rdep8_n2 t w hs h1 h2 h3 (by omega) c2 a)
        · rintro ⟨x1, x2, x3⟩; contradiction
        · rintro ⟨x1, x2, x3⟩; omega
        · rintro ⟨x1, x2, x3⟩; omega
      by_cases q' : t.data.toList.take 5 = [123, 105, 110, 116, 58]
      · have q := hQ.mpr q'
        by_cases b : (t[t.size - 1].toNat : Int) = 125
        · have b' := hC.mp b
          refine hyes 5 _ (by unfold innT; rw [hlen, if_neg (by rintro ⟨x1, x2, x3⟩; contradiction), if_pos ⟨by omega, q', b'⟩]) (ext_list _ _ _) fun h => rdep8_i t w _ h.1 hs h1 h2 h3 (by omega) a q b h.2
        · have b' : ¬ _ := fun h => b (hC.mpr h)
          refine hno (innT_none ?_ ?_ ?_) ?_
          · rintro ⟨x1, x2, x3⟩; contradiction
          · rw [hlen]; rintro ⟨x1, x2, x3⟩; contradiction
          · rw [hlen]; rintro ⟨x1, x2, x3⟩; contradiction
          by_cases c3 : t.size ≤ 7
          · exact rdep8_n9 t w hs h1 h2 h3 (by omega) c3 a q b
          · have r' : ¬ t.data.toList.take 6 = [123, 116, 101, 120, 116, 58] := fun h => by
              have e : (t.data.toList.take 6).take 5 = t.data.toList.take 5 := by rw [List.take_take]; rfl
              rw [h, q'] at e
              simp at e
            have r : ((t.extract 0 6).toList == [123, 116, 101, 120, 116, 58]) = false := by rw [Bool.eq_false_iff]; exact fun h => r' (hR.mp h)
            exact rdep8_na t w hs h1 h2 h3 (by omega) a q r b
      · have q : ((t.extract 0 5).toList == [123, 105, 110, 116, 58]) = false := by rw [Bool.eq_false_iff]; exact fun h => q' (hQ.mp h)
        by_cases c3 : t.size ≤ 7
        · refine hno (innT_none ?_ ?_ ?_) (rdep8_n6 t w hs h1 h2 h3 (by omega) c3 a q)
          · rintro ⟨x1, x2, x3⟩; contradiction
          · rintro ⟨x1, x2, x3⟩; contradiction
          · rintro ⟨x1, x2, x3⟩; omega
        by_cases r' : t.data.toList.take 6 = [123, 116, 101, 120, 116, 58]
        · have r := hR.mpr r'
          by_cases b : (t[t.size - 1].toNat : Int) = 125
          · have b' := hC.mp b
            refine hyes 6 _ (by unfold innT; rw [hlen, if_neg (by rintro ⟨x1, x2, x3⟩; contradiction), if_neg (by rintro ⟨x1, x2, x3⟩; contradiction), if_pos ⟨by omega, r', b'⟩]) (ext_list _ _ _) fun h => rdep8_t t w _ h.1 hs h1 h2 h3 (by omega) a q r b h.2
          · have b' : ¬ _ := fun h => b (hC.mpr h)
            refine hno (innT_none ?_ ?_ ?_) (rdep8_n8 t w hs h1 h2 h3 (by omega) a q r b)
            · rintro ⟨x1, x2, x3⟩; contradiction
            · rintro ⟨x1, x2, x3⟩; contradiction
            · rw [hlen]; rintro ⟨x1, x2, x3⟩; contradiction
        · have r : ((t.extract 0 6).toList == [123, 116, 101, 120, 116, 58]) = false := by rw [Bool.eq_false_iff]; exact fun h => r' (hR.mp h)
          refine hno (innT_none ?_ ?_ ?_) (rdep8_n7 t w hs h1 h2 h3 (by omega) a q r)
          · rintro ⟨x1, x2, x3⟩; contradiction
          · rintro ⟨x1, x2, x3⟩; contradiction
          · rintro ⟨x1, x2, x3⟩; contradiction
set_option maxHeartbeats 1000000 in
/-- Is it a type's text? -/
theorem rtype8_any (t : ByteArray) (w : World) (hs : t.size ≤ 9223372036854775807) : Calls Try.prog 44 #[.string t] w fun r w' => r = .returned (.bool (gType t.data.toList)) ∧ w' = w := by
  have hd := rdep8_any _ t w (Nat.lt_succ_self _) hs
  rw [gType_dep]
  generalize dep t.data.toList = d at hd
  go_enter Try.func44, Try.ntmps44
  go_wp2_with fail
  refine hd.mono ?_
  rintro e w1 ⟨rfl, rfl⟩
  go_wp2
  all_goals
    go_ret
    refine ⟨ret_bool ?_, rfl⟩
    first
    | (rw [decide_eq_decide]; omega)
    | (rw [decide_eq_false (show ¬ 1 ≤ d by omega)]; rfl)
end Go.Proofs.Ytkbplffckkjbfaa
