/- Texts of ours, joined: Rev, Vk, Vm, Vn. -/
import Derived.Test.YtndahpcjkcihlaaG07
import Derived.Test.YtndahpcjkcihlaaG01
import Derived.WalkKit
import Derived.WalkSpells
import Derived.WalkLawsBesides
import Derived.Deep.QuietTactic
import Derived.BigQuiet
/- The document's Depth and Type, whole. -/
namespace Go.Proofs.Ytndahpcjkcihlaa
open Go.RowKit
set_option linter.unusedSimpArgs false
set_option linter.unusedVariables false

theorem ext_list (s : ByteArray) (i j : Nat) : (s.extract i j).data.toList = (s.data.toList.take j).drop i := by
  rw [ByteArray.data_extract]
  simp [Array.toList_extract, List.extract_eq_take_drop]
  rw [List.take_drop]
  by_cases h : i ≤ j
  · rw [Nat.add_sub_of_le h]
  · rw [List.drop_eq_nil_of_le (by simp; omega), List.drop_eq_nil_of_le (by simp; omega)]
theorem byte_at8 (t : ByteArray) (i : Nat) (h : i < t.size) (c : UInt8) : ((t[i].toNat : Int) = (c.toNat : Int)) ↔ t.data.toList[i]? = some c := by
  have hl : i < t.data.toList.length := by simpa using h
  have e : t.data.toList[i]? = some t[i] := by
    rw [List.getElem?_eq_getElem hl]
    simp
    rfl
  rw [e]
  constructor
  · intro h2
    have h3 : t[i].toNat = c.toNat := by omega
    rw [UInt8.toNat_inj.mp h3]
  · intro h2
    have h3 : t[i] = c := by simpa using h2
    rw [h3]
theorem take_at8 (t : ByteArray) (k : Nat) (x : List UInt8) : ((t.extract 0 k).toList == x) = true ↔ t.data.toList.take k = x := by
  rw [ByteArray.toList_eq, ext_list, List.drop_zero, beq_iff_eq]
theorem take_at8f {t : ByteArray} {k : Nat} {x : List UInt8} (h : ((t.extract 0 k).toList == x) = false) : ¬ t.data.toList.take k = x := by
  intro h2
  rw [(take_at8 t k x).mpr h2] at h
  cases h
theorem first_take {s : List UInt8} {k : Nat} {a c : UInt8} {r : List UInt8} (hk : 0 < k) (h : s.take k = a :: r) (h0 : s[0]? = some c) : a = c := by
  have e : (s.take k)[0]? = s[0]? := by rw [List.getElem?_take, if_pos hk]
  rw [h, h0] at e
  simpa using e
theorem innT_none {s : List UInt8} (h1 : ¬ (2 < s.length ∧ s[0]? = some 91 ∧ s[s.length - 1]? = some 93)) (h2 : ¬ (6 < s.length ∧ s.take 5 = [123, 105, 110, 116, 58] ∧ s[s.length - 1]? = some 125)) (h3 : ¬ (7 < s.length ∧ s.take 6 = [123, 116, 101, 120, 116, 58] ∧ s[s.length - 1]? = some 125)) : innT s = none := by
  unfold innT; rw [if_neg h1, if_neg h2, if_neg h3]
theorem depF_le : ∀ (f : Nat) (s : List UInt8), depF f s ≤ f
  | 0, s => by simp [depF]
  | f + 1, s => by
    simp only [depF]
    split
    · omega
    · rcases innT s with _ | y
      · simp
      · have := depF_le f y
        simp only []
        split
        · omega
        · split <;> omega
set_option maxRecDepth 100000 in
set_option maxHeartbeats 1000000 in
theorem rdep8_base (t : ByteArray) (w : World) (h : t = ⟨#[105, 110, 116]⟩ ∨ t = ⟨#[98, 111, 111, 108]⟩ ∨ t = ⟨#[116, 101, 120, 116]⟩) : Calls Try.prog 60 #[.string t] w fun r w' => r = .returned (.int .i64 1) ∧ w' = w := by
  rcases h with rfl | rfl | rfl
  all_goals
    go_enter Try.func60, Try.ntmps60
    go_wp2
    go_ret
    exact ⟨rfl, rfl⟩
theorem rdep8_any : ∀ (n : Nat) (t : ByteArray) (w : World), t.size < n → t.size ≤ 9223372036854775807 → Calls Try.prog 60 #[.string t] w fun r w' => r = .returned (.int .i64 (dep t.data.toList)) ∧ w' = w := by
  intro n
  induction n with
  | zero => intro t w hn; omega
  | succ n ih =>
    intro t w hn hs
    have hlen : t.data.toList.length = t.size := by simp
    by_cases hb : t.data.toList = [105, 110, 116] ∨ t.data.toList = [98, 111, 111, 108] ∨ t.data.toList = [116, 101, 120, 116]
    · rw [dep_eq, if_pos hb]
      refine rdep8_base t w ?_
      rcases hb with h | h | h
      · exact Or.inl (ByteArray.ext (Array.toList_inj.mp h))
      · exact Or.inr (Or.inl (ByteArray.ext (Array.toList_inj.mp h)))
      · exact Or.inr (Or.inr (ByteArray.ext (Array.toList_inj.mp h)))
    have h1 : (t.toList == [105, 110, 116]) = false := by rw [ByteArray.toList_eq, beq_eq_false_iff_ne]; exact fun h => hb (Or.inl h)
    have h2 : (t.toList == [98, 111, 111, 108]) = false := by rw [ByteArray.toList_eq, beq_eq_false_iff_ne]; exact fun h => hb (Or.inr (Or.inl h))
    have h3 : (t.toList == [116, 101, 120, 116]) = false := by rw [ByteArray.toList_eq, beq_eq_false_iff_ne]; exact fun h => hb (Or.inr (Or.inr h))
    have hno : innT t.data.toList = none → (Calls Try.prog 60 #[.string t] w fun r w' => r = .returned (.int .i64 0) ∧ w' = w) → Calls Try.prog 60 #[.string t] w fun r w' => r = .returned (.int .i64 (dep t.data.toList)) ∧ w' = w := by
      intro h4 h5
      rw [dep_eq, if_neg hb, h4]
      exact h5
    have hyes : ∀ (a : Nat) (y : List UInt8), innT t.data.toList = some y → (t.extract a (t.size - 1)).data.toList = y → (((t.size ≤ 200 → dep y ≤ 300) ∧ (t.size ≤ 200 → Calls Try.prog 60 #[.string (t.extract a (t.size - 1))] w fun r w' => r = .returned (.int .i64 (dep y)) ∧ w' = w)) → Calls Try.prog 60 #[.string t] w fun r w' => r = .returned (.int .i64 ((if 200 < t.size then 0 else if dep y = 0 then 0 else dep y + 1 : Nat) : Int)) ∧ w' = w) → Calls Try.prog 60 #[.string t] w fun r w' => r = .returned (.int .i64 (dep t.data.toList)) ∧ w' = w := by
      intro a y h4 h5 h6
      have hlt := innT_lt h4
      have hle := depF_le (y.length + 1) y
      have hsz : (t.extract a (t.size - 1)).size = y.length := by rw [← h5, Array.length_toList]; rfl
      have h7 := h6 ⟨fun h8 => by show depF _ _ ≤ _; omega, fun h8 => by
        have := ih (t.extract a (t.size - 1)) w (by omega) (by omega)
        rw [h5] at this
        exact this⟩
      rw [dep_eq, if_neg hb, h4, hlen]
      exact h7
    by_cases c1 : t.size ≤ 2
    · refine hno (innT_none ?_ ?_ ?_) (rdep8_n1 t w hs h1 h2 h3 c1) <;> (rintro ⟨x1, x2, x3⟩; omega)
    have hA := byte_at8 t 0 (by omega) 91
    have hB := byte_at8 t (t.size - 1) (by omega) 93
    have hC := byte_at8 t (t.size - 1) (by omega) 125
    have hQ := take_at8 t 5 [123, 105, 110, 116, 58]
    have hR := take_at8 t 6 [123, 116, 101, 120, 116, 58]
    by_cases a : (t[0].toNat : Int) = 91
    · have a' := hA.mp a
      have q' : ¬ t.data.toList.take 5 = [123, 105, 110, 116, 58] := fun h => by have := first_take (by omega) h a'; simp at this
      have r' : ¬ t.data.toList.take 6 = [123, 116, 101, 120, 116, 58] := fun h => by have := first_take (by omega) h a'; simp at this
      have q : ((t.extract 0 5).toList == [123, 105, 110, 116, 58]) = false := by rw [Bool.eq_false_iff]; exact fun h => q' (hQ.mp h)
      have r : ((t.extract 0 6).toList == [123, 116, 101, 120, 116, 58]) = false := by rw [Bool.eq_false_iff]; exact fun h => r' (hR.mp h)
      by_cases b : (t[t.size - 1].toNat : Int) = 93
      · have b' := hB.mp b
        refine hyes 1 _ (by unfold innT; rw [hlen, if_pos ⟨by omega, a', b'⟩]) (ext_list _ _ _) fun h => rdep8_l t w _ h.1 hs h1 h2 h3 (by omega) a b h.2
      · have b' : ¬ _ := fun h => b (hB.mpr h)
        refine hno (innT_none ?_ ?_ ?_) ?_
        · rw [hlen]; rintro ⟨x1, x2, x3⟩; contradiction
        · rintro ⟨x1, x2, x3⟩; contradiction
        · rintro ⟨x1, x2, x3⟩; contradiction
        by_cases c2 : t.size ≤ 6
        · exact rdep8_n3 t w hs h1 h2 h3 (by omega) c2 a b
        by_cases c3 : t.size ≤ 7
        · exact rdep8_n4 t w hs h1 h2 h3 (by omega) c3 a b q
        · exact rdep8_n5 t w hs h1 h2 h3 (by omega) a b q r
    · have a' : ¬ _ := fun h => a (hA.mpr h)
      by_cases c2 : t.size ≤ 6
      · refine hno (innT_none ?_ ?_ ?_) (rdep8_n2 t w hs h1 h2 h3 (by omega) c2 a)
        · rintro ⟨x1, x2, x3⟩; contradiction
        · rintro ⟨x1, x2, x3⟩; omega
        · rintro ⟨x1, x2, x3⟩; omega
      by_cases q' : t.data.toList.take 5 = [123, 105, 110, 116, 58]
      · have q := hQ.mpr q'
        by_cases b : (t[t.size - 1].toNat : Int) = 125
        · have b' := hC.mp b
          refine hyes 5 _ (by unfold innT; rw [hlen, if_neg (by rintro ⟨x1, x2, x3⟩; contradiction), if_pos ⟨by omega, q', b'⟩]) (ext_list _ _ _) fun h => rdep8_i t w _ h.1 hs h1 h2 h3 (by omega) a q b h.2
        · have b' : ¬ _ := fun h => b (hC.mpr h)
          refine hno (innT_none ?_ ?_ ?_) ?_
          · rintro ⟨x1, x2, x3⟩; contradiction
          · rw [hlen]; rintro ⟨x1, x2, x3⟩; contradiction
          · rw [hlen]; rintro ⟨x1, x2, x3⟩; contradiction
          by_cases c3 : t.size ≤ 7
          · exact rdep8_n9 t w hs h1 h2 h3 (by omega) c3 a q b
          · have r' : ¬ t.data.toList.take 6 = [123, 116, 101, 120, 116, 58] := fun h => by
              have e : (t.data.toList.take 6).take 5 = t.data.toList.take 5 := by rw [List.take_take]; rfl
              rw [h, q'] at e
              simp at e
            have r : ((t.extract 0 6).toList == [123, 116, 101, 120, 116, 58]) = false := by rw [Bool.eq_false_iff]; exact fun h => r' (hR.mp h)
            exact rdep8_na t w hs h1 h2 h3 (by omega) a q r b
      · have q : ((t.extract 0 5).toList == [123, 105, 110, 116, 58]) = false := by rw [Bool.eq_false_iff]; exact fun h => q' (hQ.mp h)
        by_cases c3 : t.size ≤ 7
        · refine hno (innT_none ?_ ?_ ?_) (rdep8_n6 t w hs h1 h2 h3 (by omega) c3 a q)
          · rintro ⟨x1, x2, x3⟩; contradiction
          · rintro ⟨x1, x2, x3⟩; contradiction
          · rintro ⟨x1, x2, x3⟩; omega
        by_cases r' : t.data.toList.take 6 = [123, 116, 101, 120, 116, 58]
        · have r := hR.mpr r'
          by_cases b : (t[t.size - 1].toNat : Int) = 125
          · have b' := hC.mp b
            refine hyes 6 _ (by unfold innT; rw [hlen, if_neg (by rintro ⟨x1, x2, x3⟩; contradiction), if_neg (by rintro ⟨x1, x2, x3⟩; contradiction), if_pos ⟨by omega, r', b'⟩]) (ext_list _ _ _) fun h => rdep8_t t w _ h.1 hs h1 h2 h3 (by omega) a q r b h.2
          · have b' : ¬ _ := fun h => b (hC.mpr h)
            refine hno (innT_none ?_ ?_ ?_) (rdep8_n8 t w hs h1 h2 h3 (by omega) a q r b)
            · rintro ⟨x1, x2, x3⟩; contradiction
            · rintro ⟨x1, x2, x3⟩; contradiction
            · rw [hlen]; rintro ⟨x1, x2, x3⟩; contradiction
        · have r : ((t.extract 0 6).toList == [123, 116, 101, 120, 116, 58]) = false := by rw [Bool.eq_false_iff]; exact fun h => r' (hR.mp h)
          refine hno (innT_none ?_ ?_ ?_) (rdep8_n7 t w hs h1 h2 h3 (by omega) a q r)
          · rintro ⟨x1, x2, x3⟩; contradiction
          · rintro ⟨x1, x2, x3⟩; contradiction
          · rintro ⟨x1, x2, x3⟩; contradiction
set_option maxHeartbeats 1000000 in
/-- Is it a type's text? -/
theorem rtype8_any (t : ByteArray) (w : World) (hs : t.size ≤ 9223372036854775807) : Calls Try.prog 33 #[.string t] w fun r w' => r = .returned (.bool (gType t.data.toList)) ∧ w' = w := by
  have hd := rdep8_any _ t w (Nat.lt_succ_self _) hs
  rw [gType_dep]
  generalize dep t.data.toList = d at hd
  go_enter Try.func33, Try.ntmps33
  go_wp2_with fail
  refine hd.mono ?_
  rintro e w1 ⟨rfl, rfl⟩
  go_wp2
  all_goals
    go_ret
    refine ⟨ret_bool ?_, rfl⟩
    first
    | (rw [decide_eq_decide]; omega)
    | (rw [decide_eq_false (show ¬ 1 ≤ d by omega)]; rfl)
end Go.Proofs.Ytndahpcjkcihlaa
/- Types' kinds and parts: the program's. -/
namespace Go.Proofs.Ytndahpcjkcihlaa
open Go.RowKit
set_option linter.unusedVariables false
set_option linter.unusedSimpArgs false

theorem stype_l (l : List UInt8) (hl : l.length ≤ 9223372036854775807) (w : World) : Calls Try.prog 83 #[.string ⟨l.toArray⟩] w fun e w' => e = .returned (.bool (gType l)) ∧ w' = w := by
  have := stype_any ⟨l.toArray⟩ w (by show l.toArray.size ≤ maxLen; unfold maxLen; simpa using hl)
  simpa only [List.toList_toArray] using this
theorem rtype_l (l : List UInt8) (hl : l.length ≤ 9223372036854775807) (w : World) : Calls Try.prog 33 #[.string ⟨l.toArray⟩] w fun e w' => e = .returned (.bool (gType l)) ∧ w' = w := by
  have := rtype8_any ⟨l.toArray⟩ w (by show l.toArray.size ≤ 9223372036854775807; simpa using hl)
  simpa only [List.toList_toArray] using this
theorem tyT_first (T : Ty) : ∃ c r, tyT T = c :: r ∧ (kd T = 4 ↔ c = 91) ∧ (kd T = 5 ↔ c = 123) := by
  cases T with
  | int => exact ⟨_, _, rfl, by decide, by decide⟩
  | bool => exact ⟨_, _, rfl, by decide, by decide⟩
  | text => exact ⟨_, _, rfl, by decide, by decide⟩
  | list t => exact ⟨_, _, rfl, by simp [kd], by simp [kd]⟩
  | map k t => exact ⟨123, keyT k ++ [58] ++ tyT t ++ [125], by simp [tyT], by simp [kd], by simp [kd]⟩
set_option maxRecDepth 100000 in
set_option maxHeartbeats 1000000 in
theorem kindOf_any (l : List UInt8) (hl : l.length ≤ 9223372036854775807) (w : World) : Calls Try.prog 56 #[.string ⟨l.toArray⟩] w fun e w' => e = .returned (.int .i64 (kdOf l)) ∧ w' = w := by
  have hT := stype_l l hl w
  unfold gType at hT
  rcases h : tyOf l with _ | T
  · rw [h] at hT
    have hk : Hid (kdOf l = 0) := by show _ = _; unfold kdOf; rw [h]
    clear h
    go_enter Try.func56, Try.ntmps56
    go_wp2_with (go_at_call 83; refine hT.mono ?_; rintro e w' ⟨rfl, rfl⟩)
    go_ret
    exact ⟨ret_int hk.out.symm, rfl⟩
  · rw [h] at hT
    have hk : Hid (kdOf l = kd T) := by show _ = _; unfold kdOf; rw [h]
    obtain ⟨h1, h2⟩ := (tyOf_iff _ _).1 h
    have hlen := tyT_len T
    clear h
    subst h1
    rcases T with _ | _ | _ | t | ⟨k, t⟩
    · go_enter Try.func56, Try.ntmps56
      go_wp2_with (go_at_call 83; refine hT.mono ?_; rintro e w' ⟨rfl, rfl⟩)
      go_ret
      exact ⟨ret_int hk.out.symm, rfl⟩
    · go_enter Try.func56, Try.ntmps56
      go_wp2_with (go_at_call 83; refine hT.mono ?_; rintro e w' ⟨rfl, rfl⟩)
      go_ret
      exact ⟨ret_int hk.out.symm, rfl⟩
    · go_enter Try.func56, Try.ntmps56
      go_wp2_with (go_at_call 83; refine hT.mono ?_; rintro e w' ⟨rfl, rfl⟩)
      go_ret
      exact ⟨ret_int hk.out.symm, rfl⟩
    · have e : tyT (.list t) = 91 :: (tyT t ++ [93]) := rfl
      rw [e] at hT hlen hk ⊢
      generalize tyT t ++ [93] = r at *
      simp only [List.length_cons] at hlen hl
      go_enter Try.func56, Try.ntmps56
      go_wp2_with (go_at_call 83; refine hT.mono ?_; rintro e w' ⟨rfl, rfl⟩)
      go_ret
      exact ⟨ret_int hk.out.symm, rfl⟩
    · have e : tyT (.map k t) = 123 :: (keyT k ++ ([58] ++ tyT t ++ [125])) := by simp [tyT]
      rw [e] at hT hlen hk ⊢
      generalize keyT k ++ ([58] ++ tyT t ++ [125]) = r at *
      simp only [List.length_cons] at hlen hl
      go_enter Try.func56, Try.ntmps56
      go_wp2_with (go_at_call 83; refine hT.mono ?_; rintro e w' ⟨rfl, rfl⟩)
      go_ret
      exact ⟨ret_int hk.out.symm, rfl⟩
end Go.Proofs.Ytndahpcjkcihlaa
/- Parts of types, first values: the program's. -/
namespace Go.Proofs.Ytndahpcjkcihlaa
open Go.RowKit
set_option linter.unusedVariables false
set_option linter.unusedSimpArgs false

theorem ba_eq {s : ByteArray} {l : List UInt8} (h : s.data.toList = l) : s = ⟨l.toArray⟩ := by
  cases s; simp at h; subst h; simp
set_option maxRecDepth 100000 in
set_option maxHeartbeats 1000000 in
theorem inside_l (a z : UInt8) (m : List UInt8) (hm : m.length ≤ 1000) (w : World) : Calls Try.prog 91 #[.string ⟨(a :: (m ++ [z])).toArray⟩] w fun e w' => e = .returned (.string ⟨m.toArray⟩) ∧ w' = w := by
  have hz : (⟨(a :: (m ++ [z])).toArray⟩ : ByteArray).size = m.length + 2 := by show (a :: (m ++ [z])).toArray.size = _; simp
  have he : (⟨(a :: (m ++ [z])).toArray⟩ : ByteArray).extract 1 (m.length + 2 - 1) = ⟨m.toArray⟩ := ba_eq (by rw [ext_list]; simp)
  generalize (⟨(a :: (m ++ [z])).toArray⟩ : ByteArray) = s at *
  go_enter Try.func91, Try.ntmps91
  go_wp2
  go_ret
  exact ⟨by first | rfl | exact congrArg (fun x => Ending.returned (.string x)) he, rfl⟩
set_option maxRecDepth 100000 in
set_option maxHeartbeats 1000000 in
theorem sclone_any (s : ByteArray) (w : World) (hs : s.size ≤ 281474976710656) : Calls Try.prog 89 #[.string s] w fun e w' => e = .returned (.string s) ∧ Below w.heap.size w w' := by
  go_enter Try.func89, Try.ntmps89
  go_wp2_with (go_at_call 96; refine (Try.stringslite_Clone s _ hs).mono ?_; rintro e w1 ⟨rfl, hb⟩)
  go_ret
  exact ⟨rfl, hb⟩
theorem sclone_l (l : List UInt8) (w : World) (hs : l.length ≤ 281474976710656) : Calls Try.prog 89 #[.string ⟨l.toArray⟩] w fun e w' => e = .returned (.string ⟨l.toArray⟩) ∧ Below w.heap.size w w' := sclone_any _ w (by show l.toArray.size ≤ _; simpa using hs)
set_option maxRecDepth 100000 in
set_option maxHeartbeats 1000000 in
theorem list_any (l : List UInt8) (hl : l.length ≤ 9223372036854775807) (w : World) : Calls Try.prog 84 #[.string ⟨l.toArray⟩] w fun e w' => e = .returned (.tuple #[.string ⟨(elT l).1.toArray⟩, .bool (elT l).2]) ∧ Below w.heap.size w w' := by
  have hK := kindOf_any l hl w
  rcases h : tyOf l with _ | T
  · have hk : kdOf l = 0 := by unfold kdOf; rw [h]
    have he : elT l = ([], false) := by unfold elT; rw [h]
    rw [hk] at hK; rw [he]
    clear h hk he
    go_enter Try.func84, Try.ntmps84
    go_wp2_with (go_at_call 56; refine hK.mono ?_; rintro e w' ⟨rfl, rfl⟩)
    go_ret2
    exact ⟨rfl, Below.refl _ _⟩
  · have hk : kdOf l = kd T := by unfold kdOf; rw [h]
    obtain ⟨h1, h2⟩ := (tyOf_iff _ _).1 h
    rw [hk] at hK
    by_cases h4 : kd T = 4
    · cases T with
      | list t =>
        have he : elT l = (tyT t, true) := by unfold elT; rw [h]
        rw [he]
        clear h hk he
        subst h1
        have hlen := tyT_len t
        simp only [Ty.dp] at h2
        have hI := inside_l 91 93 (tyT t) (by omega) w
        have hC := sclone_l (tyT t) w (by omega)
        have e : tyT (.list t) = 91 :: (tyT t ++ [93]) := rfl
        rw [← e] at hI
        have e4 : kd (.list t) = 4 := rfl
        rw [e4] at hK
        clear e e4 h4 hl
        generalize tyT (.list t) = z at *
        generalize tyT t = y at *
        clear hlen
        go_enter Try.func84, Try.ntmps84
        go_wp2_with fail
        refine hK.mono ?_
        rintro e w' ⟨rfl, rfl⟩
        go_wp2_with fail
        refine hI.mono ?_
        rintro e w' ⟨rfl, rfl⟩
        go_wp2_with fail
        refine hC.mono ?_
        rintro e w' ⟨rfl, hb⟩
        go_wp2
        go_ret2
        exact ⟨rfl, hb⟩
      | _ => exact absurd h4 (by simp [kd])
    · have he : elT l = ([], false) := by
        unfold elT; rw [h]
        cases T <;> first | rfl | exact absurd rfl h4
      rw [he]
      have h4' : (kd T != 4) = true := by simp [h4]
      clear h hk he h1
      generalize kd T = z at *
      go_enter Try.func84, Try.ntmps84
      go_wp2_with (go_at_call 56; refine hK.mono ?_; rintro e w' ⟨rfl, rfl⟩)
      go_ret2
      exact ⟨rfl, Below.refl _ _⟩
theorem ib_colon : ∀ (k : Bool) (y : List UInt8), Lib.indexByte (keyT k ++ 58 :: y) 58 = (keyT k).length := by
  intro k y
  cases k <;> simp [keyT, Lib.indexByte]
set_option maxRecDepth 100000 in
set_option maxHeartbeats 1000000 in
theorem lindex_l (k : Bool) (y : List UInt8) (w : World) (hy : y.length ≤ 1000) : Calls Try.prog 102 #[.string ⟨(keyT k ++ 58 :: y).toArray⟩, .string ⟨#[58]⟩] w fun e w' => e = .returned (.int .i64 (keyT k).length) ∧ w' = w := by
  have hI := Try.stringslite_IndexByte ⟨(keyT k ++ 58 :: y).toArray⟩ 58 w
  rw [show (⟨(keyT k ++ 58 :: y).toArray⟩ : ByteArray).data.toList = keyT k ++ 58 :: y from by simp, show (58 : Int).toNat.toUInt8 = 58 from by decide, ib_colon] at hI
  have hne : ((⟨#[58]⟩ : ByteArray).toList == (⟨(keyT k ++ 58 :: y).toArray⟩ : ByteArray).toList) = false := by
    rw [ByteArray.toList_eq, ByteArray.toList_eq]; cases k <;> simp [keyT]
  have hne2 : (keyT k ++ 58 :: y == [58]) = false := by cases k <;> simp [keyT]
  have hne3 : ([58] == keyT k ++ 58 :: y) = false := by cases k <;> simp [keyT]
  generalize keyT k ++ 58 :: y = z at *
  go_enter Try.func102, Try.ntmps102
  go_wp2_with fail
  refine hI.mono ?_
  rintro e w' ⟨rfl, rfl⟩
  go_wp2
  go_ret
  exact ⟨rfl, rfl⟩
end Go.Proofs.Ytndahpcjkcihlaa
/- A map's types; values made of nothing: the program's. -/
namespace Go.Proofs.Ytndahpcjkcihlaa
open Go.RowKit
set_option linter.unusedVariables false
set_option linter.unusedSimpArgs false

set_option maxRecDepth 100000 in
set_option maxHeartbeats 1000000 in
theorem lcut_l (k : Bool) (y : List UInt8) (w : World) (hy : y.length ≤ 1000) : Calls Try.prog 98 #[.string ⟨(keyT k ++ 58 :: y).toArray⟩, .string ⟨#[58]⟩] w fun e w' => e = .returned (.tuple #[.string ⟨(keyT k).toArray⟩, .string ⟨y.toArray⟩, .bool true]) ∧ Below w.heap.size w w' := by
  have hI := lindex_l k y w hy
  have hz : (⟨(keyT k ++ 58 :: y).toArray⟩ : ByteArray).size = (keyT k).length + 1 + y.length := by show (keyT k ++ 58 :: y).toArray.size = _; simp; omega
  have h1 : (⟨(keyT k ++ 58 :: y).toArray⟩ : ByteArray).extract 0 (keyT k).length = ⟨(keyT k).toArray⟩ := ba_eq (by rw [ext_list]; simp)
  have h2 : (⟨(keyT k ++ 58 :: y).toArray⟩ : ByteArray).extract ((keyT k).length + 1) ((keyT k).length + 1 + y.length) = ⟨y.toArray⟩ := ba_eq (by
    rw [ext_list, List.take_of_length_le (by simp; omega), List.drop_append]
    simp)
  have hkl : (keyT k).length ≤ 4 := by cases k <;> simp [keyT]
  generalize (⟨(keyT k ++ 58 :: y).toArray⟩ : ByteArray) = s at *
  generalize hn : (keyT k).length = n at *
  clear hn
  generalize keyT k = kt at *
  have b1 : (0 : Int) ≤ (n : Int) := by omega
  have b2 : (n : Int) ≤ (s.size : Int) := by omega
  have b3 : (n : Int) + 1 ≤ (s.size : Int) := by omega
  go_enter Try.func98, Try.ntmps98
  go_wp2_with fail
  refine hI.mono ?_
  rintro e w' ⟨rfl, rfl⟩
  clear hI
  go_wp2_with fail
  go_quiet (fail)
  go_wp2
  go_ret3
  exact ⟨rfl, below_drewN _ _⟩
set_option maxRecDepth 100000 in
set_option maxHeartbeats 1000000 in
theorem scut_l (k : Bool) (y : List UInt8) (w : World) (hy : y.length ≤ 1000) : Calls Try.prog 92 #[.string ⟨(keyT k ++ 58 :: y).toArray⟩, .string ⟨#[58]⟩] w fun e w' => e = .returned (.tuple #[.string ⟨(keyT k).toArray⟩, .string ⟨y.toArray⟩, .bool true]) ∧ Below w.heap.size w w' := by
  have hI := lcut_l k y w hy
  generalize (⟨(keyT k ++ 58 :: y).toArray⟩ : ByteArray) = s at *
  go_enter Try.func92, Try.ntmps92
  go_wp2_with fail
  refine hI.mono ?_
  rintro e w' ⟨rfl, hb⟩
  clear hI
  go_wp2
  go_ret3
  exact ⟨rfl, hb⟩
set_option maxRecDepth 100000 in
set_option maxHeartbeats 1000000 in
theorem map_any (l : List UInt8) (hl : l.length ≤ 9223372036854775807) (w : World) : Calls Try.prog 86 #[.string ⟨l.toArray⟩] w fun e w' => e = .returned (.tuple #[.string ⟨(mpT l).1.toArray⟩, .string ⟨(mpT l).2.1.toArray⟩, .bool (mpT l).2.2]) ∧ Below w.heap.size w w' := by
  have hK := kindOf_any l hl w
  rcases h : tyOf l with _ | T
  · have hk : kdOf l = 0 := by unfold kdOf; rw [h]
    have he : mpT l = ([], [], false) := by unfold mpT; rw [h]
    rw [hk] at hK; rw [he]
    clear h hk he
    go_enter Try.func86, Try.ntmps86
    go_wp2_with (go_at_call 56; refine hK.mono ?_; rintro e w' ⟨rfl, rfl⟩)
    go_ret3
    exact ⟨rfl, Below.refl _ _⟩
  · have hk : kdOf l = kd T := by unfold kdOf; rw [h]
    obtain ⟨h1, h2⟩ := (tyOf_iff _ _).1 h
    rw [hk] at hK
    by_cases h4 : kd T = 5
    · cases T with
      | map k t =>
        have he : mpT l = (keyT k, tyT t, true) := by unfold mpT; rw [h]
        rw [he]
        clear h hk he
        subst h1
        have hlen := tyT_len t
        have hkl : (keyT k).length ≤ 4 := by cases k <;> simp [keyT]
        simp only [Ty.dp] at h2
        have hI := inside_l 123 125 (keyT k ++ 58 :: tyT t) (by simp; omega) w
        have hC := scut_l k (tyT t) w (by omega)
        have hC1 := fun w => sclone_l (keyT k) w (by omega)
        have hC2 := fun w => sclone_l (tyT t) w (by omega)
        have e : tyT (.map k t) = 123 :: ((keyT k ++ 58 :: tyT t) ++ [125]) := by simp [tyT]
        rw [← e] at hI
        have e4 : kd (.map k t) = 5 := rfl
        rw [e4] at hK
        clear e e4 h4 hl
        generalize tyT (.map k t) = z at *
        generalize keyT k ++ 58 :: tyT t = m at *
        generalize tyT t = y at *
        generalize keyT k = kt at *
        clear hlen hkl
        go_enter Try.func86, Try.ntmps86
        go_wp2_with fail
        refine hK.mono ?_
        rintro e w' ⟨rfl, rfl⟩
        go_wp2_with fail
        refine hI.mono ?_
        rintro e w' ⟨rfl, rfl⟩
        go_wp2_with fail
        refine hC.mono ?_
        rintro e w2 ⟨rfl, hb2⟩
        go_wp2_with fail
        refine (hC1 _).mono ?_
        rintro e w3 ⟨rfl, hb3⟩
        go_wp2_with fail
        refine (hC2 _).mono ?_
        rintro e w4 ⟨rfl, hb4⟩
        go_wp2
        go_ret3
        exact ⟨rfl, hb2.trans ((hb3.trans (hb4.mono hb3.size)).mono hb2.size)⟩
      | _ => exact absurd h4 (by simp [kd])
    · have he : mpT l = ([], [], false) := by
        unfold mpT; rw [h]
        cases T <;> first | rfl | exact absurd rfl h4
      rw [he]
      have h4' : (kd T != 5) = true := by simp [h4]
      clear h hk he h1
      generalize kd T = z at *
      go_enter Try.func86, Try.ntmps86
      go_wp2_with (go_at_call 56; refine hK.mono ?_; rintro e w' ⟨rfl, rfl⟩)
      go_ret3
      exact ⟨rfl, Below.refl _ _⟩
set_option maxRecDepth 100000 in
set_option maxHeartbeats 1000000 in
theorem int_any (n : Int) (w : World) : Calls Try.prog 88 #[.int .i64 n] w fun e w' => e = .returned (.agg #[.int .i64 1, .int .i64 n, .string ⟨#[]⟩, .slice none 0 0]) ∧ Below w.heap.size w w' := by
  go_enter Try.func88, Try.ntmps88
  go_wp2
  exact bodyPost_ret (v := .agg #[.int .i64 1, .int .i64 n, .string ⟨#[]⟩, .slice none 0 0]) (by simp [results, Try.results88, go_sem]) rfl ⟨rfl, (Below.refl _ _).alloc (Nat.le_refl _) _⟩
set_option maxRecDepth 100000 in
set_option maxHeartbeats 1000000 in
theorem text_any (l : List UInt8) (hl : l.length ≤ 281474976710656) (w : World) : Calls Try.prog 79 #[.string ⟨l.toArray⟩] w fun e w' => e = .returned (.agg #[.int .i64 3, .int .i64 0, .string ⟨l.toArray⟩, .slice none 0 0]) ∧ Below w.heap.size w w' := by
  have hC := fun w => sclone_l l w hl
  obtain ⟨w0, hW, hb0, hs0, hr⟩ := rbox w
  go_enter Try.func79, Try.ntmps79
  go_wp2_with fail
  refine (hC _).mono ?_
  rintro e w3 ⟨rfl, hb3⟩
  obtain ⟨c0, c1, c2, c3, f0, f1, f2, f3, hz⟩ := hr w3 hb3
  clear hr hW
  go_wp2_with fail
  exact bodyPost_ret (v := .agg #[.int .i64 3, .int .i64 0, .string ⟨l.toArray⟩, .slice none 0 0]) (by simp [results, Try.results79, go_sem, hz, c0, c1, c2, c3]) rfl ⟨rfl, below_set4 (hb0.trans (hb3.mono (by omega))) (Nat.le_refl _) _ _ _ _⟩
end Go.Proofs.Ytndahpcjkcihlaa
