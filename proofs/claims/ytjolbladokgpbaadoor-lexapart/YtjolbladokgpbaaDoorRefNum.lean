/- The document's numbers. -/
import Derived.Test.YtjolbladokgpbaaDoorRefMark
namespace Go.Proofs.YtjolbladokgpbaaDoor
open Go.RowKit
set_option linter.unusedSimpArgs false
set_option linter.unusedVariables false

theorem val_big : ∀ (t : List UInt8) (acc : Nat), t ≠ [] → 1152921504606846976 < acc → 9223372036854775807 < valF acc t
  | [], acc, h, _ => absurd rfl h
  | c :: r, acc, _, h => by
    have hg := valF_ge r (acc * 10 + (c.toNat - 48))
    have hv : valF acc (c :: r) = valF (acc * 10 + (c.toNat - 48)) r := rfl
    rw [hv]; omega
theorem valF_app (a b : List UInt8) (acc : Nat) : valF acc (a ++ b) = valF (valF acc a) b := by unfold valF; rw [List.foldl_append]

/- Places that a loop over bytes of a kind comes to. -/
theorem run_step {s : ByteArray} {i m : Nat} {p : UInt8 → Bool} (h0 : i ≤ m) (h1 : m ≤ i + run s i p) (hlt : m < s.size) (hp : p s[m] = true) : m + 1 ≤ i + run s i p := by
  have h := Lx.tw_step (l := s.data.toList.drop i) (k := m - i) (p := p) (by unfold run at h1; omega) (by simp; omega) (by
    rw [List.getElem_drop]
    have e : s.data.toList[i + (m - i)]'(by simp; omega) = s[m] := by
      have : i + (m - i) = m := by omega
      simp only [this]; rfl
    rw [e]; exact hp)
  unfold run; omega
theorem run_stop {s : ByteArray} {i m : Nat} {p : UInt8 → Bool} (h0 : i ≤ m) (h1 : m ≤ i + run s i p) (hlt : m < s.size) (hp : p s[m] = false) : m = i + run s i p := by
  have h := Lx.tw_stop (l := s.data.toList.drop i) (k := m - i) (p := p) (by unfold run at h1; omega) (by simp; omega) (by
    rw [List.getElem_drop]
    have e : s.data.toList[i + (m - i)]'(by simp; omega) = s[m] := by
      have : i + (m - i) = m := by omega
      simp only [this]; rfl
    rw [e]; exact hp)
  unfold run; omega
theorem run_fin {s : ByteArray} {i m : Nat} {p : UInt8 → Bool} (hi : i ≤ s.size) (h1 : m ≤ i + run s i p) (hlt : ¬ m < s.size) : m = i + run s i p := by
  have := run_le s i p hi
  omega
theorem run_at {s : ByteArray} {i m : Nat} {p : UInt8 → Bool} (h0 : i ≤ m) (h1 : m < i + run s i p) (hlt : m < s.size) : p s[m] = true := by
  rcases h : p s[m] with _ | _
  · have := run_stop h0 (by omega) hlt h
    omega
  · rfl

/-- The value of the digits from place i up to place k. -/
def valAt (s : ByteArray) (i k : Nat) : Nat := valF 0 ((s.data.toList.drop i).take (k - i))
theorem valAt_zero (s : ByteArray) (i : Nat) : valAt s i i = 0 := by unfold valAt; rw [Nat.sub_self]; rfl
theorem valAt_step (s : ByteArray) (i k : Nat) (h0 : i ≤ k) (hk : k < s.size) : valAt s i (k + 1) = valAt s i k * 10 + (s[k].toNat - 48) := by
  unfold valAt
  have e : (s.data.toList.drop i).take (k + 1 - i) = (s.data.toList.drop i).take (k - i) ++ [s[k]] := by
    rw [show k + 1 - i = (k - i) + 1 by omega, List.take_succ_eq_append_getElem (by simp; omega), List.getElem_drop]
    congr 2
    have : i + (k - i) = k := by omega
    simp only [this]; rfl
  rw [e, valF_app]; rfl
theorem valAt_full (s : ByteArray) (i : Nat) : valAt s i (i + run s i Lx.isDigit) = Lx.value ((s.data.toList.drop i).takeWhile Lx.isDigit) := by
  unfold valAt
  rw [Nat.add_sub_cancel_left]
  show valF 0 _ = valF 0 _
  unfold run; rw [Lx.tw_take]
theorem valAt_big (s : ByteArray) (i k : Nat) (h0 : i ≤ k) (hk : k < i + run s i Lx.isDigit) (hb : 1152921504606846976 < valAt s i k) : ¬ Lx.value ((s.data.toList.drop i).takeWhile Lx.isDigit) ≤ 9223372036854775807 := by
  have e : (s.data.toList.drop i).takeWhile Lx.isDigit = ((s.data.toList.drop i).take (k - i)) ++ (((s.data.toList.drop i).takeWhile Lx.isDigit).drop (k - i)) := by
    have h1 := List.take_append_drop (k - i) ((s.data.toList.drop i).takeWhile Lx.isDigit)
    have h2 : ((s.data.toList.drop i).takeWhile Lx.isDigit).take (k - i) = (s.data.toList.drop i).take (k - i) := by
      conv => lhs; rw [← Lx.tw_take (p := Lx.isDigit) (s.data.toList.drop i)]
      rw [List.take_take]; congr 1; unfold run at hk; omega
    rw [h2] at h1; exact h1.symm
  have hv : Lx.value ((s.data.toList.drop i).takeWhile Lx.isDigit) = valF 0 ((s.data.toList.drop i).takeWhile Lx.isDigit) := rfl
  rw [hv, e, valF_app]
  have := val_big (((s.data.toList.drop i).takeWhile Lx.isDigit).drop (k - i)) (valF 0 ((s.data.toList.drop i).take (k - i))) (by
    intro hn
    have := congrArg List.length hn
    simp at this; unfold run at hk; omega) hb
  omega
theorem digit_iff {c : UInt8} (h : Lx.isDigit c = true) : 48 ≤ c.toNat ∧ c.toNat ≤ 57 := by
  simpa [Lx.isDigit, UInt8.le_iff_toNat_le] using h

set_option maxHeartbeats 8000000 in
theorem rnumber_any (s : ByteArray) (i : Nat) (w : World) (hi : i < s.size) (hm : s.size ≤ 16384) (hd0 : Lx.isDigit s[i] = true) :
    Calls Tryd.prog 34 #[.string s, .int .i64 i] w fun e w' => NextPost (Lx.numberR (s.data.toList.drop i)) i w e w' := by
  have hhead : ((s.data.toList.drop i).takeWhile Lx.isDigit).head? = some s[i] := by
    rw [drop_at s i hi, List.takeWhile_cons_of_pos hd0]; rfl
  have hc : (((s.data.toList.drop i).takeWhile Lx.isDigit).head? = some 48 ∧ 1 < ((s.data.toList.drop i).takeWhile Lx.isDigit).length) ↔ (s[i] = 48 ∧ 1 < run s i Lx.isDigit) := by
    rw [hhead]; simp [run]
  have hr1 : Aside (s[i] = 48 ∧ 1 < run s i Lx.isDigit → Lx.numberR (s.data.toList.drop i) = Lx.R.bad 0 30) := fun h => by unfold Lx.numberR; exact if_pos (hc.2 h)
  have hr2 : Aside (¬ (s[i] = 48 ∧ 1 < run s i Lx.isDigit) → ¬ Lx.value ((s.data.toList.drop i).takeWhile Lx.isDigit) ≤ 9223372036854775807 → Lx.numberR (s.data.toList.drop i) = Lx.R.bad 0 3) := fun h hv => by
    unfold Lx.numberR; rw [if_neg (fun a => h (hc.1 a)), if_neg hv]
  have hr3 : Aside (¬ (s[i] = 48 ∧ 1 < run s i Lx.isDigit) → Lx.value ((s.data.toList.drop i).takeWhile Lx.isDigit) ≤ 9223372036854775807 → Lx.numberR (s.data.toList.drop i) = Lx.R.ok 2 ((s.data.toList.drop i).takeWhile Lx.isDigit) (Lx.value ((s.data.toList.drop i).takeWhile Lx.isDigit)) (run s i Lx.isDigit)) := fun h hv => by
    unfold Lx.numberR; rw [if_neg (fun a => h (hc.1 a)), if_pos hv]; rfl
  have hvf : Aside (valAt s i (i + run s i Lx.isDigit) = _) := valAt_full s i
  have hbig : Aside (∀ k, i ≤ k → k < i + run s i Lx.isDigit → 1152921504606846976 < valAt s i k → ¬ Lx.value ((s.data.toList.drop i).takeWhile Lx.isDigit) ≤ 9223372036854775807) := valAt_big s i
  have hxe : Aside (s.extract i (i + run s i Lx.isDigit) = _) := ext_run s i Lx.isDigit
  have hrle := run_le s i Lx.isDigit (by omega)
  have hrpos := run_pos hi hd0
  have hb : ∀ o, Below w.heap.size w (w.alloc o) := fun o => (Below.refl _ _).alloc (Nat.le_refl _) _
  obtain ⟨E, hE⟩ : ∃ E, Aside (E = i + run s i Lx.isDigit) := ⟨_, rfl⟩
  have hEs : E ≤ s.size := by have := hE.out; omega
  have hEi : i + 1 ≤ E := by have := hE.out; omega
  clear hhead hc hrle hrpos
  generalize hV : Lx.value ((s.data.toList.drop i).takeWhile Lx.isDigit) = V at *
  generalize Lx.numberR (s.data.toList.drop i) = res at *
  clear hV
  go_enter Tryd.func34, Tryd.ntmps34
  go_wp2_with fail
  go_loop [7] (fun a => ∃ m : Nat, i ≤ m ∧ m ≤ E ∧ a = .int .i64 m) (fun a => s.size - (intOf a).toNat)
  case atStart => exact ⟨i, Nat.le_refl _, by omega, rfl⟩
  case round =>
    obtain ⟨m, him, hmE, rfl⟩ := hrel
    have hcase : Aside ((∃ h : m < s.size, Lx.isDigit s[m] = true ∧ m + 1 ≤ E) ∨ (∃ h : m < s.size, Lx.isDigit s[m] = false ∧ m = E) ∨ (¬ m < s.size ∧ m = E)) := by
      have he := hE.out
      subst he
      show _ ∨ _
      by_cases h : m < s.size
      · rcases hd : Lx.isDigit s[m] with _ | _
        · exact Or.inr (Or.inl ⟨h, hd, run_stop him hmE h hd⟩)
        · exact Or.inl ⟨h, hd, run_step him hmE h hd⟩
      · exact Or.inr (Or.inr ⟨h, run_fin (by omega) hmE h⟩)
    rcases hcase.out with ⟨hlt, hd, hnx⟩ | ⟨hlt, hd, hm2⟩ | ⟨hlt, hm2⟩
    · clear hcase
      go_wp2_with (go_at_call 32; refine (rdigit_any _ _).mono ?_; rw [hd]; rintro e w' ⟨rfl, rfl⟩)
      go_round
      case rel => exact ⟨m + 1, by omega, hnx, by go_num⟩
      case measure => simp [intOf]; omega
    all_goals
      clear hcase
      subst hm2
      have hway : Aside ((1 < (m : Int) - (i : Int) ∧ s[i] = 48 ∧ res = Lx.R.bad 0 30) ∨ (¬ 1 < (m : Int) - (i : Int) ∧ ¬ (s[i] = 48 ∧ 1 < run s i Lx.isDigit)) ∨ (1 < (m : Int) - (i : Int) ∧ ¬ (s[i].toNat : Int) = 48 ∧ ¬ (s[i] = 48 ∧ 1 < run s i Lx.isDigit))) := by
        show _ ∨ _
        have he := hE.out
        by_cases h1 : 1 < (m : Int) - (i : Int)
        · by_cases h48 : s[i] = 48
          · exact Or.inl ⟨h1, h48, hr1.out ⟨h48, by omega⟩⟩
          · exact Or.inr (Or.inr ⟨h1, byte_ne (n := 48) (by decide) h48, fun a => h48 a.1⟩)
        · exact Or.inr (Or.inl ⟨h1, fun a => h1 (by have := a.2; omega)⟩)
      rcases hway.out with ⟨hI, h48, hres⟩ | ⟨hI, hn⟩ | ⟨hI, h48, hn⟩
      · replace hres : Aside _ := (show Aside _ from hres)
        clear hway hr1 hr2 hr3 hbig hvf
        go_wp2_with (go_at_call 32; refine (rdigit_any _ _).mono ?_; rw [hd]; rintro e w' ⟨rfl, rfl⟩)
        exact bodyPost_ret (v := .tuple #[tokV 0 ⟨#[]⟩ 0 0, .int .i64 (i : Int), .int .i64 30]) (by simp [results, Tryd.results34, go_sem, tokV]) rfl (NextPost.bad hres.out (by omega) (by omega) (hb _))
      all_goals
        replace hn : Aside _ := (show Aside _ from hn)
        clear hway hr1
        go_wp2_with (go_at_call 32; refine (rdigit_any _ _).mono ?_; rw [hd]; rintro e w' ⟨rfl, rfl⟩)
        go_loop [8, 9] (fun n a => ∃ k : Nat, i ≤ k ∧ k ≤ m ∧ a = .int .i64 k ∧ n = .int .u64 (valAt s i k : Nat) ∧ valAt s i k ≤ 11529215046068469769) (fun n a => s.size - (intOf a).toNat)
        case atStart => exact ⟨i, Nat.le_refl _, by omega, rfl, by rw [valAt_zero]; rfl, by rw [valAt_zero]; omega⟩
        case round =>
          obtain ⟨k, hik, hkm, rfl, rfl, hvb⟩ := hrel
          by_cases hk : k < m
          · have hks : k < s.size := by omega
            by_cases hbg : 1152921504606846976 < valAt s i k
            · have hres : Aside (res = Lx.R.bad 0 3) := hr2.out hn.out (hbig.out k hik (by have := hE.out; omega) hbg)
              clear hr2 hr3 hbig hvf hn hE
              generalize valAt s i k = v at *
              go_wp2
              exact bodyPost_ret (v := .tuple #[tokV 0 ⟨#[]⟩ 0 0, .int .i64 (i : Int), .int .i64 3]) (by simp [results, Tryd.results34, go_sem, tokV]) rfl (NextPost.bad hres.out (by omega) (by omega) (hb _))
            · obtain ⟨d1, d2⟩ := digit_iff (run_at (s := s) (p := Lx.isDigit) hik (by have := hE.out; omega) hks)
              have hst : Aside (valAt s i (k + 1) = _) := valAt_step s i k hik hks
              clear hr2 hr3 hbig hvf hn hE
              generalize valAt s i k = v at *
              have d3 : 48 ≤ (s[k].toNat : Int) := by omega
              have d4 : (s[k].toNat : Int) ≤ 57 := by omega
              have d5 : (v : Int) ≤ 1152921504606846976 := by omega
              clear hvb hbg d1 d2
              go_wp2
              go_round
              case rel => exact ⟨k + 1, by omega, by omega, by go_num, congrArg (Value.int .u64) (by rw [hst.out]; omega), by rw [hst.out]; omega⟩
              case measure => simp [intOf]; omega
          · have hke : k = m := by omega
            subst hke
            have hvv : Aside (valAt s i k = V) := by show _ = _; have := hvf.out; rw [← hE.out] at this; exact this
            by_cases hbg : V ≤ 9223372036854775807
            · have hres : Aside (res = Lx.R.ok 2 ((s.data.toList.drop i).takeWhile Lx.isDigit) V (run s i Lx.isDigit)) := hr3.out hn.out hbg
              have hx : Aside (s.extract i k = ⟨((s.data.toList.drop i).takeWhile Lx.isDigit).toArray⟩) := by show _ = _; have := hxe.out; rw [← hE.out] at this; exact this
              have hrun : Aside (k = i + run s i Lx.isDigit) := hE
              clear hr2 hr3 hbig hvf hn hE hxe
              rw [hvv.out] at hvb ⊢
              clear hvv
              have hbI : (V : Int) ≤ 9223372036854775807 := by omega
              go_wp2
              exact bodyPost_ret (v := .tuple #[tokV 2 (s.extract i k) V i, .int .i64 (k : Int), .int .i64 0]) (by simp [results, Tryd.results34, go_sem, tokV]) rfl (NextPost.ok hres.out hx.out (by have := hrun.out; omega) (hb _))
            · have hres : Aside (res = Lx.R.bad 0 3) := hr2.out hn.out hbg
              clear hr2 hr3 hbig hvf hn hE
              rw [hvv.out] at hvb ⊢
              clear hvv
              have hbI : ¬ (V : Int) ≤ 9223372036854775807 := by omega
              go_wp2
              exact bodyPost_ret (v := .tuple #[tokV 0 ⟨#[]⟩ 0 0, .int .i64 (i : Int), .int .i64 3]) (by simp [results, Tryd.results34, go_sem, tokV]) rfl (NextPost.bad hres.out (by omega) (by omega) (hb _))
end Go.Proofs.YtjolbladokgpbaaDoor
