/- The document's Skip: where blanks and notes from a place on end. -/
import Derived.Test.YtjolbladokgpbaaDoorWords
namespace Go.Proofs.YtjolbladokgpbaaDoor
open Go.RowKit
set_option linter.unusedSimpArgs false
set_option linter.unusedVariables false

/-- How many bytes of a note, and of blanks and notes behind it, stand from place i on. -/
def noteGap (s : ByteArray) (i : Nat) : Nat := Lx.skipF true (s.data.toList.drop i)
theorem gap_blank (s : ByteArray) (i : Nat) (h : i < s.size) (hb : Lx.isBlank s[i] = true) : gap s i = 1 + gap s (i + 1) := by
  unfold gap; rw [drop_at s i h, Lx.skipF, if_pos hb]
theorem gap_hash (s : ByteArray) (i : Nat) (h : i < s.size) (hb : Lx.isBlank s[i] = false) (hh : s[i] = 35) : gap s i = noteGap s i := by
  unfold gap noteGap; rw [drop_at s i h, hh]
  simp [Lx.skipF, Lx.isBlank]
theorem noteGap_step (s : ByteArray) (i : Nat) (h : i < s.size) (hh : ¬ s[i] = 10) : noteGap s i = 1 + noteGap s (i + 1) := by
  unfold noteGap; rw [drop_at s i h, Lx.skipF, if_neg hh]
theorem noteGap_lf (s : ByteArray) (i : Nat) (h : i < s.size) (hh : s[i] = 10) : noteGap s i = gap s i := by
  unfold gap noteGap; rw [drop_at s i h, hh]
  simp [Lx.skipF, Lx.isBlank]
theorem noteGap_end (s : ByteArray) : noteGap s s.size = 0 ∧ gap s s.size = 0 := by
  unfold gap noteGap; rw [drop_end]; exact ⟨rfl, rfl⟩
theorem byte_ne {c : UInt8} {n : Nat} (hn : n < 256) (h : ¬ c = UInt8.ofNat n) : ¬ (c.toNat : Int) = n := fun e => h (byte_eq hn e)

set_option maxHeartbeats 2000000 in
theorem rskip_any (s : ByteArray) (i : Nat) (w : World) (hs : s.size ≤ maxLen) (hi : i ≤ s.size) :
    Calls Tryd.prog 19 #[.string s, .int .i64 i] w fun e w' => e = .returned (.int .i64 ((i + gap s i : Nat) : Int)) ∧ w' = w := by
  unfold maxLen at hs
  obtain ⟨z, hz⟩ : ∃ z, Aside (z = i + gap s i) := ⟨_, rfl⟩
  rw [← hz.out]
  go_enter Tryd.func19, Tryd.ntmps19
  go_wp2_with fail
  go_loop [1] (fun a => ∃ k : Nat, k ≤ s.size ∧ a = .int .i64 k ∧ Aside (z = k + gap s k)) (fun a => s.size - (intOf a).toNat)
  case atStart => exact ⟨i, hi, rfl, hz⟩
  case round =>
    clear hz
    obtain ⟨k, hk, rfl, hz⟩ := hrel
    by_cases hlt : k < s.size
    · rcases hb : Lx.isBlank s[k] with _ | _
      · by_cases hh : s[k] = 35
        · have hne : ((s[k].toNat : Int) != 35) = false := by rw [hh]; rfl
          have hz2 : Aside (z = k + noteGap s k) := by show _ = _; rw [hz.out, gap_hash s k hlt hb hh]
          have h10 : Aside (¬ s[k] = 10) := by show ¬ _; rw [hh]; decide
          clear hz hh
          go_wp2_with (go_at_call 33; refine (rblank_any _ _).mono ?_; rw [hb]; rintro e w' ⟨rfl, rfl⟩)
          clear hne hb
          go_loop [1] (fun a => ∃ m : Nat, k ≤ m ∧ m ≤ s.size ∧ a = .int .i64 m ∧ Aside (z = m + noteGap s m ∧ (m = k → ¬ s[k] = 10))) (fun a => s.size - (intOf a).toNat)
          case atStart => exact ⟨k, Nat.le_refl _, hk, rfl, hz2.out, fun _ => h10.out⟩
          case round =>
            obtain ⟨m, hkm, hm, rfl, hy⟩ := hrel
            clear hz2
            by_cases hlt2 : m < s.size
            · by_cases h2 : s[m] = 10
              · have hne : ((s[m].toNat : Int) != 10) = false := by rw [h2]; rfl
                have hz3 : Aside (z = m + gap s m) := by show _ = _; rw [hy.out.1, noteGap_lf s m hlt2 h2]
                have hmk : k < m := by
                  rcases Nat.lt_or_ge k m with h | h
                  · exact h
                  · exfalso
                    have e : m = k := by omega
                    subst e
                    exact h10.out h2
                clear hy h2
                go_wp2
                go_round
                case rel => exact ⟨m, hm, rfl, hz3⟩
                case measure => simp [intOf]; omega
              · have hne : ((s[m].toNat : Int) != 10) = true := by
                  have := byte_ne (n := 10) (by decide) h2
                  simp; exact this
                have hz3 : Aside (z = (m + 1) + noteGap s (m + 1)) := by show _ = _; rw [hy.out.1, noteGap_step s m hlt2 h2]; omega
                clear hy h2
                go_wp2
                go_round
                case rel => exact ⟨m + 1, by omega, by omega, by go_num, hz3.out, fun e => by omega⟩
                case measure => simp [intOf]; omega
            · have e : m = s.size := by omega
              have hz3 : Aside (z = m + gap s m) := by
                show _ = _
                rw [hy.out.1]
                subst e
                rw [(noteGap_end s).1, (noteGap_end s).2]
              have hmk : k < m := by omega
              clear hy
              go_wp2
              go_round
              case rel => exact ⟨m, hm, rfl, hz3⟩
              case measure => simp [intOf]; omega
        · have hne : ((s[k].toNat : Int) != 35) = true := by
            have := byte_ne (n := 35) (by decide) hh
            simp; exact this
          have hz2 : Aside (z = k) := by show _ = _; rw [hz.out, gap_none s k hlt hb hh]; rfl
          clear hz hh
          go_wp2_with (go_at_call 33; refine (rblank_any _ _).mono ?_; rw [hb]; rintro e w' ⟨rfl, rfl⟩)
          go_ret
          exact ⟨ret_int (by have := hz2.out; omega), rfl⟩
      · have hz2 : Aside (z = (k + 1) + gap s (k + 1)) := by show _ = _; rw [hz.out, gap_blank s k hlt hb]; omega
        clear hz
        go_wp2_with (go_at_call 33; refine (rblank_any _ _).mono ?_; rw [hb]; rintro e w' ⟨rfl, rfl⟩)
        go_round
        case rel => exact ⟨k + 1, by omega, by go_num, hz2⟩
        case measure => simp [intOf]; omega
    · have e : k = s.size := by omega
      have hz2 : Aside (z = k) := by show _ = _; rw [hz.out]; subst e; rw [(noteGap_end s).2]; rfl
      clear hz
      go_wp2
      go_ret
      exact ⟨ret_int (by have := hz2.out; omega), rfl⟩
end Go.Proofs.YtjolbladokgpbaaDoor
