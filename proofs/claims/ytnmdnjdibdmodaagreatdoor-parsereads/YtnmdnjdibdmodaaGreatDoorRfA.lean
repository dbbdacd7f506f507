import Derived.Test.YtnmdnjdibdmodaaGreatDoorWords
import Derived.Test.YtnmdnjdibdmodaaGreatDoorQuote
import Derived.Test.YtnmdnjdibdmodaaGreatDoorCutsWalk
import Derived.Test.YtnmdnjdibdmodaaGreatDoorSame
import Derived.Test.YtnmdnjdibdmodaaGreatDoorPx
import Derived.Test.YtnmdnjdibdmodaaGreatDoorRep
import Derived.Deep.QuietTactic
import Derived.BigQuiet
import Derived.Deep.RegionWith
import Derived.Deep.LoopGhost
import Derived.Test.YtnmdnjdibdmodaaGreatDoorName
import Derived.Deep.Cut
import Derived.Deep.CutRange
/- The document's Skip: where blanks and notes from a place on end. -/
namespace Go.Proofs.YtnmdnjdibdmodaaGreatDoor
open Go.RowKit
set_option linter.unusedSimpArgs false
set_option linter.unusedVariables false

/-- How many bytes of a note, and of blanks and notes behind it, stand from place i on. -/
def noteGap (s : ByteArray) (i : Nat) : Nat := Lx.skipF true (s.data.toList.drop i)
theorem gap_blank (s : ByteArray) (i : Nat) (h : i < s.size) (hb : Lx.isBlank s[i] = true) : gap s i = 1 + gap s (i + 1) := by
  unfold gap; rw [drop_at s i h, Lx.skipF, if_pos hb]
theorem gap_hash (s : ByteArray) (i : Nat) (h : i < s.size) (hb : Lx.isBlank s[i] = false) (hh : s[i] = 35) : gap s i = noteGap s i := by
  unfold gap noteGap; rw [drop_at s i h, hh]
  simp [Lx.skipF, Lx.isBlank]
theorem noteGap_step (s : ByteArray) (i : Nat) (h : i < s.size) (hh : ¬ s[i] = 10) : noteGap s i = 1 + noteGap s (i + 1) := by
  unfold noteGap; rw [drop_at s i h, Lx.skipF, if_neg hh]
theorem noteGap_lf (s : ByteArray) (i : Nat) (h : i < s.size) (hh : s[i] = 10) : noteGap s i = gap s i := by
  unfold gap noteGap; rw [drop_at s i h, hh]
  simp [Lx.skipF, Lx.isBlank]
theorem noteGap_end (s : ByteArray) : noteGap s s.size = 0 ∧ gap s s.size = 0 := by
  unfold gap noteGap; rw [drop_end]; exact ⟨rfl, rfl⟩
theorem byte_ne {c : UInt8} {n : Nat} (hn : n < 256) (h : ¬ c = UInt8.ofNat n) : ¬ (c.toNat : Int) = n := fun e => h (byte_eq hn e)

set_option maxHeartbeats 2000000 in
theorem rskip_any (s : ByteArray) (i : Nat) (w : World) (hs : s.size ≤ maxLen) (hi : i ≤ s.size) :
    Calls Tryz.prog 36 #[.string s, .int .i64 i] w fun e w' => e = .returned (.int .i64 ((i + gap s i : Nat) : Int)) ∧ w' = w := by
  unfold maxLen at hs
  obtain ⟨z, hz⟩ : ∃ z, Aside (z = i + gap s i) := ⟨_, rfl⟩
  rw [← hz.out]
  go_enter Tryz.func36, Tryz.ntmps36
  go_wp2_with fail
  go_loop [1] (fun a => ∃ k : Nat, k ≤ s.size ∧ a = .int .i64 k ∧ Aside (z = k + gap s k)) (fun a => s.size - (intOf a).toNat)
  case atStart => exact ⟨i, hi, rfl, hz⟩
  case round =>
    clear hz
    obtain ⟨k, hk, rfl, hz⟩ := hrel
    by_cases hlt : k < s.size
    · rcases hb : Lx.isBlank s[k] with _ | _
      · by_cases hh : s[k] = 35
        · have hne : ((s[k].toNat : Int) != 35) = false := by rw [hh]; rfl
          have hz2 : Aside (z = k + noteGap s k) := by show _ = _; rw [hz.out, gap_hash s k hlt hb hh]
          have h10 : Aside (¬ s[k] = 10) := by show ¬ _; rw [hh]; decide
          clear hz hh
          go_wp2_with (go_at_call 54; refine (rblank_any _ _).mono ?_; rw [hb]; rintro e w' ⟨rfl, rfl⟩)
          clear hne hb
          go_loop [1] (fun a => ∃ m : Nat, k ≤ m ∧ m ≤ s.size ∧ a = .int .i64 m ∧ Aside (z = m + noteGap s m ∧ (m = k → ¬ s[k] = 10))) (fun a => s.size - (intOf a).toNat)
          case atStart => exact ⟨k, Nat.le_refl _, hk, rfl, hz2.out, fun _ => h10.out⟩
          case round =>
            obtain ⟨m, hkm, hm, rfl, hy⟩ := hrel
            clear hz2
            by_cases hlt2 : m < s.size
            · by_cases h2 : s[m] = 10
              · have hne : ((s[m].toNat : Int) != 10) = false := by rw [h2]; rfl
                have hz3 : Aside (z = m + gap s m) := by show _ = _; rw [hy.out.1, noteGap_lf s m hlt2 h2]
                have hmk : k < m := by
                  rcases Nat.lt_or_ge k m with h | h
                  · exact h
                  · exfalso
                    have e : m = k := by omega
                    subst e
                    exact h10.out h2
                clear hy h2
                go_wp2
                go_round
                case rel => exact ⟨m, hm, rfl, hz3⟩
                case measure => simp [intOf]; omega
              · have hne : ((s[m].toNat : Int) != 10) = true := by
                  have := byte_ne (n := 10) (by decide) h2
                  simp; exact this
                have hz3 : Aside (z = (m + 1) + noteGap s (m + 1)) := by show _ = _; rw [hy.out.1, noteGap_step s m hlt2 h2]; omega
                clear hy h2
                go_wp2
                go_round
                case rel => exact ⟨m + 1, by omega, by omega, by go_num, hz3.out, fun e => by omega⟩
                case measure => simp [intOf]; omega
            · have e : m = s.size := by omega
              have hz3 : Aside (z = m + gap s m) := by
                show _ = _
                rw [hy.out.1]
                subst e
                rw [(noteGap_end s).1, (noteGap_end s).2]
              have hmk : k < m := by omega
              clear hy
              go_wp2
              go_round
              case rel => exact ⟨m, hm, rfl, hz3⟩
              case measure => simp [intOf]; omega
        · have hne : ((s[k].toNat : Int) != 35) = true := by
            have := byte_ne (n := 35) (by decide) hh
            simp; exact this
          have hz2 : Aside (z = k) := by show _ = _; rw [hz.out, gap_none s k hlt hb hh]; rfl
          clear hz hh
          go_wp2_with (go_at_call 54; refine (rblank_any _ _).mono ?_; rw [hb]; rintro e w' ⟨rfl, rfl⟩)
          go_ret
          exact ⟨ret_int (by have := hz2.out; omega), rfl⟩
      · have hz2 : Aside (z = (k + 1) + gap s (k + 1)) := by show _ = _; rw [hz.out, gap_blank s k hlt hb]; omega
        clear hz
        go_wp2_with (go_at_call 54; refine (rblank_any _ _).mono ?_; rw [hb]; rintro e w' ⟨rfl, rfl⟩)
        go_round
        case rel => exact ⟨k + 1, by omega, by go_num, hz2⟩
        case measure => simp [intOf]; omega
    · have e : k = s.size := by omega
      have hz2 : Aside (z = k) := by show _ = _; rw [hz.out]; subst e; rw [(noteGap_end s).2]; rfl
      clear hz
      go_wp2
      go_ret
      exact ⟨ret_int (by have := hz2.out; omega), rfl⟩
end Go.Proofs.YtnmdnjdibdmodaaGreatDoor
/- The document's marks. -/
namespace Go.Proofs.YtnmdnjdibdmodaaGreatDoor
open Go.RowKit
set_option linter.unusedSimpArgs false
set_option linter.unusedVariables false

/-- What the document's reading of one token at place i answers: the token and where it ends; or no token, a fault's place and an error. -/
def NextV (res : Lx.R) (i : Nat) : Value :=
  match res with
  | .inl (k, t, m, n) => .tuple #[tokV k ⟨t.toArray⟩ m i, .int .i64 ((i + n : Nat) : Int), .int .i64 0]
  | .inr (o, er) => .tuple #[tokV 0 ⟨#[]⟩ 0 0, .int .i64 ((i + o : Nat) : Int), .int .i64 er]
def NextPost (res : Lx.R) (i : Nat) (w : World) (e : Ending) (w' : World) : Prop := e = .returned (NextV res i) ∧ Below w.heap.size w w'

theorem NextPost.ok {res : Lx.R} {k : Nat} {t : List UInt8} {m n i : Nat} {w w' : World} {ta : ByteArray} {z : Int} (h : res = Lx.R.ok k t m n) (ht : ta = ⟨t.toArray⟩) (hz : z = ((i + n : Nat) : Int)) (hb : Below w.heap.size w w') :
    NextPost res i w (.returned (.tuple #[tokV k ta m i, .int .i64 z, .int .i64 0])) w' := by
  subst h; subst ht; subst hz; exact ⟨rfl, hb⟩
theorem NextPost.bad {res : Lx.R} {o er i : Nat} {w w' : World} {z y : Int} (h : res = Lx.R.bad o er) (hz : z = ((i + o : Nat) : Int)) (hy : y = (er : Int)) (hb : Below w.heap.size w w') :
    NextPost res i w (.returned (.tuple #[tokV 0 ⟨#[]⟩ 0 0, .int .i64 z, .int .i64 y])) w' := by
  subst h; subst hz; subst hy; exact ⟨rfl, hb⟩
theorem pair_list (s : ByteArray) (i : Nat) (hs : i + 1 < s.size) : (s.extract i (i + 2)).toList = [s[i], s[i + 1]] := by
  rw [ByteArray.toList_eq, ext_list, List.drop_take, drop_at s i (by omega), drop_at s (i + 1) hs]
  simp
theorem two_at (s : ByteArray) (i : Nat) (hs : i + 1 < s.size) : Lx.two (s.data.toList.drop i) = ((s[i + 1] == 61 && (s[i] == 61 || s[i] == 33 || s[i] == 60 || s[i] == 62)) || (s[i] == 38 && s[i + 1] == 38) || (s[i] == 124 && s[i + 1] == 124)) := by
  rw [drop_at s i (by omega), drop_at s (i + 1) hs]; rfl
theorem two_end (s : ByteArray) (i : Nat) (hi : i < s.size) (hs : ¬ i + 1 < s.size) : Lx.two (s.data.toList.drop i) = false := by
  rw [drop_at s i hi, List.drop_eq_nil_of_le (by simp; omega)]; rfl
theorem take_ext (s : ByteArray) (i n : Nat) : s.extract i (i + n) = ⟨((s.data.toList.drop i).take n).toArray⟩ := bytes_same (by rw [ext_list, List.drop_take]; simp)

set_option maxHeartbeats 4000000 in
theorem rmark_two (s : ByteArray) (i : Nat) (w : World) (hs : i + 1 < s.size) (hm : s.size ≤ 16384) (h : Lx.two (s.data.toList.drop i) = true) :
    Calls Tryz.prog 59 #[.string s, .int .i64 i] w fun e w' => NextPost (Lx.markR true (s.data.toList.drop i)) i w e w' := by
  have hres : Aside (Lx.markR true (s.data.toList.drop i) = Lx.R.ok 4 ((s.data.toList.drop i).take 2) 0 2) := by
    show _ = _
    unfold Lx.markR Lx.markN
    rw [h]; rfl
  have hte : Aside (s.extract i (i + 2) = _) := take_ext s i 2
  have hl := pair_list s i hs
  rw [two_at s i hs] at h
  simp only [Bool.or_eq_true, Bool.and_eq_true, beq_iff_eq] at h
  have hb : ∀ o, Below w.heap.size w (w.alloc o) := fun o => (Below.refl _ _).alloc (Nat.le_refl _) _
  have hle : i + 2 ≤ s.size := by omega
  rcases h with (⟨h1, ((h0 | h0) | h0) | h0⟩ | ⟨h0, h1⟩) | ⟨h0, h1⟩
  all_goals
    rw [h0, h1] at hl
    clear h0 h1
    go_enter Tryz.func59, Tryz.ntmps59
    go_wp2
    exact bodyPost_ret (v := .tuple #[tokV 4 (s.extract i (i + 2)) 0 i, .int .i64 ((i : Int) + 2), .int .i64 0]) (by simp [results, Tryz.results59, go_sem, tokV]) rfl (NextPost.ok hres.out hte.out (by omega) (hb _))

theorem one_iff (c : UInt8) : Lx.one true c = (((c.toNat : Int) == 40) || (((c.toNat : Int) == 41) || (((c.toNat : Int) == 123) || (((c.toNat : Int) == 125) || (((c.toNat : Int) == 91) || (((c.toNat : Int) == 93) || (((c.toNat : Int) == 58) || (((c.toNat : Int) == 59) || (((c.toNat : Int) == 44) || (((c.toNat : Int) == 61) || (((c.toNat : Int) == 60) || (((c.toNat : Int) == 62) || (((c.toNat : Int) == 43) || (((c.toNat : Int) == 45) || (((c.toNat : Int) == 42) || (((c.toNat : Int) == 47) || (((c.toNat : Int) == 37) || (((c.toNat : Int) == 33) || ((c.toNat : Int) == 46))))))))))))))))))) := by
  rw [Bool.eq_iff_iff]
  simp [Lx.one, Lx.ones, ← UInt8.toNat_inj]
  omega

set_option maxHeartbeats 8000000 in
theorem rmark_one (s : ByteArray) (i : Nat) (w : World) (hs : i < s.size) (hm : s.size ≤ 16384) (h : Lx.two (s.data.toList.drop i) = false) :
    Calls Tryz.prog 59 #[.string s, .int .i64 i] w fun e w' => NextPost (Lx.markR true (s.data.toList.drop i)) i w e w' := by
  have hyes : Aside (Lx.one true s[i] = true → Lx.markR true (s.data.toList.drop i) = Lx.R.ok 4 ((s.data.toList.drop i).take 1) 0 1) := by
    intro h1
    unfold Lx.markR Lx.markN
    rw [h, drop_at s i hs]
    simp only [h1, if_true]; rfl
  have hno : Aside (Lx.one true s[i] = false → Lx.markR true (s.data.toList.drop i) = Lx.R.bad 0 30) := by
    intro h1
    unfold Lx.markR Lx.markN
    rw [h, drop_at s i hs]
    simp only [h1]; rfl
  have hone : Aside (Lx.one true s[i] = _) := one_iff s[i]
  have hte : Aside (s.extract i (i + 1) = _) := take_ext s i 1
  have hb : ∀ o, Below w.heap.size w (w.alloc o) := fun o => (Below.refl _ _).alloc (Nat.le_refl _) _
  by_cases h2 : i + 1 < s.size
  · have hl := pair_list s i h2
    rw [two_at s i h2] at h
    simp only [Bool.or_eq_false_iff, Bool.and_eq_false_iff, beq_eq_false_iff_ne] at h
    have k1 : ((s.extract i (i + 2)).toList == [61, 61]) = false := by rw [hl]; apply bytes_two; rintro ⟨a, b⟩; simp_all
    have k2 : ((s.extract i (i + 2)).toList == [33, 61]) = false := by rw [hl]; apply bytes_two; rintro ⟨a, b⟩; simp_all
    have k3 : ((s.extract i (i + 2)).toList == [60, 61]) = false := by rw [hl]; apply bytes_two; rintro ⟨a, b⟩; simp_all
    have k4 : ((s.extract i (i + 2)).toList == [62, 61]) = false := by rw [hl]; apply bytes_two; rintro ⟨a, b⟩; simp_all
    have k5 : ((s.extract i (i + 2)).toList == [38, 38]) = false := by rw [hl]; apply bytes_two; rintro ⟨a, b⟩; simp_all
    have k6 : ((s.extract i (i + 2)).toList == [124, 124]) = false := by rw [hl]; apply bytes_two; rintro ⟨a, b⟩; simp_all
    clear h hl
    go_enter Tryz.func59, Tryz.ntmps59
    go_wp2
    all_goals
      rename_i hy
      first
      | (have h1 : Lx.one true s[i] = true := by rw [hone.out]; simp only [hy, Bool.true_or, Bool.or_true]
         exact bodyPost_ret (v := .tuple #[tokV 4 (s.extract i (i + 1)) 0 i, .int .i64 ((i : Int) + 1), .int .i64 0]) (by simp [results, Tryz.results59, go_sem, tokV]) rfl (NextPost.ok (hyes.out h1) hte.out (by omega) (hb _)))
      | (have h1 : Lx.one true s[i] = false := by rw [hone.out]; simp only [*, Bool.false_or]
         exact bodyPost_ret (v := .tuple #[tokV 0 ⟨#[]⟩ 0 0, .int .i64 (i : Int), .int .i64 30]) (by simp [results, Tryz.results59, go_sem, tokV]) rfl (NextPost.bad (hno.out h1) (by omega) (by omega) (hb _)))
  · go_enter Tryz.func59, Tryz.ntmps59
    go_wp2
    all_goals
      rename_i hy
      first
      | (have h1 : Lx.one true s[i] = true := by rw [hone.out]; simp only [hy, Bool.true_or, Bool.or_true]
         exact bodyPost_ret (v := .tuple #[tokV 4 (s.extract i (i + 1)) 0 i, .int .i64 ((i : Int) + 1), .int .i64 0]) (by simp [results, Tryz.results59, go_sem, tokV]) rfl (NextPost.ok (hyes.out h1) hte.out (by omega) (hb _)))
      | (have h1 : Lx.one true s[i] = false := by rw [hone.out]; simp only [*, Bool.false_or]
         exact bodyPost_ret (v := .tuple #[tokV 0 ⟨#[]⟩ 0 0, .int .i64 (i : Int), .int .i64 30]) (by simp [results, Tryz.results59, go_sem, tokV]) rfl (NextPost.bad (hno.out h1) (by omega) (by omega) (hb _)))

theorem rmark_any (s : ByteArray) (i : Nat) (w : World) (hi : i < s.size) (hm : s.size ≤ 16384) :
    Calls Tryz.prog 59 #[.string s, .int .i64 i] w fun e w' => NextPost (Lx.markR true (s.data.toList.drop i)) i w e w' := by
  rcases h : Lx.two (s.data.toList.drop i) with _ | _
  · exact rmark_one s i w hi hm h
  · by_cases h2 : i + 1 < s.size
    · exact rmark_two s i w h2 hm h
    · rw [two_end s i hi h2] at h; simp at h
end Go.Proofs.YtnmdnjdibdmodaaGreatDoor
/- The document's numbers. -/
namespace Go.Proofs.YtnmdnjdibdmodaaGreatDoor
open Go.RowKit
set_option linter.unusedSimpArgs false
set_option linter.unusedVariables false

theorem val_big : ∀ (t : List UInt8) (acc : Nat), t ≠ [] → 1152921504606846976 < acc → 9223372036854775807 < valF acc t
  | [], acc, h, _ => absurd rfl h
  | c :: r, acc, _, h => by
    have hg := valF_ge r (acc * 10 + (c.toNat - 48))
    have hv : valF acc (c :: r) = valF (acc * 10 + (c.toNat - 48)) r := rfl
    rw [hv]; omega
theorem valF_app (a b : List UInt8) (acc : Nat) : valF acc (a ++ b) = valF (valF acc a) b := by unfold valF; rw [List.foldl_append]

/- Places that a loop over bytes of a kind comes to. -/
theorem run_step {s : ByteArray} {i m : Nat} {p : UInt8 → Bool} (h0 : i ≤ m) (h1 : m ≤ i + run s i p) (hlt : m < s.size) (hp : p s[m] = true) : m + 1 ≤ i + run s i p := by
  have h := Lx.tw_step (l := s.data.toList.drop i) (k := m - i) (p := p) (by unfold run at h1; omega) (by simp; omega) (by
    rw [List.getElem_drop]
    have e : s.data.toList[i + (m - i)]'(by simp; omega) = s[m] := by
      have : i + (m - i) = m := by omega
      simp only [this]; rfl
    rw [e]; exact hp)
  unfold run; omega
theorem run_stop {s : ByteArray} {i m : Nat} {p : UInt8 → Bool} (h0 : i ≤ m) (h1 : m ≤ i + run s i p) (hlt : m < s.size) (hp : p s[m] = false) : m = i + run s i p := by
  have h := Lx.tw_stop (l := s.data.toList.drop i) (k := m - i) (p := p) (by unfold run at h1; omega) (by simp; omega) (by
    rw [List.getElem_drop]
    have e : s.data.toList[i + (m - i)]'(by simp; omega) = s[m] := by
      have : i + (m - i) = m := by omega
      simp only [this]; rfl
    rw [e]; exact hp)
  unfold run; omega
theorem run_fin {s : ByteArray} {i m : Nat} {p : UInt8 → Bool} (hi : i ≤ s.size) (h1 : m ≤ i + run s i p) (hlt : ¬ m < s.size) : m = i + run s i p := by
  have := run_le s i p hi
  omega
theorem run_at {s : ByteArray} {i m : Nat} {p : UInt8 → Bool} (h0 : i ≤ m) (h1 : m < i + run s i p) (hlt : m < s.size) : p s[m] = true := by
  rcases h : p s[m] with _ | _
  · have := run_stop h0 (by omega) hlt h
    omega
  · rfl

/-- The value of the digits from place i up to place k. -/
def valAt (s : ByteArray) (i k : Nat) : Nat := valF 0 ((s.data.toList.drop i).take (k - i))
theorem valAt_zero (s : ByteArray) (i : Nat) : valAt s i i = 0 := by unfold valAt; rw [Nat.sub_self]; rfl
theorem valAt_step (s : ByteArray) (i k : Nat) (h0 : i ≤ k) (hk : k < s.size) : valAt s i (k + 1) = valAt s i k * 10 + (s[k].toNat - 48) := by
  unfold valAt
  have e : (s.data.toList.drop i).take (k + 1 - i) = (s.data.toList.drop i).take (k - i) ++ [s[k]] := by
    rw [show k + 1 - i = (k - i) + 1 by omega, List.take_succ_eq_append_getElem (by simp; omega), List.getElem_drop]
    congr 2
    have : i + (k - i) = k := by omega
    simp only [this]; rfl
  rw [e, valF_app]; rfl
theorem valAt_full (s : ByteArray) (i : Nat) : valAt s i (i + run s i Lx.isDigit) = Lx.value ((s.data.toList.drop i).takeWhile Lx.isDigit) := by
  unfold valAt
  rw [Nat.add_sub_cancel_left]
  show valF 0 _ = valF 0 _
  unfold run; rw [Lx.tw_take]
theorem valAt_big (s : ByteArray) (i k : Nat) (h0 : i ≤ k) (hk : k < i + run s i Lx.isDigit) (hb : 1152921504606846976 < valAt s i k) : ¬ Lx.value ((s.data.toList.drop i).takeWhile Lx.isDigit) ≤ 9223372036854775807 := by
  have e : (s.data.toList.drop i).takeWhile Lx.isDigit = ((s.data.toList.drop i).take (k - i)) ++ (((s.data.toList.drop i).takeWhile Lx.isDigit).drop (k - i)) := by
    have h1 := List.take_append_drop (k - i) ((s.data.toList.drop i).takeWhile Lx.isDigit)
    have h2 : ((s.data.toList.drop i).takeWhile Lx.isDigit).take (k - i) = (s.data.toList.drop i).take (k - i) := by
      conv => lhs; rw [← Lx.tw_take (p := Lx.isDigit) (s.data.toList.drop i)]
      rw [List.take_take]; congr 1; unfold run at hk; omega
    rw [h2] at h1; exact h1.symm
  have hv : Lx.value ((s.data.toList.drop i).takeWhile Lx.isDigit) = valF 0 ((s.data.toList.drop i).takeWhile Lx.isDigit) := rfl
  rw [hv, e, valF_app]
  have := val_big (((s.data.toList.drop i).takeWhile Lx.isDigit).drop (k - i)) (valF 0 ((s.data.toList.drop i).take (k - i))) (by
    intro hn
    have := congrArg List.length hn
    simp at this; unfold run at hk; omega) hb
  omega
theorem digit_iff {c : UInt8} (h : Lx.isDigit c = true) : 48 ≤ c.toNat ∧ c.toNat ≤ 57 := by
  simpa [Lx.isDigit, UInt8.le_iff_toNat_le] using h

set_option maxHeartbeats 8000000 in
theorem rnumber_any (s : ByteArray) (i : Nat) (w : World) (hi : i < s.size) (hm : s.size ≤ 16384) (hd0 : Lx.isDigit s[i] = true) :
    Calls Tryz.prog 57 #[.string s, .int .i64 i] w fun e w' => NextPost (Lx.numberR (s.data.toList.drop i)) i w e w' := by
  have hhead : ((s.data.toList.drop i).takeWhile Lx.isDigit).head? = some s[i] := by
    rw [drop_at s i hi, List.takeWhile_cons_of_pos hd0]; rfl
  have hc : (((s.data.toList.drop i).takeWhile Lx.isDigit).head? = some 48 ∧ 1 < ((s.data.toList.drop i).takeWhile Lx.isDigit).length) ↔ (s[i] = 48 ∧ 1 < run s i Lx.isDigit) := by
    rw [hhead]; simp [run]
  have hr1 : Aside (s[i] = 48 ∧ 1 < run s i Lx.isDigit → Lx.numberR (s.data.toList.drop i) = Lx.R.bad 0 30) := fun h => by unfold Lx.numberR; exact if_pos (hc.2 h)
  have hr2 : Aside (¬ (s[i] = 48 ∧ 1 < run s i Lx.isDigit) → ¬ Lx.value ((s.data.toList.drop i).takeWhile Lx.isDigit) ≤ 9223372036854775807 → Lx.numberR (s.data.toList.drop i) = Lx.R.bad 0 3) := fun h hv => by
    unfold Lx.numberR; rw [if_neg (fun a => h (hc.1 a)), if_neg hv]
  have hr3 : Aside (¬ (s[i] = 48 ∧ 1 < run s i Lx.isDigit) → Lx.value ((s.data.toList.drop i).takeWhile Lx.isDigit) ≤ 9223372036854775807 → Lx.numberR (s.data.toList.drop i) = Lx.R.ok 2 ((s.data.toList.drop i).takeWhile Lx.isDigit) (Lx.value ((s.data.toList.drop i).takeWhile Lx.isDigit)) (run s i Lx.isDigit)) := fun h hv => by
    unfold Lx.numberR; rw [if_neg (fun a => h (hc.1 a)), if_pos hv]; rfl
  have hvf : Aside (valAt s i (i + run s i Lx.isDigit) = _) := valAt_full s i
  have hbig : Aside (∀ k, i ≤ k → k < i + run s i Lx.isDigit → 1152921504606846976 < valAt s i k → ¬ Lx.value ((s.data.toList.drop i).takeWhile Lx.isDigit) ≤ 9223372036854775807) := valAt_big s i
  have hxe : Aside (s.extract i (i + run s i Lx.isDigit) = _) := ext_run s i Lx.isDigit
  have hrle := run_le s i Lx.isDigit (by omega)
  have hrpos := run_pos hi hd0
  have hb : ∀ o, Below w.heap.size w (w.alloc o) := fun o => (Below.refl _ _).alloc (Nat.le_refl _) _
  obtain ⟨E, hE⟩ : ∃ E, Aside (E = i + run s i Lx.isDigit) := ⟨_, rfl⟩
  have hEs : E ≤ s.size := by have := hE.out; omega
  have hEi : i + 1 ≤ E := by have := hE.out; omega
  clear hhead hc hrle hrpos
  generalize hV : Lx.value ((s.data.toList.drop i).takeWhile Lx.isDigit) = V at *
  generalize Lx.numberR (s.data.toList.drop i) = res at *
  clear hV
  go_enter Tryz.func57, Tryz.ntmps57
  go_wp2_with fail
  go_loop [7] (fun a => ∃ m : Nat, i ≤ m ∧ m ≤ E ∧ a = .int .i64 m) (fun a => s.size - (intOf a).toNat)
  case atStart => exact ⟨i, Nat.le_refl _, by omega, rfl⟩
  case round =>
    obtain ⟨m, him, hmE, rfl⟩ := hrel
    have hcase : Aside ((∃ h : m < s.size, Lx.isDigit s[m] = true ∧ m + 1 ≤ E) ∨ (∃ h : m < s.size, Lx.isDigit s[m] = false ∧ m = E) ∨ (¬ m < s.size ∧ m = E)) := by
      have he := hE.out
      subst he
      show _ ∨ _
      by_cases h : m < s.size
      · rcases hd : Lx.isDigit s[m] with _ | _
        · exact Or.inr (Or.inl ⟨h, hd, run_stop him hmE h hd⟩)
        · exact Or.inl ⟨h, hd, run_step him hmE h hd⟩
      · exact Or.inr (Or.inr ⟨h, run_fin (by omega) hmE h⟩)
    rcases hcase.out with ⟨hlt, hd, hnx⟩ | ⟨hlt, hd, hm2⟩ | ⟨hlt, hm2⟩
    · clear hcase
      go_wp2_with (go_at_call 56; refine (rdigit_any _ _).mono ?_; rw [hd]; rintro e w' ⟨rfl, rfl⟩)
      go_round
      case rel => exact ⟨m + 1, by omega, hnx, by go_num⟩
      case measure => simp [intOf]; omega
    all_goals
      clear hcase
      subst hm2
      have hway : Aside ((1 < (m : Int) - (i : Int) ∧ s[i] = 48 ∧ res = Lx.R.bad 0 30) ∨ (¬ 1 < (m : Int) - (i : Int) ∧ ¬ (s[i] = 48 ∧ 1 < run s i Lx.isDigit)) ∨ (1 < (m : Int) - (i : Int) ∧ ¬ (s[i].toNat : Int) = 48 ∧ ¬ (s[i] = 48 ∧ 1 < run s i Lx.isDigit))) := by
        show _ ∨ _
        have he := hE.out
        by_cases h1 : 1 < (m : Int) - (i : Int)
        · by_cases h48 : s[i] = 48
          · exact Or.inl ⟨h1, h48, hr1.out ⟨h48, by omega⟩⟩
          · exact Or.inr (Or.inr ⟨h1, byte_ne (n := 48) (by decide) h48, fun a => h48 a.1⟩)
        · exact Or.inr (Or.inl ⟨h1, fun a => h1 (by have := a.2; omega)⟩)
      rcases hway.out with ⟨hI, h48, hres⟩ | ⟨hI, hn⟩ | ⟨hI, h48, hn⟩
      · replace hres : Aside _ := (show Aside _ from hres)
        clear hway hr1 hr2 hr3 hbig hvf
        go_wp2_with (go_at_call 56; refine (rdigit_any _ _).mono ?_; rw [hd]; rintro e w' ⟨rfl, rfl⟩)
        exact bodyPost_ret (v := .tuple #[tokV 0 ⟨#[]⟩ 0 0, .int .i64 (i : Int), .int .i64 30]) (by simp [results, Tryz.results57, go_sem, tokV]) rfl (NextPost.bad hres.out (by omega) (by omega) (hb _))
      all_goals
        replace hn : Aside _ := (show Aside _ from hn)
        clear hway hr1
        go_wp2_with (go_at_call 56; refine (rdigit_any _ _).mono ?_; rw [hd]; rintro e w' ⟨rfl, rfl⟩)
        go_loop [8, 9] (fun n a => ∃ k : Nat, i ≤ k ∧ k ≤ m ∧ a = .int .i64 k ∧ n = .int .u64 (valAt s i k : Nat) ∧ valAt s i k ≤ 11529215046068469769) (fun n a => s.size - (intOf a).toNat)
        case atStart => exact ⟨i, Nat.le_refl _, by omega, rfl, by rw [valAt_zero]; rfl, by rw [valAt_zero]; omega⟩
        case round =>
          obtain ⟨k, hik, hkm, rfl, rfl, hvb⟩ := hrel
          by_cases hk : k < m
          · have hks : k < s.size := by omega
            by_cases hbg : 1152921504606846976 < valAt s i k
            · have hres : Aside (res = Lx.R.bad 0 3) := hr2.out hn.out (hbig.out k hik (by have := hE.out; omega) hbg)
              clear hr2 hr3 hbig hvf hn hE
              generalize valAt s i k = v at *
              go_wp2
              exact bodyPost_ret (v := .tuple #[tokV 0 ⟨#[]⟩ 0 0, .int .i64 (i : Int), .int .i64 3]) (by simp [results, Tryz.results57, go_sem, tokV]) rfl (NextPost.bad hres.out (by omega) (by omega) (hb _))
            · obtain ⟨d1, d2⟩ := digit_iff (run_at (s := s) (p := Lx.isDigit) hik (by have := hE.out; omega) hks)
              have hst : Aside (valAt s i (k + 1) = _) := valAt_step s i k hik hks
              clear hr2 hr3 hbig hvf hn hE
              generalize valAt s i k = v at *
              have d3 : 48 ≤ (s[k].toNat : Int) := by omega
              have d4 : (s[k].toNat : Int) ≤ 57 := by omega
              have d5 : (v : Int) ≤ 1152921504606846976 := by omega
              clear hvb hbg d1 d2
              go_wp2
              go_round
              case rel => exact ⟨k + 1, by omega, by omega, by go_num, congrArg (Value.int .u64) (by rw [hst.out]; omega), by rw [hst.out]; omega⟩
              case measure => simp [intOf]; omega
          · have hke : k = m := by omega
            subst hke
            have hvv : Aside (valAt s i k = V) := by show _ = _; have := hvf.out; rw [← hE.out] at this; exact this
            by_cases hbg : V ≤ 9223372036854775807
            · have hres : Aside (res = Lx.R.ok 2 ((s.data.toList.drop i).takeWhile Lx.isDigit) V (run s i Lx.isDigit)) := hr3.out hn.out hbg
              have hx : Aside (s.extract i k = ⟨((s.data.toList.drop i).takeWhile Lx.isDigit).toArray⟩) := by show _ = _; have := hxe.out; rw [← hE.out] at this; exact this
              have hrun : Aside (k = i + run s i Lx.isDigit) := hE
              clear hr2 hr3 hbig hvf hn hE hxe
              rw [hvv.out] at hvb ⊢
              clear hvv
              have hbI : (V : Int) ≤ 9223372036854775807 := by omega
              go_wp2
              exact bodyPost_ret (v := .tuple #[tokV 2 (s.extract i k) V i, .int .i64 (k : Int), .int .i64 0]) (by simp [results, Tryz.results57, go_sem, tokV]) rfl (NextPost.ok hres.out hx.out (by have := hrun.out; omega) (hb _))
            · have hres : Aside (res = Lx.R.bad 0 3) := hr2.out hn.out hbg
              clear hr2 hr3 hbig hvf hn hE
              rw [hvv.out] at hvb ⊢
              clear hvv
              have hbI : ¬ (V : Int) ≤ 9223372036854775807 := by omega
              go_wp2
              exact bodyPost_ret (v := .tuple #[tokV 0 ⟨#[]⟩ 0 0, .int .i64 (i : Int), .int .i64 3]) (by simp [results, Tryz.results57, go_sem, tokV]) rfl (NextPost.bad hres.out (by omega) (by omega) (hb _))
end Go.Proofs.YtnmdnjdibdmodaaGreatDoor
/- The document's texts between quotes. -/
namespace Go.Proofs.YtnmdnjdibdmodaaGreatDoor
open Go.RowKit
set_option linter.unusedSimpArgs false
set_option linter.unusedVariables false

theorem Slot.upto {r B : Nat} {w w' : World} (h : Slot r w) (m : Below B w w') (hB : r < B) : Slot r w' := h.below m hB
theorem below_set4r {B : Nat} {w w' : World} (m : Below B w w') {r : Nat} (hp : B ≤ r) (x0 x1 x2 x3 : Value) :
    Below B w ((((w'.setCell ⟨r, 0, none⟩ x0).setCell ⟨r, 1, none⟩ x1).setCell ⟨r, 2, none⟩ x2).setCell ⟨r, 3, none⟩ x3) :=
  (((m.setCell (p := ⟨r, 0, none⟩) hp x0).setCell (p := ⟨r, 1, none⟩) hp x1).setCell (p := ⟨r, 2, none⟩) hp x2).setCell (p := ⟨r, 3, none⟩) hp x3
def TRow (B : Nat) (v : Value) (l : List UInt8) (w : World) : Prop := w.ownsRow B 5 1 v l.length (Lib.byteCells l)
theorem text_of {w : World} {B : Nat} {v : Value} {l : List UInt8} (h : TRow B v l w) : ∃ ao cap, v = .slice ao l.length cap ∧ (convert 32 9 (.slice ao l.length cap)).run Tryz.prog w = .ok (.string ⟨l.toArray⟩) w := by
  rcases h.2 with ⟨hv, h0⟩ | ⟨g, cap, cur, hv, hg, hh, _, _, _, ht⟩
  · obtain rfl : l = [] := List.eq_nil_of_length_eq_zero h0
    refine ⟨none, 0, hv, ?_⟩
    rw [run_convert_bytes_string w 32 9 5 none _ 0 Tryz.underlying32 Tryz.underlying5 Tryz.underlying9]
    rfl
  · refine ⟨some ⟨g, 0, none⟩, cap, hv, ?_⟩
    refine run_convert_bytes_back (P := Tryz.prog) w 32 9 5 ⟨g, 0, none⟩ cap l Tryz.underlying32 Tryz.underlying5 Tryz.underlying9 ?_
    intro j hj
    have e : (⟨g, 0, none⟩ : Addr).add j = ⟨g, j, none⟩ := by unfold Addr.add; split <;> simp_all
    rw [e, Lib.cell_of_heap hh]
    have hk : (Lib.byteCells l)[j]? = some (.int .u8 (l[j].toNat : Int)) := by simp [Lib.byteCells, List.getElem?_eq_getElem hj]
    rw [← ht, List.getElem?_take] at hk
    split at hk
    · simpa using hk
    · simp at hk

/-- How the reading of a text goes on from place m. -/
theorem text_step {s : ByteArray} {m o : Nat} {acc : List UInt8} (h : m < s.size) : Lx.quoteR (s.data.toList.drop m) o acc =
    if s[m] = 34 then (if acc.length ≤ 256 then Lx.R.ok 3 acc 0 (o + 1) else Lx.R.bad 0 3)
    else if s[m] = 92 then (if h1 : m + 1 < s.size then (if Lx.isEsc s[m + 1] then Lx.quoteR (s.data.toList.drop (m + 2)) (o + 2) (acc ++ [s[m + 1]]) else Lx.R.bad o 30) else Lx.R.bad o 30)
    else if Lx.isPlain s[m] then Lx.quoteR (s.data.toList.drop (m + 1)) (o + 1) (acc ++ [s[m]]) else Lx.R.bad o 30 := by
  rw [drop_at s m h, quoteR_cons]
  by_cases h1 : m + 1 < s.size
  · rw [dif_pos h1, drop_at s (m + 1) h1]
  · rw [dif_neg h1, List.drop_eq_nil_of_le (by simp; omega)]
theorem text_end {s : ByteArray} {o : Nat} {acc : List UInt8} : Lx.quoteR (s.data.toList.drop s.size) o acc = Lx.R.bad 0 30 := by
  rw [drop_end]; rfl

set_option maxRecDepth 100000 in
set_option maxHeartbeats 8000000 in
theorem rtext_any (s : ByteArray) (i : Nat) (w : World) (hi : i < s.size) (hm : s.size ≤ 16384) :
    Calls Tryz.prog 58 #[.string s, .int .i64 i] w fun e w' => NextPost (Lx.quoteR (s.data.toList.drop (i + 1)) 1 []) i w e w' := by
  obtain ⟨i0, hi0, hz⟩ := Option.map_eq_some_iff.1 (show (Tryz.prog.info? 5).map (fun i => (i.zero, i.size, i.bytes)) = some (some (.int .u8 0), 1, 1) by kernel_rfl)
  simp only [Prod.mk.injEq] at hz
  obtain ⟨hz0, hz1, hz2⟩ := hz
  obtain ⟨res, hres⟩ : ∃ res, Aside (res = Lx.quoteR (s.data.toList.drop (i + 1)) 1 []) := ⟨_, rfl⟩
  rw [← hres.out]
  have hb0 : Below w.heap.size w (w.alloc slot0) := (Below.refl _ _).alloc (Nat.le_refl _) _
  have hs0 := Slot.new w
  go_enter Tryz.func58, Tryz.ntmps58
  go_wp2_with fail
  go_loopg [7, 8] (s.size - (i + 1)) (fun g v a wr => ∃ (m : Nat) (acc : List UInt8), i < m ∧ m ≤ s.size ∧ g = s.size - m ∧ a = .int .i64 m ∧ TRow (w.heap.size + 1) v acc wr ∧ Below w.heap.size w wr ∧ Slot w.heap.size wr ∧ acc.length ≤ m ∧ Aside (res = Lx.quoteR (s.data.toList.drop m) (m - i) acc))
  case atStart => exact ⟨i + 1, [], by omega, by omega, by omega, by go_num, ⟨rfl, Or.inl ⟨rfl, rfl⟩⟩, hb0, hs0, by simp, by show _ = _; rw [hres.out, show i + 1 - i = 1 by omega]⟩
  case round =>
    clear hres hb0 hs0
    obtain ⟨m, acc, him, hms, rfl, rfl, hr, hb, hsl, hal, hres⟩ := hrel
    obtain ⟨x0, x1, x2, x3, d0, d1, d2, d3, f0, f1, f2, f3⟩ := hsl.cells
    obtain ⟨ao, cap, rfl, hconv⟩ := text_of hr
    have hlt0 := hsl.lt
    by_cases hlt : m < s.size
    · have hst := text_step (s := s) (m := m) (o := m - i) (acc := acc) hlt
      rw [← hres.out] at hst
      clear hres
      by_cases h34 : s[m] = 34
      · rw [if_pos h34] at hst
        by_cases h256 : acc.length ≤ 256
        · rw [if_pos h256] at hst
          replace hst : Aside _ := (show Aside _ from hst)
          have hI : ¬ 256 < (acc.length : Int) := by omega
          clear hr
          go_wp2
          exact bodyPost_ret (v := .tuple #[tokV 3 ⟨acc.toArray⟩ 0 i, .int .i64 ((m : Int) + 1), .int .i64 0]) (by simp [results, Tryz.results58, go_sem, d0, d1, d2, d3, tokV]) rfl (NextPost.ok hst.out rfl (by omega) (below_set4r hb (Nat.le_refl _) _ _ _ _))
        · rw [if_neg h256] at hst
          replace hst : Aside _ := (show Aside _ from hst)
          have hI : 256 < (acc.length : Int) := by omega
          clear hr hconv
          go_wp2
          exact bodyPost_ret (v := .tuple #[tokV 0 ⟨#[]⟩ 0 0, .int .i64 (i : Int), .int .i64 3]) (by simp [results, Tryz.results58, go_sem, d0, d1, d2, d3, tokV]) rfl (NextPost.bad hst.out (by omega) (by omega) (below_set4r hb (Nat.le_refl _) _ _ _ _))
      · rw [if_neg h34] at hst
        have h34' : ¬ (s[m].toNat : Int) = 34 := byte_ne (n := 34) (by decide) h34
        clear h34 hconv
        by_cases h92 : s[m] = 92
        · rw [if_pos h92] at hst
          by_cases h1 : m + 1 < s.size
          · rw [dif_pos h1] at hst
            rcases he : Lx.isEsc s[m + 1] with _ | _
            · rw [he] at hst
              simp only [Bool.false_eq_true, if_false] at hst
              replace hst : Aside _ := (show Aside _ from hst)
              obtain ⟨k1, k2⟩ := esc_no he
              have k3 : ((s[m + 1].toNat : Int) != 34) = true := by simp only [bne, k1]; rfl
              have k4 : ((s[m + 1].toNat : Int) != 92) = true := by simp only [bne, k2]; rfl
              have hI : ¬ (s.size : Int) ≤ (m : Int) + 1 := by omega
              clear he hr k1 k2
              go_wp2
              exact bodyPost_ret (v := .tuple #[tokV 0 ⟨#[]⟩ 0 0, .int .i64 (m : Int), .int .i64 30]) (by simp [results, Tryz.results58, go_sem, d0, d1, d2, d3, tokV]) rfl (NextPost.bad hst.out (by omega) (by omega) (below_set4r hb (Nat.le_refl _) _ _ _ _))
            · rw [he] at hst
              simp only [if_true] at hst
              replace hst : Aside _ := (show Aside _ from hst)
              have hor : (((s[m + 1].toNat : Int) != 34) = false ∧ True) ∨ (((s[m + 1].toNat : Int) != 34) = true ∧ ((s[m + 1].toNat : Int) != 92) = false) := by
                rcases esc_yes he with h | h
                · exact Or.inl ⟨by simp only [bne, h]; rfl, trivial⟩
                · exact Or.inr ⟨by have : (s[m + 1].toNat : Int) = 92 := by simpa using h
                                   rw [this]; rfl, by simp only [bne, h]; rfl⟩
              have hI : ¬ (s.size : Int) ≤ (m : Int) + 1 := by omega
              clear he
              unfold TRow at hr
              rcases hor with ⟨k1, k2⟩ | ⟨k1, k2⟩
              all_goals
                go_wp2_with (at_builtin; refine wpList_append_own _ rfl _ _ 32 rfl (w.heap.size + 1) 5 i0 (.int .u8 0) 1 1 Tryz.underlying32 hi0 hz0 hz1 hz2 rfl (by decide) _ _ _ rfl (hr.alloc _) ⟨wr.heap.size, 0, none⟩ 1 1 [.int .u8 s[m + 1].toNat] rfl rfl ?c1 ?c2 ?c3 ?c4 ?c5 ?_)
                case c1 =>
                  intro j u hj
                  match j, hj with
                  | 0, hj => simp at hj; subst hj; simp [Addr.add]
                case c2 => intro u hu; simp at hu; subst hu; rfl
                case c3 => unfold maxLen; omega
                case c4 => omega
                case c5 => simp; omega
                intro v' w2 hr2 hg2 hnil
                clear hnil
                have hB2 : Below (w.heap.size + 1) wr w2 := ((Below.refl (w.heap.size + 1) wr).alloc hlt0 _).grown hg2 (by simp; omega) (fun x hx => (hr.lt x hx).1)
                replace hr2 : TRow (w.heap.size + 1) v' (acc ++ [s[m + 1]]) w2 := by
                  unfold TRow
                  rw [cells_snoc]
                  simpa using hr2
                have hb2 : Below w.heap.size w w2 := hb.trans (hB2.mono (by omega))
                have hsl2 : Slot w.heap.size w2 := hsl.upto hB2 (by omega)
                clear hg2 hB2 hr hb
                go_wp2_with fail
                go_roundg (s.size - (m + 2))
                case measure => omega
                case rel => exact ⟨m + 2, acc ++ [s[m + 1]], by omega, by omega, rfl, by go_num, hr2, hb2, hsl2, by simp; omega, by show _ = _; rw [hst.out, show m + 2 - i = m - i + 2 by omega]⟩
          · rw [dif_neg h1] at hst
            replace hst : Aside _ := (show Aside _ from hst)
            have hI : (s.size : Int) ≤ (m : Int) + 1 := by omega
            clear hr
            go_wp2
            exact bodyPost_ret (v := .tuple #[tokV 0 ⟨#[]⟩ 0 0, .int .i64 (m : Int), .int .i64 30]) (by simp [results, Tryz.results58, go_sem, d0, d1, d2, d3, tokV]) rfl (NextPost.bad hst.out (by omega) (by omega) (below_set4r hb (Nat.le_refl _) _ _ _ _))
        · rw [if_neg h92] at hst
          have h92' : ¬ (s[m].toNat : Int) = 92 := byte_ne (n := 92) (by decide) h92
          clear h92
          rcases hp : Lx.isPlain s[m] with _ | _
          · rw [hp] at hst
            simp only [Bool.false_eq_true, if_false] at hst
            replace hst : Aside _ := (show Aside _ from hst)
            have hq := not_plain.1 hp
            clear hp hr
            by_cases h1 : (s[m].toNat : Int) < 32
            · clear hq
              go_wp2
              exact bodyPost_ret (v := .tuple #[tokV 0 ⟨#[]⟩ 0 0, .int .i64 (m : Int), .int .i64 30]) (by simp [results, Tryz.results58, go_sem, d0, d1, d2, d3, tokV]) rfl (NextPost.bad hst.out (by omega) (by omega) (below_set4r hb (Nat.le_refl _) _ _ _ _))
            · have h2 : 126 < (s[m].toNat : Int) := by omega
              clear hq
              go_wp2
              exact bodyPost_ret (v := .tuple #[tokV 0 ⟨#[]⟩ 0 0, .int .i64 (m : Int), .int .i64 30]) (by simp [results, Tryz.results58, go_sem, d0, d1, d2, d3, tokV]) rfl (NextPost.bad hst.out (by omega) (by omega) (below_set4r hb (Nat.le_refl _) _ _ _ _))
          · rw [hp] at hst
            simp only [if_true] at hst
            replace hst : Aside _ := (show Aside _ from hst)
            have hq := fun a => (Bool.eq_false_iff.1 (not_plain.2 a)) hp
            have h1 : ¬ (s[m].toNat : Int) < 32 := fun a => hq (Or.inl a)
            have h2 : ¬ 126 < (s[m].toNat : Int) := fun a => hq (Or.inr a)
            clear hq hp
            unfold TRow at hr
            go_wp2_with (at_builtin; refine wpList_append_own _ rfl _ _ 32 rfl (w.heap.size + 1) 5 i0 (.int .u8 0) 1 1 Tryz.underlying32 hi0 hz0 hz1 hz2 rfl (by decide) _ _ _ rfl (hr.alloc _) ⟨wr.heap.size, 0, none⟩ 1 1 [.int .u8 s[m].toNat] rfl rfl ?c1 ?c2 ?c3 ?c4 ?c5 ?_)
            case c2 => rfl
            case c3 => unfold maxLen; omega
            case c4 => omega
            case c5 => first | omega | (simp; omega)
            intro v' w2 hr2 hg2 hnil
            clear hnil
            have hB2 : Below (w.heap.size + 1) wr w2 := ((Below.refl (w.heap.size + 1) wr).alloc hlt0 _).grown hg2 (by simp; omega) (fun x hx => (hr.lt x hx).1)
            replace hr2 : TRow (w.heap.size + 1) v' (acc ++ [s[m]]) w2 := by
              unfold TRow
              rw [cells_snoc]
              simpa using hr2
            have hb2 : Below w.heap.size w w2 := hb.trans (hB2.mono (by omega))
            have hsl2 : Slot w.heap.size w2 := hsl.upto hB2 (by omega)
            clear hg2 hB2 hr hb
            go_wp2_with fail
            go_roundg (s.size - (m + 1))
            case measure => omega
            case rel => exact ⟨m + 1, acc ++ [s[m]], by omega, by omega, rfl, by go_num, hr2, hb2, hsl2, by simp; omega, by show _ = _; rw [hst.out, show m + 1 - i = m - i + 1 by omega]⟩
    · have e : m = s.size := by omega
      have hst : Aside (res = Lx.R.bad 0 30) := by show _ = _; rw [hres.out, e, text_end]
      clear hres hr hconv
      go_wp2
      exact bodyPost_ret (v := .tuple #[tokV 0 ⟨#[]⟩ 0 0, .int .i64 (i : Int), .int .i64 30]) (by simp [results, Tryz.results58, go_sem, d0, d1, d2, d3, tokV]) rfl (NextPost.bad hst.out (by omega) (by omega) (below_set4r hb (Nat.le_refl _) _ _ _ _))
end Go.Proofs.YtnmdnjdibdmodaaGreatDoor
/- The document's reading of one token. -/
namespace Go.Proofs.YtnmdnjdibdmodaaGreatDoor
open Go.RowKit
set_option linter.unusedSimpArgs false
set_option linter.unusedVariables false

theorem NextV_ok (k : Nat) (t : List UInt8) (m n i : Nat) : NextV (Lx.R.ok k t m n) i = .tuple #[tokV k ⟨t.toArray⟩ m i, .int .i64 ((i + n : Nat) : Int), .int .i64 0] := rfl
theorem NextV_bad (o er i : Nat) : NextV (Lx.R.bad o er) i = .tuple #[tokV 0 ⟨#[]⟩ 0 0, .int .i64 ((i + o : Nat) : Int), .int .i64 er] := rfl
/-- What is answered of one token, whichever: a token's cells and two numbers. -/
theorem NextV_any (res : Lx.R) (i : Nat) : ∃ k ta m p z y, NextV res i = .tuple #[.agg #[.int .i64 (k : Nat), .string ta, .int .i64 (m : Nat), .int .i64 (p : Nat)], .int .i64 z, .int .i64 y] := by
  rcases res with ⟨k, t, m, n⟩ | ⟨o, er⟩
  · exact ⟨k, ⟨t.toArray⟩, m, i, _, _, rfl⟩
  · exact ⟨0, ⟨#[]⟩, 0, 0, _, _, rfl⟩

set_option maxRecDepth 100000 in
set_option maxHeartbeats 4000000 in
theorem rnext_number (s : ByteArray) (i : Nat) (w : World) (hi : i < s.size) (hm : s.size ≤ 16384) (hl : Lx.isLetter s[i] = false) (hd : Lx.isDigit s[i] = true) :
    Calls Tryz.prog 37 #[.string s, .int .i64 i] w fun e w' => NextPost (Lx.numberR (s.data.toList.drop i)) i w e w' := by
  have hb0 : Below w.heap.size w (w.alloc slot0) := (Below.refl _ _).alloc (Nat.le_refl _) _
  have hs0 := Slot.new w
  have hc := rnumber_any s i (w.alloc slot0) hi hm hd
  generalize Lx.numberR (s.data.toList.drop i) = res at *
  unfold NextPost at *
  obtain ⟨k, ta, mm, p, z, y, hv⟩ := NextV_any res i
  rw [hv] at hc ⊢
  go_enter Tryz.func37, Tryz.ntmps37
  go_wp2_with (first
    | (go_at_call 55; refine (rletter_any _ _).mono ?_; rw [hl]; rintro e w9 ⟨rfl, rfl⟩)
    | (go_at_call 56; refine (rdigit_any _ _).mono ?_; rw [hd]; rintro e w9 ⟨rfl, rfl⟩)
    | (go_at_call 57; refine hc.mono ?_; rintro e w4 ⟨rfl, hb4⟩; have hs4 := hs0.below hb4 hs0.lt; obtain ⟨x0, x1, x2, x3, d0, d1, d2, d3, f0, f1, f2, f3⟩ := hs4.cells))
  exact bodyPost_ret (v := .tuple #[.agg #[.int .i64 (k : Nat), .string ta, .int .i64 (mm : Nat), .int .i64 (p : Nat)], .int .i64 z, .int .i64 y]) (by simp [results, Tryz.results37, go_sem, d0, d1, d2, d3]) rfl ⟨rfl, below_set4r (hb0.trans (hb4.mono hb0.size)) (Nat.le_refl _) _ _ _ _⟩
set_option maxRecDepth 100000 in
set_option maxHeartbeats 4000000 in
theorem rnext_text (s : ByteArray) (i : Nat) (w : World) (hi : i < s.size) (hm : s.size ≤ 16384) (hk : s[i] = 34) :
    Calls Tryz.prog 37 #[.string s, .int .i64 i] w fun e w' => NextPost (Lx.quoteR (s.data.toList.drop (i + 1)) 1 []) i w e w' := by
  have hb0 : Below w.heap.size w (w.alloc slot0) := (Below.refl _ _).alloc (Nat.le_refl _) _
  have hs0 := Slot.new w
  have hc := rtext_any s i (w.alloc slot0) hi hm
  have hl : Lx.isLetter s[i] = false := by rw [hk]; decide
  have hd : Lx.isDigit s[i] = false := by rw [hk]; decide
  have hq : ((s[i].toNat : Int) == 34) = true := by rw [hk]; rfl
  clear hk
  generalize Lx.quoteR (s.data.toList.drop (i + 1)) 1 [] = res at *
  unfold NextPost at *
  obtain ⟨k, ta, mm, p, z, y, hv⟩ := NextV_any res i
  rw [hv] at hc ⊢
  go_enter Tryz.func37, Tryz.ntmps37
  go_wp2_with (first
    | (go_at_call 55; refine (rletter_any _ _).mono ?_; rw [hl]; rintro e w9 ⟨rfl, rfl⟩)
    | (go_at_call 56; refine (rdigit_any _ _).mono ?_; rw [hd]; rintro e w9 ⟨rfl, rfl⟩)
    | (go_at_call 58; refine hc.mono ?_; rintro e w4 ⟨rfl, hb4⟩; have hs4 := hs0.below hb4 hs0.lt; obtain ⟨x0, x1, x2, x3, d0, d1, d2, d3, f0, f1, f2, f3⟩ := hs4.cells))
  exact bodyPost_ret (v := .tuple #[.agg #[.int .i64 (k : Nat), .string ta, .int .i64 (mm : Nat), .int .i64 (p : Nat)], .int .i64 z, .int .i64 y]) (by simp [results, Tryz.results37, go_sem, d0, d1, d2, d3]) rfl ⟨rfl, below_set4r (hb0.trans (hb4.mono hb0.size)) (Nat.le_refl _) _ _ _ _⟩
set_option maxRecDepth 100000 in
set_option maxHeartbeats 4000000 in
theorem rnext_mark (s : ByteArray) (i : Nat) (w : World) (hi : i < s.size) (hm : s.size ≤ 16384) (hl : Lx.isLetter s[i] = false) (hd : Lx.isDigit s[i] = false) (hq : ¬ (s[i].toNat : Int) = 34) :
    Calls Tryz.prog 37 #[.string s, .int .i64 i] w fun e w' => NextPost (Lx.markR true (s.data.toList.drop i)) i w e w' := by
  have hb0 : Below w.heap.size w (w.alloc slot0) := (Below.refl _ _).alloc (Nat.le_refl _) _
  have hs0 := Slot.new w
  have hc := rmark_any s i (w.alloc slot0) hi hm
  generalize Lx.markR true (s.data.toList.drop i) = res at *
  unfold NextPost at *
  obtain ⟨k, ta, mm, p, z, y, hv⟩ := NextV_any res i
  rw [hv] at hc ⊢
  go_enter Tryz.func37, Tryz.ntmps37
  go_wp2_with (first
    | (go_at_call 55; refine (rletter_any _ _).mono ?_; rw [hl]; rintro e w9 ⟨rfl, rfl⟩)
    | (go_at_call 56; refine (rdigit_any _ _).mono ?_; rw [hd]; rintro e w9 ⟨rfl, rfl⟩)
    | (go_at_call 59; refine hc.mono ?_; rintro e w4 ⟨rfl, hb4⟩; have hs4 := hs0.below hb4 hs0.lt; obtain ⟨x0, x1, x2, x3, d0, d1, d2, d3, f0, f1, f2, f3⟩ := hs4.cells))
  exact bodyPost_ret (v := .tuple #[.agg #[.int .i64 (k : Nat), .string ta, .int .i64 (mm : Nat), .int .i64 (p : Nat)], .int .i64 z, .int .i64 y]) (by simp [results, Tryz.results37, go_sem, d0, d1, d2, d3]) rfl ⟨rfl, below_set4r (hb0.trans (hb4.mono hb0.size)) (Nat.le_refl _) _ _ _ _⟩

set_option maxRecDepth 100000 in
set_option maxHeartbeats 4000000 in
theorem rnext_name (s : ByteArray) (i : Nat) (w : World) (hi : i < s.size) (hm : s.size ≤ 16384) (hl : Lx.isLetter s[i] = true) :
    Calls Tryz.prog 37 #[.string s, .int .i64 i] w fun e w' => NextPost (Lx.nameR (s.data.toList.drop i)) i w e w' := by
  have hb : ∀ o, Below w.heap.size w (w.alloc o) := fun o => (Below.refl _ _).alloc (Nat.le_refl _) _
  have hr1 : Aside (run s i Lx.isPart ≤ 16 → Lx.nameR (s.data.toList.drop i) = Lx.R.ok 1 ((s.data.toList.drop i).takeWhile Lx.isPart) 0 (run s i Lx.isPart)) := fun h => by unfold Lx.nameR; exact if_pos h
  have hr2 : Aside (¬ run s i Lx.isPart ≤ 16 → Lx.nameR (s.data.toList.drop i) = Lx.R.bad 0 3) := fun h => by unfold Lx.nameR; exact if_neg h
  have hxe : Aside (s.extract i (i + run s i Lx.isPart) = _) := ext_run s i Lx.isPart
  have hrle := run_le s i Lx.isPart (by omega)
  obtain ⟨E, hE⟩ : ∃ E, Aside (E = i + run s i Lx.isPart) := ⟨_, rfl⟩
  have hEs : E ≤ s.size := by have := hE.out; omega
  have hEi : i ≤ E := by have := hE.out; omega
  clear hrle
  generalize Lx.nameR (s.data.toList.drop i) = res at *
  go_enter Tryz.func37, Tryz.ntmps37
  go_wp2_with (go_at_call 55; refine (rletter_any _ _).mono ?_; rw [hl]; rintro e w9 ⟨rfl, rfl⟩)
  go_loop [8] (fun a => ∃ m : Nat, i ≤ m ∧ m ≤ E ∧ a = .int .i64 m) (fun a => s.size - (intOf a).toNat)
  case atStart => exact ⟨i, Nat.le_refl _, by omega, rfl⟩
  case round =>
    obtain ⟨m, him, hmE, rfl⟩ := hrel
    have hcase : Aside ((∃ h : m < s.size, Lx.isLetter s[m] = true ∧ m + 1 ≤ E) ∨ (∃ h : m < s.size, Lx.isLetter s[m] = false ∧ Lx.isDigit s[m] = true ∧ m + 1 ≤ E) ∨ (∃ h : m < s.size, Lx.isLetter s[m] = false ∧ Lx.isDigit s[m] = false ∧ m = E) ∨ (¬ m < s.size ∧ m = E)) := by
      have he := hE.out
      subst he
      show _ ∨ _
      by_cases h : m < s.size
      · rcases h1 : Lx.isLetter s[m] with _ | _
        · rcases h2 : Lx.isDigit s[m] with _ | _
          · exact Or.inr (Or.inr (Or.inl ⟨h, h1, h2, run_stop him hmE h (by simp [Lx.isPart, h1, h2])⟩))
          · exact Or.inr (Or.inl ⟨h, h1, h2, run_step him hmE h (by simp [Lx.isPart, h1, h2])⟩)
        · exact Or.inl ⟨h, h1, run_step him hmE h (by simp [Lx.isPart, h1])⟩
      · exact Or.inr (Or.inr (Or.inr ⟨h, run_fin (by omega) hmE h⟩))
    rcases hcase.out with ⟨hlt, k1, hnx⟩ | ⟨hlt, k1, k2, hnx⟩ | ⟨hlt, k1, k2, hm2⟩ | ⟨hlt, hm2⟩
    · clear hcase
      go_wp2_with (go_at_call 55; refine (rletter_any _ _).mono ?_; rw [k1]; rintro e w' ⟨rfl, rfl⟩)
      go_round
      case rel => exact ⟨m + 1, by omega, hnx, by go_num⟩
      case measure => simp [intOf]; omega
    · clear hcase
      go_wp2_with (first
        | (go_at_call 55; refine (rletter_any _ _).mono ?_; rw [k1]; rintro e w' ⟨rfl, rfl⟩)
        | (go_at_call 56; refine (rdigit_any _ _).mono ?_; rw [k2]; rintro e w' ⟨rfl, rfl⟩))
      go_round
      case rel => exact ⟨m + 1, by omega, hnx, by go_num⟩
      case measure => simp [intOf]; omega
    all_goals
      clear hcase
      subst hm2
      by_cases h16 : run s i Lx.isPart ≤ 16
      · have hres : Aside (res = Lx.R.ok 1 ((s.data.toList.drop i).takeWhile Lx.isPart) 0 (run s i Lx.isPart)) := hr1.out h16
        have hx : Aside (s.extract i m = ⟨((s.data.toList.drop i).takeWhile Lx.isPart).toArray⟩) := by show _ = _; have := hxe.out; rw [← hE.out] at this; exact this
        have hI : ¬ 16 < (m : Int) - (i : Int) := by have := hE.out; omega
        clear hr1 hr2 hxe h16
        go_wp2_with (first
          | (go_at_call 55; refine (rletter_any _ _).mono ?_; rw [k1]; rintro e w' ⟨rfl, rfl⟩)
          | (go_at_call 56; refine (rdigit_any _ _).mono ?_; rw [k2]; rintro e w' ⟨rfl, rfl⟩))
        exact bodyPost_ret (v := .tuple #[tokV 1 (s.extract i m) 0 i, .int .i64 (m : Int), .int .i64 0]) (by simp [results, Tryz.results37, go_sem, tokV]) rfl (NextPost.ok hres.out hx.out (by have := hE.out; omega) (hb _))
      · have hres : Aside (res = Lx.R.bad 0 3) := hr2.out h16
        have hI : 16 < (m : Int) - (i : Int) := by have := hE.out; omega
        clear hr1 hr2 hxe h16
        go_wp2_with (first
          | (go_at_call 55; refine (rletter_any _ _).mono ?_; rw [k1]; rintro e w' ⟨rfl, rfl⟩)
          | (go_at_call 56; refine (rdigit_any _ _).mono ?_; rw [k2]; rintro e w' ⟨rfl, rfl⟩))
        exact bodyPost_ret (v := .tuple #[tokV 0 ⟨#[]⟩ 0 0, .int .i64 (i : Int), .int .i64 3]) (by simp [results, Tryz.results37, go_sem, tokV]) rfl (NextPost.bad hres.out (by omega) (by omega) (hb _))

theorem rnext_any (s : ByteArray) (i : Nat) (w : World) (hi : i < s.size) (hm : s.size ≤ 16384) :
    Calls Tryz.prog 37 #[.string s, .int .i64 i] w fun e w' => NextPost (Lx.tokR true (s.data.toList.drop i)) i w e w' := by
  have hd0 := drop_at s i hi
  rcases hl : Lx.isLetter s[i] with _ | _
  · rcases hd : Lx.isDigit s[i] with _ | _
    · by_cases hk : s[i] = 34
      · have e : Lx.tokR true (s.data.toList.drop i) = Lx.quoteR (s.data.toList.drop (i + 1)) 1 [] := by
          rw [hd0]; simp only [Lx.tokR, hl, hd, Bool.false_eq_true, if_false, if_pos hk]
        rw [e]
        exact rnext_text s i w hi hm hk
      · have e : Lx.tokR true (s.data.toList.drop i) = Lx.markR true (s.data.toList.drop i) := by
          rw [hd0]; simp only [Lx.tokR, hl, hd, Bool.false_eq_true, if_false, if_neg hk]
        rw [e]
        exact rnext_mark s i w hi hm hl hd (byte_ne (n := 34) (by decide) hk)
    · have e : Lx.tokR true (s.data.toList.drop i) = Lx.numberR (s.data.toList.drop i) := by
        rw [hd0]; simp only [Lx.tokR, hl, hd, Bool.false_eq_true, if_false, if_true]
      rw [e]
      exact rnext_number s i w hi hm hl hd
  · have e : Lx.tokR true (s.data.toList.drop i) = Lx.nameR (s.data.toList.drop i) := by
      rw [hd0]; simp only [Lx.tokR, hl, if_true]
    rw [e]
    exact rnext_name s i w hi hm hl
end Go.Proofs.YtnmdnjdibdmodaaGreatDoor
/- The document's Lex. -/
namespace Go.Proofs.YtnmdnjdibdmodaaGreatDoor
open Go.RowKit
set_option linter.unusedSimpArgs false
set_option linter.unusedVariables false

set_option maxRecDepth 100000 in
set_option maxHeartbeats 8000000 in
theorem rlex_short (s : ByteArray) (w : World) (hs : s.size ≤ 16384) :
    Calls Tryz.prog 20 #[.string s] w fun e w' => LexPost (Lx.lexGo true s.data.toList 0 0) w e w' := by
  have hsm : s.size ≤ maxLen := by unfold maxLen; omega
  obtain ⟨res, hres⟩ : ∃ res, Aside (res = Lx.lexGo true s.data.toList 0 0) := ⟨_, rfl⟩
  rw [← hres.out]
  obtain ⟨i0, hi0, hz⟩ := Option.map_eq_some_iff.1 (show (Tryz.prog.info? 39).map (fun i => (i.zero, i.size, i.bytes)) = some (some (.agg #[.int .i64 0, .string ⟨#[]⟩, .int .i64 0, .int .i64 0]), 4, 40) by kernel_rfl)
  simp only [Prod.mk.injEq] at hz
  obtain ⟨hz0, hz1, hz2⟩ := hz
  have hg0 := gap_le s 0 (Nat.zero_le _)
  have hsk0 : Calls Tryz.prog 36 #[.string s, .int .i64 0] w fun e w' => e = .returned (.int .i64 ((0 + gap s 0 : Nat) : Int)) ∧ w' = w := rskip_any s 0 w hsm (Nat.zero_le _)
  obtain ⟨j0, hj0⟩ : ∃ j, Aside (j = 0 + gap s 0) := ⟨_, rfl⟩
  rw [← hj0.out] at hsk0 hg0
  go_enter Tryz.func20, Tryz.ntmps20
  go_wp2_with (go_at_call 36; refine hsk0.mono ?_; rintro e w' ⟨rfl, rfl⟩)
  go_loopg [5, 6] (s.size - j0) (fun g v a wr => ∃ (i j : Nat) (ts : List Lx.Tok), Aside (j = i + gap s i) ∧ i ≤ s.size ∧ j ≤ s.size ∧ g = s.size - j ∧ a = .int .i64 j ∧ wr.ownsRow w'.heap.size 39 4 v ts.length (rowOf ts) ∧ Below w'.heap.size w' wr ∧ ts.length ≤ 4096 ∧
    Aside (res = Lx.Out.pre ts (Lx.lexGo true (s.data.toList.drop i) i ts.length)))
  case atStart => exact ⟨0, j0, [], hj0, Nat.zero_le _, hg0, rfl, rfl, ⟨rfl, Or.inl ⟨rfl, rfl⟩⟩, Below.refl _ _, by simp, by show _ = _; rw [hres.out, Lx.pre_nil]; rfl⟩
  case round =>
    clear hres hsk0 hj0 hg0
    obtain ⟨i, j, ts, hj, hi, hjs, rfl, rfl, hrow, hb, hfew, hr⟩ := hrel
    obtain ⟨ao, cap, rfl⟩ := slice_of hrow
    by_cases hlt : j < s.size
    · have hnx := rnext_any s j wr hlt hs
      have hgl : i + gap s i < s.size := by have := hj.out; omega
      rcases ht : Lx.tokR true (s.data.toList.drop j) with ⟨k, t, m, n⟩ | ⟨o, er⟩
      · rw [ht] at hnx
        replace hnx : Calls Tryz.prog 37 #[.string s, .int .i64 j] wr fun e w' => e = .returned (.tuple #[tokV k ⟨t.toArray⟩ m j, .int .i64 ((j + n : Nat) : Int), .int .i64 0]) ∧ Below wr.heap.size wr w' := hnx
        have hkn := tok_kinds (by rw [← drop_at s _ hlt]; exact ht)
        have hjn : j + n ≤ s.size := by
          have hl : (s.data.toList.drop (j + 1)).length + 1 = s.size - j := by simp; omega
          omega
        have hn1 := hkn.2.1
        have hr2 : Aside (res = Lx.Out.pre ts (if ts.length < 4096 then Lx.Out.pre [(⟨k, t, m, j⟩ : Lx.Tok)] (Lx.lexGo true (s.data.toList.drop (j + n)) (j + n) (ts.length + 1)) else .inr (j, 36))) := by
          show _ = _
          have h := hr.out
          rw [at_ok hgl (by rw [← hj.out]; exact ht), ← hj.out] at h
          exact h
        clear hr ht hkn hj hgl
        have hgl2 := gap_le s (j + n) hjn
        have hsk := fun w1 => rskip_any s (j + n) w1 hsm hjn
        obtain ⟨e2, he2⟩ : ∃ e2, Aside (e2 = j + n) := ⟨_, rfl⟩
        rw [← he2.out] at hnx hsk hgl2 hjn
        obtain ⟨j2, hj2⟩ : ∃ j2, Aside (j2 = e2 + gap s e2) := ⟨_, rfl⟩
        have hj2j : j < j2 := by have := hj2.out; have := he2.out; omega
        rw [← hj2.out] at hsk hgl2
        by_cases hc : ts.length < 4096
        · have hr3 : Aside (res = Lx.Out.pre (ts ++ [(⟨k, t, m, j⟩ : Lx.Tok)]) (Lx.lexGo true (s.data.toList.drop e2) e2 (ts ++ [(⟨k, t, m, j⟩ : Lx.Tok)]).length)) := by
            show _ = _
            have h := hr2.out
            rw [if_pos hc, Lx.pre_pre] at h
            rw [h, he2.out]; simp
          have hcI : ¬ (4096 : Int) ≤ (ts.length : Int) := by omega
          clear hr2
          go_wp2_with (first
            | (go_at_call 37; refine hnx.mono ?_; rintro e w2 ⟨rfl, hb2⟩)
            | (at_builtin; refine wpList_append_own _ rfl _ _ 33 rfl w'.heap.size 39 i0 (.agg #[.int .i64 0, .string ⟨#[]⟩, .int .i64 0, .int .i64 0]) 4 40 Tryz.underlying33 hi0 hz0 hz1 hz2 rfl (by decide) _ ts.length _ rfl (((owns_below hrow hb2).alloc _).alloc _) ⟨w2.heap.size + 1, 0, none⟩ 1 1 [.int .i64 k, .string ⟨t.toArray⟩, .int .i64 m, .int .i64 j] rfl rfl ?c1 ?c2 ?c3 ?c4 ?c5 ?_))
          case c1 =>
            intro x u hx
            match x, hx with
            | 0, hx => simp at hx; subst hx; simp [Addr.add]
            | 1, hx => simp at hx; subst hx; simp [Addr.add]
            | 2, hx => simp at hx; subst hx; simp [Addr.add]
            | 3, hx => simp at hx; subst hx; simp [Addr.add]
          case c2 => intro u hu; simp at hu; rcases hu with rfl | rfl | rfl | rfl <;> rfl
          case c3 => unfold maxLen; omega
          case c4 => omega
          case c5 => have h1 := hb2.size; have h2 := hb.size; simp; omega
          intro v' w3 hown hgrow hnil
          clear hnil
          have hb3 : Below w'.heap.size w' w3 := (((hb.trans (hb2.mono hb.size)).alloc (by have := hb2.size; have := hb.size; omega) _).alloc (by have := hb2.size; have := hb.size; simp; omega) _).grown hgrow (by have := hb2.size; have := hb.size; simp; omega) (fun x hx => (hrow.lt x hx).1)
          have hrow3 : w3.ownsRow w'.heap.size 39 4 v' (ts ++ [(⟨k, t, m, j⟩ : Lx.Tok)]).length (rowOf (ts ++ [(⟨k, t, m, j⟩ : Lx.Tok)])) := by simpa [rowOf_snoc, tokCells] using hown
          clear hown hgrow hrow hb hb2 hnx
          go_wp2_with (go_at_call 36; refine (hsk _).mono ?_; rintro e w4 ⟨rfl, rfl⟩)
          go_roundg (s.size - j2)
          case measure => omega
          case rel => exact ⟨e2, j2, ts ++ [⟨k, t, m, j⟩], hj2, hjn, hgl2, rfl, rfl, hrow3, hb3, by simp; omega, hr3⟩
        · have hr3 : Aside (res = .inr (j, 36)) := by
            show _ = _
            have h := hr2.out
            rw [if_neg hc] at h
            exact h
          have hcI : (4096 : Int) ≤ (ts.length : Int) := by omega
          clear hr2 hsk
          go_wp2_with (go_at_call 37; refine hnx.mono ?_; rintro e w2 ⟨rfl, hb2⟩)
          refine bodyPost_ret (v := .tuple #[.slice none 0 0, .int .i64 (j : Int), .int .i64 36]) (by simp [results, Tryz.results20, go_sem]) rfl ?_
          rw [hr3.out]
          exact ⟨rfl, (hb.trans (hb2.mono hb.size)).alloc (by have := hb2.size; have := hb.size; omega) _⟩
      · rw [ht] at hnx
        replace hnx : Calls Tryz.prog 37 #[.string s, .int .i64 j] wr fun e w' => e = .returned (.tuple #[tokV 0 ⟨#[]⟩ 0 0, .int .i64 ((j + o : Nat) : Int), .int .i64 er]) ∧ Below wr.heap.size wr w' := hnx
        have her : ¬ (er : Int) = 0 := by have := tok_err ht; omega
        have hr2 : Aside (res = .inr (j + o, er)) := by
          show _ = _
          have h := hr.out
          rw [at_bad hgl (by rw [← hj.out]; exact ht), ← hj.out] at h
          exact h
        clear hr ht hj
        go_wp2_with (go_at_call 37; refine hnx.mono ?_; rintro e w2 ⟨rfl, hb2⟩)
        refine bodyPost_ret (v := .tuple #[.slice none 0 0, .int .i64 ((j + o : Nat) : Int), .int .i64 er]) (by simp [results, Tryz.results20, go_sem]) rfl ?_
        rw [hr2.out]
        exact ⟨rfl, (hb.trans (hb2.mono hb.size)).alloc (by have := hb2.size; have := hb.size; omega) _⟩
    · have hje : j = s.size := by omega
      have hr2 : Aside (res = Lx.Out.pre ts (if ts.length < 4096 then .inl [⟨5, [], 0, j⟩] else .inr (j, 36))) := by
        show _ = _
        have h := hr.out
        rw [at_end (by rw [← hj.out]; exact hje), ← hje] at h
        exact h
      clear hr hj
      by_cases hc : ts.length < 4096
      · have hr3 : Aside (res = .inl (ts ++ [(⟨5, [], 0, j⟩ : Lx.Tok)])) := by
          show _ = _
          have h := hr2.out
          rw [if_pos hc] at h
          exact h
        have hcI : ¬ (4096 : Int) ≤ (ts.length : Int) := by omega
        clear hr2 hje
        go_wp2_with (at_builtin; refine wpList_append_own _ rfl _ _ 33 rfl w'.heap.size 39 i0 (.agg #[.int .i64 0, .string ⟨#[]⟩, .int .i64 0, .int .i64 0]) 4 40 Tryz.underlying33 hi0 hz0 hz1 hz2 rfl (by decide) _ ts.length _ rfl (hrow.alloc _) ⟨wr.heap.size, 0, none⟩ 1 1 [.int .i64 5, .string ⟨#[]⟩, .int .i64 0, .int .i64 j] rfl rfl ?c1 ?c2 ?c3 ?c4 ?c5 ?_)
        case c2 => first | rfl | exact ⟨rfl, rfl, rfl, rfl⟩ | (intro u hu; simp at hu; rcases hu with rfl | rfl | rfl | rfl <;> rfl)
        case c3 => unfold maxLen; omega
        case c4 => omega
        case c5 => have h2 := hb.size; first | omega | (simp; omega)
        intro v' w3 hown hgrow hnil
        clear hnil
        have hb3 : Below w'.heap.size w' w3 := (hb.alloc hb.size _).grown hgrow (by have := hb.size; simp; omega) (fun x hx => (hrow.lt x hx).1)
        have hrow3 : w3.ownsRow w'.heap.size 39 4 v' (ts ++ [(⟨5, [], 0, j⟩ : Lx.Tok)]).length (rowOf (ts ++ [(⟨5, [], 0, j⟩ : Lx.Tok)])) := by simpa [rowOf_snoc, tokCells] using hown
        clear hown hgrow hrow hb
        go_wp2
        refine bodyPost_ret (v := .tuple #[v', .int .i64 0, .int .i64 0]) (by simp [results, Tryz.results20, go_sem]) rfl ?_
        rw [hr3.out]
        exact ⟨⟨v', rfl, hrow3⟩, hb3⟩
      · have hr3 : Aside (res = .inr (j, 36)) := by
          show _ = _
          have h := hr2.out
          rw [if_neg hc] at h
          exact h
        have hcI : (4096 : Int) ≤ (ts.length : Int) := by omega
        clear hr2 hje
        go_wp2
        refine bodyPost_ret (v := .tuple #[.slice none 0 0, .int .i64 (j : Int), .int .i64 36]) (by simp [results, Tryz.results20, go_sem]) rfl ?_
        rw [hr3.out]
        exact ⟨rfl, hb⟩

set_option maxHeartbeats 2000000 in
theorem rlex_any (s : ByteArray) (w : World) (hm : s.size ≤ maxLen) :
    Calls Tryz.prog 20 #[.string s] w fun e w' => LexPost (Lx.lex true s.data.toList) w e w' := by
  have hl : s.data.toList.length = s.size := by simp
  unfold Lx.lex
  rw [hl]
  by_cases hs : 16384 < s.size
  · rw [if_pos hs]
    unfold maxLen at hm
    have hI : 16384 < (s.size : Int) := by omega
    go_enter Tryz.func20, Tryz.ntmps20
    go_wp2
    exact bodyPost_ret (v := .tuple #[.slice none 0 0, .int .i64 16384, .int .i64 3]) (by simp [results, Tryz.results20, go_sem]) rfl ⟨rfl, Below.refl _ _⟩
  · rw [if_neg hs]
    exact rlex_short s w (by omega)

end Go.Proofs.YtnmdnjdibdmodaaGreatDoor
/- The document's reader of tokens. -/
namespace Go.Proofs.YtnmdnjdibdmodaaGreatDoor
open Go.RowKit
set_option linter.unusedSimpArgs false
set_option linter.unusedVariables false

/-- At block b lies a reader of the tokens ts, which are at block ga; it has come to the one numbered N; the fault's place and which. -/
structure RdB (b ga ca : Nat) (ts : List Lx.Tok) (N p er : Nat) (w : World) : Prop where
  blk : w.heap[b]? = some (.cells #[.slice (some ⟨ga, 0, none⟩) ts.length ca, .int .i64 N, .int .i64 p, .int .i64 er] 59 (0, 0))
  row : TokRow w ga ts
  gl : ga < w.heap.size
  ne : ga ≠ b
  lt : N < ts.length
  few : ts.length ≤ 4096
/-- Where a reading is: at tokens that are left; or at a fault. -/
abbrev RSt := List Lx.Tok ⊕ (Nat × Nat)
def RS (b ga ca : Nat) (ts : List Lx.Tok) (S : RSt) (w : World) : Prop :=
  match S with
  | .inl l => Px.Good l ∧ ∃ N, ts.drop N = l ∧ RdB b ga ca ts N 0 0 w
  | .inr (p, er) => er ≠ 0 ∧ ∃ N, RdB b ga ca ts N p er w
/-- No block but b has turned. -/
structure Fr (b : Nat) (w w' : World) : Prop where
  os : w'.os = w.os
  tape : w'.tape = w.tape
  output : w'.output = w.output
  size : w.heap.size ≤ w'.heap.size
  block : ∀ k, k < w.heap.size → k ≠ b → w'.heap[k]? = w.heap[k]?
theorem Fr.refl (b : Nat) (w : World) : Fr b w w := ⟨rfl, rfl, rfl, Nat.le_refl _, fun _ _ _ => rfl⟩
theorem Fr.trans {b : Nat} {w w1 w2 : World} (h : Fr b w w1) (k : Fr b w1 w2) : Fr b w w2 := ⟨k.os.trans h.os, k.tape.trans h.tape, k.output.trans h.output, Nat.le_trans h.size k.size, fun j h1 h2 => (k.block j (by have := h.size; omega) h2).trans (h.block j h1 h2)⟩
theorem Fr.of_below {b : Nat} {w w' : World} (h : Below w.heap.size w w') : Fr b w w' := ⟨h.os, h.tape, h.output, h.size, fun k h1 _ => h.block k h1⟩
theorem Fr.set {b : Nat} {w : World} (j : Nat) (v : Value) : Fr b w (w.setCell ⟨b, j, none⟩ v) := ⟨rfl, rfl, rfl, by simp [World.setCell], fun k _ h => Below.heap_setCell _ _ _ _ h⟩
theorem Fr.drewN (b : Nat) (w : World) (n : Nat) : Fr b w (w.drewN n) := ⟨rfl, rfl, rfl, Nat.le_refl _, fun _ _ _ => rfl⟩
theorem Fr.since {b : Nat} {w w' : World} (h : Fr b w w') : Since (From (b + 1)) w w' := ⟨h.size, fun k h1 h2 => h.block k h2 (by have : b + 1 ≤ k := h1; omega)⟩
theorem Fr.cell {b : Nat} {w w' : World} (h : Fr b w w') {g o : Nat} (hg : g < w.heap.size) (hn : g ≠ b) : w'.cell? ⟨g, o, none⟩ = w.cell? ⟨g, o, none⟩ := World.cell?_of_block (w := w) (h.block g hg hn)
theorem RdB.there {b ga ca : Nat} {ts : List Lx.Tok} {N p er : Nat} {w : World} (h : RdB b ga ca ts N p er w) : b < w.heap.size := (Array.getElem?_eq_some_iff.1 h.blk).1
theorem RdB.cells {b ga ca : Nat} {ts : List Lx.Tok} {N p er : Nat} {w : World} (h : RdB b ga ca ts N p er w) : w.cell? ⟨b, 0, none⟩ = some (.slice (some ⟨ga, 0, none⟩) ts.length ca) ∧ w.cell? ⟨b, 1, none⟩ = some (.int .i64 N) ∧ w.cell? ⟨b, 2, none⟩ = some (.int .i64 p) ∧ w.cell? ⟨b, 3, none⟩ = some (.int .i64 er) ∧
    w.frozen? ⟨b, 1, none⟩ = false ∧ w.frozen? ⟨b, 2, none⟩ = false ∧ w.frozen? ⟨b, 3, none⟩ = false := by
  have hb := h.blk
  exact ⟨by simp [World.cell?, hb], by simp [World.cell?, hb], by simp [World.cell?, hb], by simp [World.cell?, hb], by simp [World.frozen?, hb], by simp [World.frozen?, hb], by simp [World.frozen?, hb]⟩
theorem RdB.fr {b ga ca : Nat} {ts : List Lx.Tok} {N p er N' p' er' : Nat} {w w' : World} (h : RdB b ga ca ts N p er w) (f : Fr b w w') (hb : w'.heap[b]? = some (.cells #[.slice (some ⟨ga, 0, none⟩) ts.length ca, .int .i64 N', .int .i64 p', .int .i64 er'] 59 (0, 0))) (hN : N' < ts.length) : RdB b ga ca ts N' p' er' w' := by
  refine ⟨hb, ?_, by have := f.size; have := h.gl; omega, h.ne, hN, h.few⟩
  intro k t hk
  obtain ⟨a1, a2, a3, a4⟩ := h.row k t hk
  exact ⟨(f.cell h.gl h.ne).trans a1, (f.cell h.gl h.ne).trans a2, (f.cell h.gl h.ne).trans a3, (f.cell h.gl h.ne).trans a4⟩
theorem RdB.same {b ga ca : Nat} {ts : List Lx.Tok} {N p er : Nat} {w w' : World} (h : RdB b ga ca ts N p er w) (f : Below w.heap.size w w') : RdB b ga ca ts N p er w' :=
  h.fr (Fr.of_below f) ((f.block b h.there).trans h.blk) h.lt
theorem RS.below {b ga ca : Nat} {ts : List Lx.Tok} {S : RSt} {w w' : World} (h : RS b ga ca ts S w) (f : Below w.heap.size w w') : RS b ga ca ts S w' := by
  rcases S with l | ⟨p, er⟩
  · obtain ⟨hg, N, hN, hr⟩ := h
    exact ⟨hg, N, hN, hr.same f⟩
  · obtain ⟨hg, N, hr⟩ := h
    exact ⟨hg, N, hr.same f⟩
theorem RS.drewN {b ga ca : Nat} {ts : List Lx.Tok} {S : RSt} {w : World} (h : RS b ga ca ts S w) (n : Nat) : RS b ga ca ts S (w.drewN n) := h.below ⟨rfl, rfl, rfl, Nat.le_refl _, fun _ _ => rfl⟩
theorem set_blk {w : World} {b : Nat} {x0 x1 x2 x3 : Value} {T : TypeId} {f : Nat × Nat} (h : w.heap[b]? = some (.cells #[x0, x1, x2, x3] T f)) : (∀ v, (w.setCell ⟨b, 1, none⟩ v).heap[b]? = some (.cells #[x0, v, x2, x3] T f)) ∧ (∀ v, (w.setCell ⟨b, 2, none⟩ v).heap[b]? = some (.cells #[x0, x1, v, x3] T f)) ∧ (∀ v, (w.setCell ⟨b, 3, none⟩ v).heap[b]? = some (.cells #[x0, x1, x2, v] T f)) := by
  refine ⟨fun v => ?_, fun v => ?_, fun v => ?_⟩ <;> simp [World.setCell, Array.getElem?_modify, h]
theorem drop_head {ts : List Lx.Tok} {N : Nat} {t : Lx.Tok} {r : List Lx.Tok} (h : ts.drop N = t :: r) : ts[N]? = some t ∧ ts.drop (N + 1) = r ∧ N < ts.length := by
  have h1 := congrArg (fun l => l[0]?) h
  have h2 := congrArg (List.drop 1) h
  simp at h1
  refine ⟨h1, by simpa [List.drop_drop, Nat.add_comm] using h2, (List.getElem?_eq_some_iff.1 h1).1⟩

def failS (e : Nat) : RSt → RSt
  | .inl l => .inr (Px.place l, e)
  | .inr x => .inr x
def seesS (k : Nat) (x : Lx.B) : RSt → Bool
  | .inl l => Px.sees k x l
  | .inr _ => false
def gotS (k : Nat) (x : Lx.B) : RSt → RSt
  | .inl l => if Px.sees k x l then .inl l.tail else .inl l
  | .inr f => .inr f
def lift {α : Type} (q : Px.P α) : RSt → Px.R α
  | .inl l => q l
  | .inr f => .inr f
def st {α : Type} : Px.R α → RSt
  | .inl (_, l) => .inl l
  | .inr f => .inr f

set_option maxHeartbeats 2000000 in
theorem fail_any (b ga ca : Nat) (ts : List Lx.Tok) (S : RSt) (e : Nat) (w : World) (he : e ≠ 0) (h : RS b ga ca ts S w) :
    Calls Tryz.prog 22 #[.pointer (some ⟨b, 0, none⟩), .int .i64 e] w fun r w' => r = .returned (.tuple #[]) ∧ RS b ga ca ts (failS e S) w' ∧ Fr b w w' := by
  rcases S with l | ⟨p, er⟩
  · obtain ⟨hg, N, hN, hr⟩ := h
    match l, hg, hN with
    | t :: rr, hg, hN =>
      obtain ⟨ht, _, hlt⟩ := drop_head hN
      obtain ⟨c0, c1, c2, c3, f1, f2, f3⟩ := hr.cells
      obtain ⟨x0, x1, x2, x3⟩ := hr.row N t ht
      have hfew := hr.few
      have hne := hr.ne
      have hgl := hr.gl
      have hb := hr.there
      have y3 : (w.setCell ⟨b, 3, none⟩ (.int .i64 e)).cell? ⟨ga, N * 4 + 3, none⟩ = some (.int .i64 t.place) := ((Fr.set (b := b) (w := w) 3 (.int .i64 e)).cell hgl hne).trans x3
      have s1 := set_blk hr.blk
      have s2 := set_blk (s1.2.2 (.int .i64 e))
      have k2 := s2.2.1 (.int .i64 t.place)
      have hz : ∀ w9, w9.heap[b]? = some (.cells #[.slice (some ⟨ga, 0, none⟩) ts.length ca, .int .i64 N, .int .i64 t.place, .int .i64 e] 59 (0, 0)) → Fr b w w9 → RS b ga ca ts (failS e (.inl (t :: rr))) w9 := fun w9 hw9 hf => ⟨he, N, hr.fr hf hw9 hlt⟩
      go_enter Tryz.func22, Tryz.ntmps22
      go_wp2_with fail
      go_region
      all_goals
        go_wp2
        go_end0
        have hfr : Fr b w ((w.setCell ⟨b, 3, none⟩ (.int .i64 e)).setCell ⟨b, 2, none⟩ (.int .i64 t.place)).drew := ((Fr.set 3 _).trans (Fr.set 2 _)).trans ⟨rfl, rfl, rfl, Nat.le_refl _, fun _ _ _ => rfl⟩
        exact ⟨rfl, hz _ k2 hfr, hfr⟩
  · obtain ⟨h0, N, hr⟩ := h
    obtain ⟨c0, c1, c2, c3, f1, f2, f3⟩ := hr.cells
    have herI : ((er : Int) == 0) = false := by simp; omega
    have hb := hr.there
    have hfin : RS b ga ca ts (failS e (.inr (p, er))) w := ⟨h0, N, hr⟩
    clear h0 hr
    go_enter Tryz.func22, Tryz.ntmps22
    go_wp2
    go_end0
    exact ⟨rfl, hfin, Fr.refl _ _⟩
theorem text_ne {a x : List UInt8} (h : ¬ a = x) : ((⟨a.toArray⟩ : ByteArray).toList == (⟨x.toArray⟩ : ByteArray).toList) = false := by
  rw [ByteArray.toList_eq, ByteArray.toList_eq]; simp; exact h
theorem text_eq (x : List UInt8) : ((⟨x.toArray⟩ : ByteArray).toList == (⟨x.toArray⟩ : ByteArray).toList) = true := by simp

set_option maxHeartbeats 4000000 in
theorem sees_any (b ga ca : Nat) (ts : List Lx.Tok) (S : RSt) (k : Nat) (x : Lx.B) (w : World) (h : RS b ga ca ts S w) :
    Calls Tryz.prog 38 #[.pointer (some ⟨b, 0, none⟩), .int .i64 k, .string ⟨x.toArray⟩] w fun r w' => r = .returned (.bool (seesS k x S)) ∧ ∃ m, w' = w.drewN m := by
  rcases S with l | ⟨p, er⟩
  · obtain ⟨hg, N, hN, hr⟩ := h
    match l, hg, hN with
    | t :: rr, hg, hN =>
      obtain ⟨ht, _, hlt⟩ := drop_head hN
      obtain ⟨c0, c1, c2, c3, f1, f2, f3⟩ := hr.cells
      obtain ⟨x0, x1, x2, x3⟩ := hr.row N t ht
      have hfew := hr.few
      have hb := hr.there
      have hgl := hr.gl
      have hltI : (N : Int) < (ts.length : Int) := by omega
      have hres : Aside (seesS k x (.inl (t :: rr)) = (t.kind == k && t.text == x)) := rfl
      rw [hres.out]
      clear hres hg hN ht hr
      by_cases hk : t.kind = k
      · subst hk
        by_cases hx : t.text = x
        · subst hx
          have ht2 := text_eq t.text
          go_enter Tryz.func38, Tryz.ntmps38
          go_wp2_with fail
          go_quiet (fail)
          go_wp2
          go_ret
          exact ⟨ret_bool (by simp), _, rfl⟩
        · have ht2 := text_ne hx
          have hx2 : (t.text == x) = false := by simpa using hx
          clear hx
          go_enter Tryz.func38, Tryz.ntmps38
          go_wp2_with fail
          go_quiet (fail)
          go_wp2
          go_ret
          exact ⟨ret_bool (by simp [hx2]), _, rfl⟩
      · have hkI : ((t.kind : Int) == (k : Int)) = false := by simp; omega
        have hk2 : (t.kind == k) = false := by simpa using hk
        clear hk
        go_enter Tryz.func38, Tryz.ntmps38
        go_wp2_with fail
        go_quiet (fail)
        go_wp2
        go_ret
        exact ⟨ret_bool (by simp [hk2]), _, rfl⟩
  · obtain ⟨h0, N, hr⟩ := h
    obtain ⟨c0, c1, c2, c3, f1, f2, f3⟩ := hr.cells
    have herI : ((er : Int) == 0) = false := by simp; omega
    have hb := hr.there
    clear h0 hr
    go_enter Tryz.func38, Tryz.ntmps38
    go_wp2_with fail
    go_quiet (fail)
    go_wp2
    go_ret
    exact ⟨rfl, _, rfl⟩

theorem seesS_cases {k : Nat} {x : Lx.B} {S : RSt} (h : seesS k x S = true) : ∃ t r, S = .inl (t :: r) ∧ t.kind = k ∧ t.text = x ∧ Px.sees k x (t :: r) = true := by
  rcases S with l | f
  · obtain ⟨t, r, rfl, h1, h2⟩ := Px.sees_head (show Px.sees k x l = true from h)
    exact ⟨t, r, rfl, h1, h2, h⟩
  · simp [seesS] at h
theorem gotS_no {k : Nat} {x : Lx.B} {S : RSt} (h : seesS k x S = false) : gotS k x S = S := by
  rcases S with l | f
  · simp only [gotS]; rw [if_neg (by rw [show Px.sees k x l = false from h]; simp)]
  · rfl
set_option maxHeartbeats 4000000 in
theorem got_any (b ga ca : Nat) (ts : List Lx.Tok) (S : RSt) (k : Nat) (x : Lx.B) (w : World) (hk5 : k ≠ 5) (h : RS b ga ca ts S w) :
    Calls Tryz.prog 21 #[.pointer (some ⟨b, 0, none⟩), .int .i64 k, .string ⟨x.toArray⟩] w fun r w' => r = .returned (.bool (seesS k x S)) ∧ RS b ga ca ts (gotS k x S) w' ∧ Fr b w w' := by
  have hs := sees_any b ga ca ts S k x w h
  rcases hb : seesS k x S with _ | _
  · rw [hb] at hs
    rw [gotS_no hb]
    have hR : ∀ m, RS b ga ca ts S (w.drewN m) := fun m => h.drewN m
    clear hb h
    go_enter Tryz.func21, Tryz.ntmps21
    go_wp2_with (go_at_call 38; refine hs.mono ?_; rintro e w1 ⟨rfl, m1, rfl⟩)
    go_ret
    exact ⟨rfl, hR _, Fr.drewN _ _ _⟩
  · rw [hb] at hs
    obtain ⟨t, r, rfl, h1, h2, h3⟩ := seesS_cases hb
    have hgot : gotS k x (.inl (t :: r)) = .inl r := by simp only [gotS]; rw [if_pos h3]; rfl
    rw [hgot]
    obtain ⟨hg, N, hN, hr⟩ := h
    obtain ⟨ht, hN2, hlt⟩ := drop_head hN
    have hg2 : Px.Good r := hg.tail (by omega)
    have hlt2 : N + 1 < ts.length := by
      rcases Nat.lt_or_ge (N + 1) ts.length with h | h
      · exact h
      · rw [List.drop_eq_nil_of_le h] at hN2; subst hN2; exact absurd hg2 (by simp [Px.Good])
    have hfew := hr.few
    have hfin : ∀ m m2, RS b ga ca ts (.inl r) (((w.drewN m).setCell ⟨b, 1, none⟩ (.int .i64 ((N : Int) + 1))).drewN m2) := by
      intro m m2
      have hr1 : RdB b ga ca ts N 0 0 (w.drewN m) := hr.same ⟨rfl, rfl, rfl, Nat.le_refl _, fun _ _ => rfl⟩
      refine ⟨hg2, N + 1, hN2, hr1.fr ((Fr.set 1 _).trans (Fr.drewN _ _ _)) ?_ hlt2⟩
      exact (set_blk hr1.blk).1 _
    have hcs : ∀ m, (w.drewN m).cell? ⟨b, 1, none⟩ = some (.int .i64 N) ∧ (w.drewN m).frozen? ⟨b, 1, none⟩ = false := fun m => ⟨hr.cells.2.1, hr.cells.2.2.2.2.1⟩
    have hbl := hr.there
    clear hb hr hg hN ht h3 hgot
    go_enter Tryz.func21, Tryz.ntmps21
    go_wp2_with (go_at_call 38; refine hs.mono ?_; rintro e w1 ⟨rfl, m1, rfl⟩; obtain ⟨c1, f1⟩ := hcs m1)
    go_ret
    exact ⟨rfl, hfin _ 0, (Fr.drewN _ _ _).trans (Fr.set 1 _)⟩

def needS (x : Lx.B) (S : RSt) : RSt := st (lift (Px.need x) S)
theorem needS_eq (x : Lx.B) (S : RSt) : needS x S = if seesS 4 x S then gotS 4 x S else failS 31 S := by
  rcases S with l | f
  · simp only [needS, lift, Px.need, Px.needK, seesS, gotS, failS]
    split
    · rfl
    · rfl
  · rfl
set_option maxHeartbeats 2000000 in
theorem need_any (b ga ca : Nat) (ts : List Lx.Tok) (S : RSt) (x : Lx.B) (w : World) (h : RS b ga ca ts S w) :
    Calls Tryz.prog 23 #[.pointer (some ⟨b, 0, none⟩), .string ⟨x.toArray⟩] w fun r w' => r = .returned (.tuple #[]) ∧ RS b ga ca ts (needS x S) w' ∧ Fr b w w' := by
  have hs := got_any b ga ca ts S 4 x w (by decide) h
  rw [needS_eq]
  rcases hb : seesS 4 x S with _ | _
  · rw [hb, gotS_no hb] at hs
    simp only [Bool.false_eq_true, if_false]
    clear hb h
    go_enter Tryz.func23, Tryz.ntmps23
    go_wp2_with fail
    refine hs.mono ?_
    rintro e w1 ⟨rfl, hr1, hf1⟩
    go_wp2_with fail
    refine (fail_any b ga ca ts S 31 w1 (by decide) hr1).mono ?_
    rintro e w2 ⟨rfl, hr2, hf2⟩
    go_wp2
    go_end0
    exact ⟨rfl, hr2, hf1.trans hf2⟩
  · rw [hb] at hs
    simp only [if_true]
    clear hb h
    go_enter Tryz.func23, Tryz.ntmps23
    go_wp2_with fail
    refine hs.mono ?_
    rintro e w1 ⟨rfl, hr1, hf1⟩
    go_wp2
    go_end0
    exact ⟨rfl, hr1, hf1⟩
def deepS (d : Nat) (S : RSt) : RSt := if 24 < d then failS 32 S else S
set_option maxHeartbeats 2000000 in
theorem deep_any (b ga ca : Nat) (ts : List Lx.Tok) (S : RSt) (d : Nat) (w : World) (h : RS b ga ca ts S w) :
    Calls Tryz.prog 60 #[.pointer (some ⟨b, 0, none⟩), .int .i64 d] w fun r w' => r = .returned (.tuple #[]) ∧ RS b ga ca ts (deepS d S) w' ∧ Fr b w w' := by
  unfold deepS
  by_cases hd : 24 < d
  · have hdI : 24 < (d : Int) := by omega
    rw [if_pos hd]
    go_enter Tryz.func60, Tryz.ntmps60
    go_wp2_with fail
    refine (fail_any b ga ca ts S 32 w (by decide) h).mono ?_
    rintro e w2 ⟨rfl, hr2, hf2⟩
    go_wp2
    go_end0
    exact ⟨rfl, hr2, hf2⟩
  · have hdI : ¬ 24 < (d : Int) := by omega
    rw [if_neg hd]
    go_enter Tryz.func60, Tryz.ntmps60
    go_wp2
    go_end0
    exact ⟨rfl, h, Fr.refl _ _⟩
end Go.Proofs.YtnmdnjdibdmodaaGreatDoor
/- Reserved words; names; types; slots: the document's reading. -/
namespace Go.Proofs.YtnmdnjdibdmodaaGreatDoor
open Go.RowKit
set_option linter.unusedSimpArgs false
set_option linter.unusedVariables false

theorem reserved_iff (x : Lx.B) : Px.reserved x = ((x == [118, 101, 114, 115, 105, 111, 110]) || ((x == [115, 116, 97, 116, 101]) || ((x == [102, 110]) || ((x == [111, 110]) || ((x == [108, 101, 116]) || ((x == [115, 101, 116]) || ((x == [100, 101, 108]) || ((x == [105, 102]) || ((x == [101, 108, 115, 101]) || ((x == [102, 111, 114]) || ((x == [116, 111]) || ((x == [114, 101, 116]) || ((x == [116, 114, 117, 101]) || ((x == [102, 97, 108, 115, 101]) || ((x == [105, 110, 116]) || ((x == [98, 111, 111, 108]) || (x == [116, 101, 120, 116]))))))))))))))))) := by
  simp only [Px.reserved, Px.words, List.contains_cons, List.contains_nil, Bool.or_false]

set_option maxRecDepth 100000 in
set_option maxHeartbeats 4000000 in
theorem reserved_any (x : Lx.B) (w : World) : Calls Tryz.prog 13 #[.string ⟨x.toArray⟩] w fun r w' => r = .returned (.bool (Px.reserved x)) ∧ w' = w := by
  have hone : Aside (Px.reserved x = _) := reserved_iff x
  go_enter Tryz.func13, Tryz.ntmps13
  go_wp2
  all_goals
    rename_i hz hy
    first
    | exact absurd (hy.symm.trans hz) Bool.false_ne_true
    | (have h1 : Px.reserved x = true := by rw [hone.out]; simp only [hy, Bool.true_or, Bool.or_true]
       go_ret
       exact ⟨ret_bool h1.symm, rfl⟩)
    | (have h1 : Px.reserved x = false := by rw [hone.out]; simp only [*, Bool.false_or]
       go_ret
       exact ⟨ret_bool h1.symm, rfl⟩)
theorem RdB.alloc {b ga ca : Nat} {ts : List Lx.Tok} {N p er : Nat} {w : World} (h : RdB b ga ca ts N p er w) (o : Obj) : RdB b ga ca ts N p er (w.alloc o) := h.same ((Below.refl _ _).alloc (Nat.le_refl _) _)
theorem RdB.other {b ga ca : Nat} {ts : List Lx.Tok} {N p er : Nat} {w : World} (h : RdB b ga ca ts N p er w) {g : Nat} (j : Nat) (v : Value) (h1 : g ≠ b) (h2 : g ≠ ga) : RdB b ga ca ts N p er (w.setCell ⟨g, j, none⟩ v) := by
  have hk : ∀ k, k ≠ g → (w.setCell ⟨g, j, none⟩ v).heap[k]? = w.heap[k]? := fun k hk => Below.heap_setCell _ _ _ _ hk
  refine ⟨(hk b (fun e => h1 e.symm)).trans h.blk, ?_, by simpa [World.setCell] using h.gl, h.ne, h.lt, h.few⟩
  intro q t hq
  obtain ⟨a1, a2, a3, a4⟩ := h.row q t hq
  have hc : ∀ o, (w.setCell ⟨g, j, none⟩ v).cell? ⟨ga, o, none⟩ = w.cell? ⟨ga, o, none⟩ := fun o => World.cell?_of_block (w := w) (hk ga (fun e => h2 e.symm))
  exact ⟨(hc _).trans a1, (hc _).trans a2, (hc _).trans a3, (hc _).trans a4⟩
theorem RS.other {b ga ca : Nat} {ts : List Lx.Tok} {S : RSt} {w : World} (h : RS b ga ca ts S w) {g : Nat} (j : Nat) (v : Value) (h1 : g ≠ b) (h2 : g ≠ ga) : RS b ga ca ts S (w.setCell ⟨g, j, none⟩ v) := by
  rcases S with l | ⟨p, er⟩
  · obtain ⟨hg, N, hN, hr⟩ := h
    exact ⟨hg, N, hN, hr.other j v h1 h2⟩
  · obtain ⟨hg, N, hr⟩ := h
    exact ⟨hg, N, hr.other j v h1 h2⟩
theorem RS.set4 {b ga ca : Nat} {ts : List Lx.Tok} {S : RSt} {w : World} (h : RS b ga ca ts S w) {g : Nat} (h1 : g ≠ b) (h2 : g ≠ ga) (x0 x1 x2 x3 : Value) : RS b ga ca ts S ((((w.setCell ⟨g, 0, none⟩ x0).setCell ⟨g, 1, none⟩ x1).setCell ⟨g, 2, none⟩ x2).setCell ⟨g, 3, none⟩ x3) :=
  (((h.other 0 x0 h1 h2).other 1 x1 h1 h2).other 2 x2 h1 h2).other 3 x3 h1 h2
theorem Fr.fresh {b : Nat} {w w' : World} (h : Fr b w w') {g : Nat} (hg : w.heap.size ≤ g) (j : Nat) (v : Value) : Fr b w (w'.setCell ⟨g, j, none⟩ v) :=
  ⟨h.os, h.tape, h.output, by simpa [World.setCell] using h.size, fun k h1 h2 => (Below.heap_setCell _ _ _ _ (by show k ≠ g; omega)).trans (h.block k h1 h2)⟩
theorem Fr.set4 {b : Nat} {w w' : World} (h : Fr b w w') {g : Nat} (hg : w.heap.size ≤ g) (x0 x1 x2 x3 : Value) : Fr b w ((((w'.setCell ⟨g, 0, none⟩ x0).setCell ⟨g, 1, none⟩ x1).setCell ⟨g, 2, none⟩ x2).setCell ⟨g, 3, none⟩ x3) :=
  (((h.fresh hg 0 x0).fresh hg 1 x1).fresh hg 2 x2).fresh hg 3 x3
/-- What name answers, in memory. -/
def NamePost (b ga ca : Nat) (ts : List Lx.Tok) (S : RSt) (w : World) (r : Ending) (w' : World) : Prop :=
  ∃ (k : Nat) (t : Lx.B) (m p : Nat), r = .returned (tokV k ⟨t.toArray⟩ m p) ∧ RS b ga ca ts (st (lift Px.name S)) w' ∧ Fr b w w' ∧ ∀ u l', lift Px.name S = .inl (u, l') → u = ⟨k, t, m, p⟩
theorem nameS_bad {t : Lx.Tok} {r : List Lx.Tok} (h : ¬ (t.kind = 1 ∧ Px.reserved t.text = false)) : Px.name (t :: r) = .inr (t.place, 31) := by
  simp only [Px.name]; rw [if_neg h]; rfl
theorem nameS_ok {t : Lx.Tok} {r : List Lx.Tok} (h : t.kind = 1 ∧ Px.reserved t.text = false) : Px.name (t :: r) = .inl (t, r) := by
  simp only [Px.name]; rw [if_pos h]

set_option maxRecDepth 100000 in
set_option maxHeartbeats 8000000 in
theorem rname_any (b ga ca : Nat) (ts : List Lx.Tok) (S : RSt) (w : World) (h : RS b ga ca ts S w) :
    Calls Tryz.prog 39 #[.pointer (some ⟨b, 0, none⟩)] w fun r w' => NamePost b ga ca ts S w r w' := by
  obtain ⟨N, p, er, t, hr, ht, hfl⟩ : ∃ N p er t, RdB b ga ca ts N p er w ∧ ts[N]? = some t ∧ ((er = 0 ∧ p = 0 ∧ ∃ r, S = .inl (t :: r) ∧ ts.drop N = t :: r ∧ Px.Good (t :: r)) ∨ (er ≠ 0 ∧ S = .inr (p, er))) := by
    rcases S with l | ⟨p, er⟩
    · obtain ⟨hg, N, hN, hr⟩ := h
      match l, hg, hN with
      | t :: rr, hg, hN => exact ⟨N, 0, 0, t, hr, (drop_head hN).1, Or.inl ⟨rfl, rfl, rr, rfl, hN, hg⟩⟩
    · obtain ⟨h0, N, hr⟩ := h
      exact ⟨N, p, er, ts[N]'hr.lt, hr, List.getElem?_eq_getElem hr.lt, Or.inr ⟨h0, rfl⟩⟩
  have hb0 : Below w.heap.size w (w.alloc slot0) := (Below.refl _ _).alloc (Nat.le_refl _) _
  have hr0 := hr.alloc slot0
  have hR0 : RS b ga ca ts S (w.alloc slot0) := h.below hb0
  obtain ⟨c0, c1, c2, c3, f1, f2, f3⟩ := hr0.cells
  obtain ⟨x0, x1, x2, x3⟩ := hr0.row N t ht
  have hfew := hr.few
  have hlt := hr.lt
  have hltI : (N : Int) < (ts.length : Int) := by omega
  have hbl := hr.there
  have hgl := hr.gl
  have hs0 := Slot.new w
  have hsz0 : (w.alloc slot0).heap.size = w.heap.size + 1 := by simp
  go_enter Tryz.func39, Tryz.ntmps39
  go_upto_region 1 with fail
  have hf0 : Fr b w (w.alloc slot0) := Fr.of_below hb0
  have hg2 : w.heap.size ≠ b := by omega
  generalize w.alloc slot0 = w0 at *
  go_region
  have hb1 : Below w0.heap.size w0 ((w0.alloc (.cells #[.int .i64 t.kind, .string ⟨t.text.toArray⟩, .int .i64 t.num, .int .i64 t.place] 39)).drew) := ((Below.refl _ _).alloc (Nat.le_refl _) _).trans ⟨rfl, rfl, rfl, Nat.le_refl _, fun _ _ => rfl⟩
  have d0 : ((w0.alloc (.cells #[.int .i64 t.kind, .string ⟨t.text.toArray⟩, .int .i64 t.num, .int .i64 t.place] 39)).drew).cell? ⟨w0.heap.size, 0, none⟩ = some (.int .i64 t.kind) := by simp
  have d1 : ((w0.alloc (.cells #[.int .i64 t.kind, .string ⟨t.text.toArray⟩, .int .i64 t.num, .int .i64 t.place] 39)).drew).cell? ⟨w0.heap.size, 1, none⟩ = some (.string ⟨t.text.toArray⟩) := by simp
  have d2 : ((w0.alloc (.cells #[.int .i64 t.kind, .string ⟨t.text.toArray⟩, .int .i64 t.num, .int .i64 t.place] 39)).drew).cell? ⟨w0.heap.size, 2, none⟩ = some (.int .i64 t.num) := by simp
  have d3 : ((w0.alloc (.cells #[.int .i64 t.kind, .string ⟨t.text.toArray⟩, .int .i64 t.num, .int .i64 t.place] 39)).drew).cell? ⟨w0.heap.size, 3, none⟩ = some (.int .i64 t.place) := by simp
  have d4 : w0.heap.size < ((w0.alloc (.cells #[.int .i64 t.kind, .string ⟨t.text.toArray⟩, .int .i64 t.num, .int .i64 t.place] 39)).drew).heap.size := by simp
  have hr1 := hr0.same hb1
  have hR1 := hR0.below hb1
  have hs1 := hs0.below hb1 hs0.lt
  have hf1 : Fr b w ((w0.alloc (.cells #[.int .i64 t.kind, .string ⟨t.text.toArray⟩, .int .i64 t.num, .int .i64 t.place] 39)).drew) := hf0.trans (Fr.of_below hb1)
  have hne3 : w0.heap.size ≠ b := by omega
  have hne23 : w.heap.size ≠ w0.heap.size := by omega
  have hg2a : w.heap.size ≠ ga := by omega
  have hwg : w.heap.size ≤ w.heap.size := Nat.le_refl _
  rw [hsz0] at d0 d1 d2 d3 d4 hne3 hne23
  clear hb1 hr0 hR0 c0 c1 c2 c3 f1 f2 f3 x0 x1 x2 x3 hs0 hf0 hb0 h hsz0
  generalize ((w0.alloc (.cells #[.int .i64 t.kind, .string ⟨t.text.toArray⟩, .int .i64 t.num, .int .i64 t.place] 39)).drew) = w1 at *
  generalize w.heap.size + 1 = g3 at *
  replace hwg : Aside (w.heap.size ≤ w.heap.size) := hwg
  obtain ⟨g2, hg2e⟩ : ∃ g2, g2 = w.heap.size := ⟨_, rfl⟩
  rw [← hg2e] at hs1 hne23 hg2 hg2a ⊢
  replace hwg : w.heap.size ≤ g2 := by omega
  obtain ⟨c0, c1, c2, c3, f1, f2, f3⟩ := hr1.cells
  obtain ⟨y0, y1, y2, y3, e0, e1, e2, e3, k0, k1, k2, k3⟩ := hs1.cells
  have hgs := hs1.lt
  have hbt := hr1.there
  clear hg2e
  rcases hfl with ⟨rfl, rfl, rr, rfl, hN, hgd⟩ | ⟨h0, rfl⟩
  · by_cases hk : t.kind = 1
    · rcases hres : Px.reserved t.text with _ | _
      · have hnm := nameS_ok (r := rr) ⟨hk, hres⟩
        obtain ⟨_, hN2, _⟩ := drop_head hN
        have hg2r : Px.Good rr := hgd.tail (by omega)
        have hlt2 : N + 1 < ts.length := by
          rcases Nat.lt_or_ge (N + 1) ts.length with h | h
          · exact h
          · rw [List.drop_eq_nil_of_le h] at hN2; subst hN2; exact absurd hg2r (by simp [Px.Good])
        have hset := (set_blk hr1.blk).1 (.int .i64 ((N : Int) + 1))
        have hR2 : RS b ga ca ts (.inl rr) (w1.setCell ⟨b, 1, none⟩ (.int .i64 ((N : Int) + 1))) := ⟨hg2r, N + 1, hN2, hr1.fr (Fr.set 1 _) hset hlt2⟩
        have hf2 : Fr b w (w1.setCell ⟨b, 1, none⟩ (.int .i64 ((N : Int) + 1))) := hf1.trans (Fr.set 1 _)
        have hgoodpost : ∀ w9, RS b ga ca ts (.inl rr) w9 → Fr b w w9 → NamePost b ga ca ts (.inl (t :: rr)) w (.returned (tokV t.kind ⟨t.text.toArray⟩ t.num t.place)) w9 := by
          intro w9 h9 f9
          exact ⟨t.kind, t.text, t.num, t.place, rfl, by simp only [lift, hnm, st]; exact h9, f9, fun u l' hu => by simp only [lift, hnm] at hu; simp at hu; rw [← hu.1]⟩
        have hsx : ∀ (g o : Nat) (u : Value), g ≠ b → w1.cell? ⟨g, o, none⟩ = some u → (w1.setCell ⟨b, 1, none⟩ (.int .i64 ((N : Int) + 1))).cell? ⟨g, o, none⟩ = some u := fun g o u hn hu => (World.cell?_of_block (w := w1) (Below.heap_setCell _ _ _ _ hn)).trans hu
        rw [hk] at d0 hgoodpost
        have d0' := hsx g3 0 _ hne3 d0
        have d1' := hsx g3 1 _ hne3 d1
        have d2' := hsx g3 2 _ hne3 d2
        have d3' := hsx g3 3 _ hne3 d3
        have hs2 : Slot g2 (w1.setCell ⟨b, 1, none⟩ (.int .i64 ((N : Int) + 1))) := by
          obtain ⟨a1, a2, a3, a4, hh⟩ := hs1
          exact ⟨a1, a2, a3, a4, (Below.heap_setCell _ _ _ _ hg2).trans hh⟩
        have d4' : g3 < (w1.setCell ⟨b, 1, none⟩ (.int .i64 ((N : Int) + 1))).heap.size := by simpa [World.setCell] using d4
        clear hnm hset hN hN2 hgd hg2r hsx
        go_upto_region 4 with (go_at_call 13; refine (reserved_any t.text _).mono ?_; rw [hres]; rintro e w9 ⟨rfl, rfl⟩)
        generalize (w9.setCell ⟨b, 1, none⟩ (.int .i64 ((N : Int) + 1))) = w2 at *
        clear d0 d1 d2 d3 e0 e1 e2 e3 k0 k1 k2 k3
        obtain ⟨z0, z1, z2, z3, e0, e1, e2, e3, k0, k1, k2, k3⟩ := hs2.cells
        have hgg := hs2.lt
        go_wp2
        exact bodyPost_ret (v := tokV 1 ⟨t.text.toArray⟩ t.num t.place) (by simp [results, Tryz.results39, go_sem, e0, e1, e2, e3, tokV]) rfl (hgoodpost _ (hR2.set4 hg2 hg2a _ _ _ _) (hf2.set4 hwg _ _ _ _))
      · have hbadpost : ∀ w9, RS b ga ca ts (failS 31 (.inl (t :: rr))) w9 → Fr b w w9 → NamePost b ga ca ts (.inl (t :: rr)) w (.returned (tokV 0 ⟨#[]⟩ 0 0)) w9 := by
          intro w9 h9 f9
          have e : Px.name (t :: rr) = .inr (t.place, 31) := nameS_bad (fun a => by rw [hres] at a; simp at a)
          exact ⟨0, [], 0, 0, rfl, by simp only [lift, e, st]; exact h9, f9, fun u l' hu => by simp only [lift, e] at hu; simp at hu⟩
        rw [hk] at d0
        clear hN hgd
        go_wp2_with (go_at_call 13; refine (reserved_any t.text _).mono ?_; rw [hres]; rintro e w9 ⟨rfl, rfl⟩)
        refine (fail_any b ga ca ts (.inl (t :: rr)) 31 w9 (by decide) hR1).mono ?_
        rintro e w2 ⟨rfl, hR2, hf2⟩
        have hs2 : Slot g2 w2 := by
          obtain ⟨a1, a2, a3, a4, hh⟩ := hs1
          exact ⟨a1, a2, a3, a4, (hf2.block g2 (Array.getElem?_eq_some_iff.1 hh).1 (hg2)).trans hh⟩
        obtain ⟨z0, z1, z2, z3, e0, e1, e2, e3, k0, k1, k2, k3⟩ := hs2.cells
        have hgg := hs2.lt
        go_wp2
        exact bodyPost_ret (v := tokV 0 ⟨#[]⟩ 0 0) (by simp [results, Tryz.results39, go_sem, e0, e1, e2, e3, tokV]) rfl (hbadpost _ (hR2.set4 hg2 hg2a _ _ _ _) ((hf1.trans hf2).set4 hwg _ _ _ _))
    · have hbadpost : ∀ w9, RS b ga ca ts (failS 31 (.inl (t :: rr))) w9 → Fr b w w9 → NamePost b ga ca ts (.inl (t :: rr)) w (.returned (tokV 0 ⟨#[]⟩ 0 0)) w9 := by
        intro w9 h9 f9
        have e : Px.name (t :: rr) = .inr (t.place, 31) := nameS_bad (fun a => hk a.1)
        exact ⟨0, [], 0, 0, rfl, by simp only [lift, e, st]; exact h9, f9, fun u l' hu => by simp only [lift, e] at hu; simp at hu⟩
      have hkI : ((t.kind : Int) == 1) = false := by simp; omega
      clear hN hgd
      go_wp2_with fail
      refine (fail_any b ga ca ts (.inl (t :: rr)) 31 w1 (by decide) hR1).mono ?_
      rintro e w2 ⟨rfl, hR2, hf2⟩
      have hs2 : Slot g2 w2 := by
        obtain ⟨a1, a2, a3, a4, hh⟩ := hs1
        exact ⟨a1, a2, a3, a4, (hf2.block g2 (Array.getElem?_eq_some_iff.1 hh).1 (hg2)).trans hh⟩
      obtain ⟨z0, z1, z2, z3, e0, e1, e2, e3, k0, k1, k2, k3⟩ := hs2.cells
      have hgg := hs2.lt
      go_wp2
      exact bodyPost_ret (v := tokV 0 ⟨#[]⟩ 0 0) (by simp [results, Tryz.results39, go_sem, e0, e1, e2, e3, tokV]) rfl (hbadpost _ (hR2.set4 hg2 hg2a _ _ _ _) ((hf1.trans hf2).set4 hwg _ _ _ _))
  · have hbadpost : ∀ w9, RS b ga ca ts (failS 31 (.inr (p, er))) w9 → Fr b w w9 → NamePost b ga ca ts (.inr (p, er)) w (.returned (tokV 0 ⟨#[]⟩ 0 0)) w9 := by
      intro w9 h9 f9
      exact ⟨0, [], 0, 0, rfl, h9, f9, fun u l' hu => by simp [lift] at hu⟩
    have herI : ((er : Int) == 0) = false := by simp; omega
    go_wp2_with fail
    refine (fail_any b ga ca ts (.inr (p, er)) 31 w1 (by decide) hR1).mono ?_
    rintro e w2 ⟨rfl, hR2, hf2⟩
    have hs2 : Slot g2 w2 := by
      obtain ⟨a1, a2, a3, a4, hh⟩ := hs1
      exact ⟨a1, a2, a3, a4, (hf2.block g2 (Array.getElem?_eq_some_iff.1 hh).1 (hg2)).trans hh⟩
    obtain ⟨z0, z1, z2, z3, e0, e1, e2, e3, k0, k1, k2, k3⟩ := hs2.cells
    have hgg := hs2.lt
    go_wp2
    exact bodyPost_ret (v := tokV 0 ⟨#[]⟩ 0 0) (by simp [results, Tryz.results39, go_sem, e0, e1, e2, e3, tokV]) rfl (hbadpost _ (hR2.set4 hg2 hg2a _ _ _ _) ((hf1.trans hf2).set4 hwg _ _ _ _))
end Go.Proofs.YtnmdnjdibdmodaaGreatDoor
/- The document's types. -/
namespace Go.Proofs.YtnmdnjdibdmodaaGreatDoor
open Go.RowKit
set_option linter.unusedSimpArgs false
set_option linter.unusedVariables false

theorem got_no (b ga ca : Nat) (ts : List Lx.Tok) (S : RSt) (k : Nat) (x : Lx.B) (w : World) (hk5 : k ≠ 5) (hs : seesS k x S = false) (h : RS b ga ca ts S w) :
    Calls Tryz.prog 21 #[.pointer (some ⟨b, 0, none⟩), .int .i64 k, .string ⟨x.toArray⟩] w fun r w' => r = .returned (.bool false) ∧ RS b ga ca ts S w' ∧ Fr b w w' := by
  have := got_any b ga ca ts S k x w hk5 h
  rw [hs, gotS_no hs] at this
  exact this
theorem got_yes (b ga ca : Nat) (ts : List Lx.Tok) (l : List Lx.Tok) (k : Nat) (x : Lx.B) (w : World) (hk5 : k ≠ 5) (hs : Px.sees k x l = true) (h : RS b ga ca ts (.inl l) w) :
    Calls Tryz.prog 21 #[.pointer (some ⟨b, 0, none⟩), .int .i64 k, .string ⟨x.toArray⟩] w fun r w' => r = .returned (.bool true) ∧ RS b ga ca ts (.inl l.tail) w' ∧ Fr b w w' := by
  have := got_any b ga ca ts (.inl l) k x w hk5 h
  rw [show seesS k x (.inl l) = true from hs, show gotS k x (.inl l) = .inl l.tail by simp only [gotS]; rw [if_pos hs]] at this
  exact this
/-- What the reading of a type answers: a text, whatever it is behind a fault. -/
def TypPost (b ga ca : Nat) (ts : List Lx.Tok) (d : Nat) (S : RSt) (w : World) (r : Ending) (w' : World) : Prop :=
  ∃ y : Lx.B, r = .returned (.string ⟨y.toArray⟩) ∧ RS b ga ca ts (st (lift (Px.typ (5 - d)) S)) w' ∧ Fr b w w' ∧ (∀ u l', lift (Px.typ (5 - d)) S = .inl (u, l') → u = y) ∧ y.length ≤ 40 - 7 * d
theorem cat2s (a c : List UInt8) : (⟨a.toArray⟩ ++ ⟨c.toArray⟩ : ByteArray) = ⟨(a ++ c).toArray⟩ := bytes_same (by rw [ByteArray.data_append]; simp)
theorem fail_inr (b ga ca : Nat) (ts : List Lx.Tok) (p er e : Nat) (w : World) (he : e ≠ 0) (h : RS b ga ca ts (.inr (p, er)) w) :
    Calls Tryz.prog 22 #[.pointer (some ⟨b, 0, none⟩), .int .i64 e] w fun r w' => r = .returned (.tuple #[]) ∧ RS b ga ca ts (.inr (p, er)) w' ∧ Fr b w w' := fail_any b ga ca ts (.inr (p, er)) e w he h

set_option maxRecDepth 100000 in
set_option maxHeartbeats 8000000 in
theorem kind_bad (b ga ca : Nat) (ts : List Lx.Tok) (d p er : Nat) (w : World) (hd : d ≤ 5) (h : RS b ga ca ts (.inr (p, er)) w) :
    Calls Tryz.prog 40 #[.pointer (some ⟨b, 0, none⟩), .int .i64 d] w fun r w' => r = .returned (.string ⟨#[]⟩) ∧ RS b ga ca ts (.inr (p, er)) w' ∧ Fr b w w' := by
  have q1 : seesS 1 [105, 110, 116] (.inr (p, er)) = false := rfl
  have q2 : seesS 1 [98, 111, 111, 108] (.inr (p, er)) = false := rfl
  have q3 : seesS 1 [116, 101, 120, 116] (.inr (p, er)) = false := rfl
  have q4 : seesS 4 [91] (.inr (p, er)) = false := rfl
  have q5 : seesS 4 [123] (.inr (p, er)) = false := rfl
  have hf0 : Fr b w w := Fr.refl _ _
  by_cases h4 : 4 < d
  · have h4I : 4 < (d : Int) := by omega
    go_enter Tryz.func40, Tryz.ntmps40
    go_wp2_with fail
    refine (fail_inr b ga ca ts p er 32 w (by decide) h).mono ?_
    rintro e w0 ⟨rfl, hR0, hf0⟩
    go_wp2_with fail
    refine (got_no b ga ca ts (.inr (p, er)) 1 [105, 110, 116] w0 (by decide) q1 hR0).mono ?_
    rintro e w1 ⟨rfl, hR1, hg1⟩
    have hf1 : Fr b w w1 := hf0.trans hg1
    clear hg1
    go_wp2_with fail
    refine (got_no b ga ca ts (.inr (p, er)) 1 [98, 111, 111, 108] w1 (by decide) q2 hR1).mono ?_
    rintro e w2 ⟨rfl, hR2, hg2⟩
    have hf2 : Fr b w w2 := hf1.trans hg2
    clear hg2
    go_wp2_with fail
    refine (got_no b ga ca ts (.inr (p, er)) 1 [116, 101, 120, 116] w2 (by decide) q3 hR2).mono ?_
    rintro e w3 ⟨rfl, hR3, hg3⟩
    have hf3 : Fr b w w3 := hf2.trans hg3
    clear hg3
    go_wp2_with fail
    refine (got_no b ga ca ts (.inr (p, er)) 4 [91] w3 (by decide) q4 hR3).mono ?_
    rintro e w4 ⟨rfl, hR4, hg4⟩
    have hf4 : Fr b w w4 := hf3.trans hg4
    clear hg4
    go_wp2_with fail
    refine (got_no b ga ca ts (.inr (p, er)) 4 [123] w4 (by decide) q5 hR4).mono ?_
    rintro e w5 ⟨rfl, hR5, hg5⟩
    have hf5 : Fr b w w5 := hf4.trans hg5
    clear hg5
    go_wp2_with fail
    refine (fail_inr b ga ca ts p er 31 w5 (by decide) hR5).mono ?_
    rintro e w6 ⟨rfl, hR6, hg6⟩
    go_wp2
    go_ret
    exact ⟨rfl, hR6, hf5.trans hg6⟩
  · have h4I : ¬ 4 < (d : Int) := by omega
    go_enter Tryz.func40, Tryz.ntmps40
    go_wp2_with fail
    refine (got_no b ga ca ts (.inr (p, er)) 1 [105, 110, 116] w (by decide) q1 h).mono ?_
    rintro e w1 ⟨rfl, hR1, hg1⟩
    have hf1 : Fr b w w1 := hf0.trans hg1
    clear hg1
    go_wp2_with fail
    refine (got_no b ga ca ts (.inr (p, er)) 1 [98, 111, 111, 108] w1 (by decide) q2 hR1).mono ?_
    rintro e w2 ⟨rfl, hR2, hg2⟩
    have hf2 : Fr b w w2 := hf1.trans hg2
    clear hg2
    go_wp2_with fail
    refine (got_no b ga ca ts (.inr (p, er)) 1 [116, 101, 120, 116] w2 (by decide) q3 hR2).mono ?_
    rintro e w3 ⟨rfl, hR3, hg3⟩
    have hf3 : Fr b w w3 := hf2.trans hg3
    clear hg3
    go_wp2_with fail
    refine (got_no b ga ca ts (.inr (p, er)) 4 [91] w3 (by decide) q4 hR3).mono ?_
    rintro e w4 ⟨rfl, hR4, hg4⟩
    have hf4 : Fr b w w4 := hf3.trans hg4
    clear hg4
    go_wp2_with fail
    refine (got_no b ga ca ts (.inr (p, er)) 4 [123] w4 (by decide) q5 hR4).mono ?_
    rintro e w5 ⟨rfl, hR5, hg5⟩
    have hf5 : Fr b w w5 := hf4.trans hg5
    clear hg5
    go_wp2_with fail
    refine (fail_inr b ga ca ts p er 31 w5 (by decide) hR5).mono ?_
    rintro e w6 ⟨rfl, hR6, hg6⟩
    go_wp2
    go_ret
    exact ⟨rfl, hR6, hf5.trans hg6⟩
set_option maxRecDepth 100000 in
set_option maxHeartbeats 8000000 in
theorem kind_deep (b ga ca : Nat) (ts : List Lx.Tok) (l : List Lx.Tok) (w : World) (h : RS b ga ca ts (.inl l) w) :
    Calls Tryz.prog 40 #[.pointer (some ⟨b, 0, none⟩), .int .i64 5] w fun r w' => r = .returned (.string ⟨#[]⟩) ∧ RS b ga ca ts (.inr (Px.place l, 32)) w' ∧ Fr b w w' := by
  have q1 : seesS 1 [105, 110, 116] (.inr (Px.place l, 32)) = false := rfl
  have q2 : seesS 1 [98, 111, 111, 108] (.inr (Px.place l, 32)) = false := rfl
  have q3 : seesS 1 [116, 101, 120, 116] (.inr (Px.place l, 32)) = false := rfl
  have q4 : seesS 4 [91] (.inr (Px.place l, 32)) = false := rfl
  have q5 : seesS 4 [123] (.inr (Px.place l, 32)) = false := rfl
  go_enter Tryz.func40, Tryz.ntmps40
  go_wp2_with fail
  refine (fail_any b ga ca ts (.inl l) 32 w (by decide) h).mono ?_
  rintro e w0 ⟨rfl, hR0, hf0⟩
  replace hR0 : RS b ga ca ts (.inr (Px.place l, 32)) w0 := hR0
  go_wp2_with fail
  refine (got_no b ga ca ts (.inr (Px.place l, 32)) 1 [105, 110, 116] w0 (by decide) q1 hR0).mono ?_
  rintro e w1 ⟨rfl, hR1, hg1⟩
  have hf1 : Fr b w w1 := hf0.trans hg1
  clear hg1
  go_wp2_with fail
  refine (got_no b ga ca ts (.inr (Px.place l, 32)) 1 [98, 111, 111, 108] w1 (by decide) q2 hR1).mono ?_
  rintro e w2 ⟨rfl, hR2, hg2⟩
  have hf2 : Fr b w w2 := hf1.trans hg2
  clear hg2
  go_wp2_with fail
  refine (got_no b ga ca ts (.inr (Px.place l, 32)) 1 [116, 101, 120, 116] w2 (by decide) q3 hR2).mono ?_
  rintro e w3 ⟨rfl, hR3, hg3⟩
  have hf3 : Fr b w w3 := hf2.trans hg3
  clear hg3
  go_wp2_with fail
  refine (got_no b ga ca ts (.inr (Px.place l, 32)) 4 [91] w3 (by decide) q4 hR3).mono ?_
  rintro e w4 ⟨rfl, hR4, hg4⟩
  have hf4 : Fr b w w4 := hf3.trans hg4
  clear hg4
  go_wp2_with fail
  refine (got_no b ga ca ts (.inr (Px.place l, 32)) 4 [123] w4 (by decide) q5 hR4).mono ?_
  rintro e w5 ⟨rfl, hR5, hg5⟩
  have hf5 : Fr b w w5 := hf4.trans hg5
  clear hg5
  go_wp2_with fail
  refine (fail_inr b ga ca ts (Px.place l) 32 31 w5 (by decide) hR5).mono ?_
  rintro e w6 ⟨rfl, hR6, hg6⟩
  go_wp2
  go_ret
  exact ⟨rfl, hR6, hf5.trans hg6⟩
theorem st_bind_need {α : Type} {r : Px.R Lx.B} {x : Lx.B} {f : Lx.B → α} : st (Px.bind r fun t l1 => Px.bind (Px.need x l1) fun _ l2 => .inl (f t, l2)) = needS x (st r) := by
  rcases r with ⟨t, l1⟩ | g
  · simp only [Px.bind, st, needS, lift]
    rcases Px.need x l1 with ⟨u, l2⟩ | g <;> rfl
  · rfl
theorem bind_need_val {α : Type} {r : Px.R Lx.B} {x : Lx.B} {f : Lx.B → α} {u : α} {l' : List Lx.Tok} (h : (Px.bind r fun t l1 => Px.bind (Px.need x l1) fun _ l2 => .inl (f t, l2)) = .inl (u, l')) : ∃ t l1, r = .inl (t, l1) ∧ u = f t := by
  rcases r with ⟨t, l1⟩ | g
  · refine ⟨t, l1, rfl, ?_⟩
    simp only [Px.bind] at h
    rcases hn : Px.need x l1 with ⟨v, l2⟩ | g
    · rw [hn] at h; simp at h; exact h.1.symm
    · rw [hn] at h; simp at h
  · simp [Px.bind] at h

set_option maxRecDepth 100000 in
set_option maxHeartbeats 16000000 in
theorem kind_any : ∀ (K d : Nat) (b ga ca : Nat) (ts : List Lx.Tok) (S : RSt) (w : World), 5 - d ≤ K → d ≤ 5 → RS b ga ca ts S w →
    Calls Tryz.prog 40 #[.pointer (some ⟨b, 0, none⟩), .int .i64 d] w fun r w' => TypPost b ga ca ts d S w r w' := by
  intro K
  induction K with
  | zero =>
    intro d b ga ca ts S w hK hd h
    obtain rfl : d = 5 := by omega
    rcases S with l | ⟨p, er⟩
    · refine (kind_deep b ga ca ts l w h).mono ?_
      rintro e w' ⟨rfl, hR, hf⟩
      exact ⟨[], rfl, hR, hf, fun u l' hu => by simp [lift, Px.typ, Px.fail] at hu, by simp⟩
    · refine (kind_bad b ga ca ts 5 p er w (by omega) h).mono ?_
      rintro e w' ⟨rfl, hR, hf⟩
      exact ⟨[], rfl, hR, hf, fun u l' hu => by simp [lift] at hu, by simp⟩
  | succ K ih =>
    intro d b ga ca ts S w hK hd h
    rcases S with l | ⟨p, er⟩
    rotate_left
    · refine (kind_bad b ga ca ts d p er w hd h).mono ?_
      rintro e w' ⟨rfl, hR, hf⟩
      exact ⟨[], rfl, hR, hf, fun u l' hu => by simp [lift] at hu, by simp⟩
    by_cases h5 : d = 5
    · subst h5
      refine (kind_deep b ga ca ts l w h).mono ?_
      rintro e w' ⟨rfl, hR, hf⟩
      exact ⟨[], rfl, hR, hf, fun u l' hu => by simp [lift, Px.typ, Px.fail] at hu, by simp⟩
    have h4I : ¬ 4 < (d : Int) := by omega
    obtain ⟨k, hk⟩ : ∃ k, 5 - d = k + 1 := ⟨4 - d, by omega⟩
    have hk1 : 5 - (d + 1) = k := by omega
    have ihd := fun S w => ih (d + 1) b ga ca ts S w (by omega) (by omega)
    have hf0 : Fr b w w := Fr.refl _ _
    have hposts : Aside (∀ (y : Lx.B) (w9 : World), RS b ga ca ts (st (Px.typ (k + 1) l)) w9 → Fr b w w9 → (∀ u l', Px.typ (k + 1) l = .inl (u, l') → u = y) → y.length ≤ 40 - 7 * d → TypPost b ga ca ts d (.inl l) w (.returned (.string ⟨y.toArray⟩)) w9) := by
      intro y w9 h1 h2 h3 h4
      refine ⟨y, rfl, ?_, h2, ?_, h4⟩
      · simp only [lift]; rw [hk]; exact h1
      · simp only [lift]; rw [hk]; exact h3
    clear ih hk
    rcases q1 : Px.sees 1 [105, 110, 116] l with _ | _
    rotate_left
    · have ht : Px.typ (k + 1) l = .inl ([105, 110, 116], l.tail) := by simp only [Px.typ, q1]; rfl
      go_enter Tryz.func40, Tryz.ntmps40
      go_wp2_with fail
      refine (got_yes b ga ca ts l 1 [105, 110, 116] w (by decide) q1 h).mono ?_
      rintro e w1 ⟨rfl, hR1, hg1⟩
      have hf1 : Fr b w w1 := hf0.trans hg1
      clear hg1
      go_wp2
      go_ret
      exact hposts.out [105, 110, 116] _ (by rw [ht]; exact hR1) hf1 (fun u l' hu => by rw [ht] at hu; simp at hu; exact hu.1.symm) (by simp; omega)
    rcases q2 : Px.sees 1 [98, 111, 111, 108] l with _ | _
    rotate_left
    · have ht : Px.typ (k + 1) l = .inl ([98, 111, 111, 108], l.tail) := by simp only [Px.typ, q1, q2]; rfl
      go_enter Tryz.func40, Tryz.ntmps40
      go_wp2_with fail
      refine (got_no b ga ca ts (.inl l) 1 [105, 110, 116] w (by decide) q1 h).mono ?_
      rintro e w1 ⟨rfl, hR1, hg1⟩
      have hf1 : Fr b w w1 := hf0.trans hg1
      clear hg1
      go_wp2_with fail
      refine (got_yes b ga ca ts l 1 [98, 111, 111, 108] w1 (by decide) q2 hR1).mono ?_
      rintro e w2 ⟨rfl, hR2, hg2⟩
      have hf2 : Fr b w w2 := hf1.trans hg2
      clear hg2
      go_wp2
      go_ret
      exact hposts.out [98, 111, 111, 108] _ (by rw [ht]; exact hR2) hf2 (fun u l' hu => by rw [ht] at hu; simp at hu; exact hu.1.symm) (by simp; omega)
    rcases q3 : Px.sees 1 [116, 101, 120, 116] l with _ | _
    rotate_left
    · have ht : Px.typ (k + 1) l = .inl ([116, 101, 120, 116], l.tail) := by simp only [Px.typ, q1, q2, q3]; rfl
      go_enter Tryz.func40, Tryz.ntmps40
      go_wp2_with fail
      refine (got_no b ga ca ts (.inl l) 1 [105, 110, 116] w (by decide) q1 h).mono ?_
      rintro e w1 ⟨rfl, hR1, hg1⟩
      have hf1 : Fr b w w1 := hf0.trans hg1
      clear hg1
      go_wp2_with fail
      refine (got_no b ga ca ts (.inl l) 1 [98, 111, 111, 108] w1 (by decide) q2 hR1).mono ?_
      rintro e w2 ⟨rfl, hR2, hg2⟩
      have hf2 : Fr b w w2 := hf1.trans hg2
      clear hg2
      go_wp2_with fail
      refine (got_yes b ga ca ts l 1 [116, 101, 120, 116] w2 (by decide) q3 hR2).mono ?_
      rintro e w3 ⟨rfl, hR3, hg3⟩
      have hf3 : Fr b w w3 := hf2.trans hg3
      clear hg3
      go_wp2
      go_ret
      exact hposts.out [116, 101, 120, 116] _ (by rw [ht]; exact hR3) hf3 (fun u l' hu => by rw [ht] at hu; simp at hu; exact hu.1.symm) (by simp; omega)
    rcases q4 : Px.sees 4 [91] l with _ | _
    rotate_left
    · have ht : Px.typ (k + 1) l = Px.bind (Px.typ k l.tail) fun t l1 => Px.bind (Px.need [93] l1) fun _ l2 => .inl ([91] ++ t ++ [93], l2) := by simp only [Px.typ, q1, q2, q3, q4]; rfl
      go_enter Tryz.func40, Tryz.ntmps40
      go_wp2_with fail
      refine (got_no b ga ca ts (.inl l) 1 [105, 110, 116] w (by decide) q1 h).mono ?_
      rintro e w1 ⟨rfl, hR1, hg1⟩
      have hf1 : Fr b w w1 := hf0.trans hg1
      clear hg1
      go_wp2_with fail
      refine (got_no b ga ca ts (.inl l) 1 [98, 111, 111, 108] w1 (by decide) q2 hR1).mono ?_
      rintro e w2 ⟨rfl, hR2, hg2⟩
      have hf2 : Fr b w w2 := hf1.trans hg2
      clear hg2
      go_wp2_with fail
      refine (got_no b ga ca ts (.inl l) 1 [116, 101, 120, 116] w2 (by decide) q3 hR2).mono ?_
      rintro e w3 ⟨rfl, hR3, hg3⟩
      have hf3 : Fr b w w3 := hf2.trans hg3
      clear hg3
      go_wp2_with fail
      refine (got_yes b ga ca ts l 4 [91] w3 (by decide) q4 hR3).mono ?_
      rintro e w4 ⟨rfl, hR4, hg4⟩
      have hf4 : Fr b w w4 := hf3.trans hg4
      clear hg4
      have hrec := ihd (.inl l.tail) w4 hR4
      unfold TypPost at hrec
      rw [hk1] at hrec
      have hdI : ((d + 1 : Nat) : Int) = (d : Int) + 1 := by omega
      rw [hdI] at hrec
      go_wp2_with fail
      refine hrec.mono ?_
      rintro e w5 ⟨y, rfl, hR5, hg5, hy5, hl5⟩
      go_wp2_with fail
      refine (need_any b ga ca ts _ [93] w5 hR5).mono ?_
      rintro e w6 ⟨rfl, hR6, hg6⟩
      have hyz : (⟨y.toArray⟩ : ByteArray).size = y.length := by show y.toArray.size = _; simp
      have c1 : ¬ 9223372036854775807 < 1 + y.length := by omega
      have c2 : ¬ 9223372036854775807 < 1 + y.length + 1 := by omega
      have hfin := hposts.out ([91] ++ y ++ [93]) w6 (by rw [ht, st_bind_need]; exact hR6) ((hf4.trans hg5).trans hg6) (fun u l' hu => by
        rw [ht] at hu
        obtain ⟨t, l1, h1, h2⟩ := bind_need_val (f := fun t => [91] ++ t ++ [93]) hu
        rw [h2, hy5 t l1 h1]) (by simp; omega)
      rw [← cat2s, ← cat2s] at hfin
      clear hrec hR5 hR6 hposts ht ihd
      go_wp2
      go_ret
      exact hfin
    rcases q5 : Px.sees 4 [123] l with _ | _
    rotate_left
    · have ht : Px.typ (k + 1) l = Px.bind (Px.key l.tail) fun a l2 => Px.bind (Px.need [58] l2) fun _ l3 => Px.bind (Px.typ k l3) fun t l4 => Px.bind (Px.need [125] l4) fun _ l5 => .inl ([123] ++ a ++ [58] ++ t ++ [125], l5) := by simp only [Px.typ, q1, q2, q3, q4, q5]; rfl
      rcases q6 : Px.sees 1 [105, 110, 116] l.tail with _ | _
      rotate_left
      · have hkey : Px.key l.tail = .inl ([105, 110, 116], l.tail.tail) := by simp only [Px.key, q6]; rfl
        go_enter Tryz.func40, Tryz.ntmps40
        go_wp2_with fail
        refine (got_no b ga ca ts (.inl l) 1 [105, 110, 116] w (by decide) q1 h).mono ?_
        rintro e w1 ⟨rfl, hR1, hg1⟩
        have hf1 : Fr b w w1 := hf0.trans hg1
        clear hg1
        go_wp2_with fail
        refine (got_no b ga ca ts (.inl l) 1 [98, 111, 111, 108] w1 (by decide) q2 hR1).mono ?_
        rintro e w2 ⟨rfl, hR2, hg2⟩
        have hf2 : Fr b w w2 := hf1.trans hg2
        clear hg2
        go_wp2_with fail
        refine (got_no b ga ca ts (.inl l) 1 [116, 101, 120, 116] w2 (by decide) q3 hR2).mono ?_
        rintro e w3 ⟨rfl, hR3, hg3⟩
        have hf3 : Fr b w w3 := hf2.trans hg3
        clear hg3
        go_wp2_with fail
        refine (got_no b ga ca ts (.inl l) 4 [91] w3 (by decide) q4 hR3).mono ?_
        rintro e w4 ⟨rfl, hR4, hg4⟩
        have hf4 : Fr b w w4 := hf3.trans hg4
        clear hg4
        go_wp2_with fail
        refine (got_yes b ga ca ts l 4 [123] w4 (by decide) q5 hR4).mono ?_
        rintro e w5 ⟨rfl, hR5, hg5⟩
        have hf5 : Fr b w w5 := hf4.trans hg5
        clear hg5
        go_wp2_with fail
        refine (got_yes b ga ca ts l.tail 1 [105, 110, 116] w5 (by decide) q6 hR5).mono ?_
        rintro e w6 ⟨rfl, hR6, hg6⟩
        have hf6 : Fr b w w6 := hf5.trans hg6
        clear hg6
        rcases hn : Px.need [58] l.tail.tail with ⟨un, l3⟩ | ⟨pf, ef⟩
        · have hneed := need_any b ga ca ts (.inl l.tail.tail) [58] w6 hR6
          rw [show needS [58] (.inl l.tail.tail) = .inl l3 by simp only [needS, lift, hn, st]] at hneed
          go_wp2_with fail
          refine hneed.mono ?_
          rintro e w8 ⟨rfl, hR8, hg8⟩
          have hf8 : Fr b w w8 := hf6.trans hg8
          obtain ⟨_, N8, _, hr8⟩ := id hR8
          obtain ⟨c0, c1, c2, c3, f1, f2, f3⟩ := hr8.cells
          have hb8 := hr8.there
          have hrec := ihd (.inl l3) w8 hR8
          unfold TypPost at hrec
          rw [hk1] at hrec
          have hdI : ((d + 1 : Nat) : Int) = (d : Int) + 1 := by omega
          rw [hdI] at hrec
          clear hneed hr8
          go_wp2_with fail
          refine hrec.mono ?_
          rintro e w9 ⟨y, rfl, hR9, hg9, hy9, hl9⟩
          go_wp2_with fail
          refine (need_any b ga ca ts _ [125] w9 hR9).mono ?_
          rintro e w10 ⟨rfl, hR10, hg10⟩
          have hyz : (⟨y.toArray⟩ : ByteArray).size = y.length := by show y.toArray.size = _; simp
          have c1 : ¬ 9223372036854775807 < 5 + y.length := by omega
          have c2 : ¬ 9223372036854775807 < 5 + y.length + 1 := by omega
          have ht2 : Px.typ (k + 1) l = Px.bind (Px.typ k l3) fun t l4 => Px.bind (Px.need [125] l4) fun _ l5 => .inl ([123] ++ [105, 110, 116] ++ [58] ++ t ++ [125], l5) := by
            rw [ht, hkey]
            simp only [Px.bind]
            rw [hn]
          have hfin := hposts.out ([123] ++ [105, 110, 116] ++ [58] ++ y ++ [125]) w10 (by rw [ht2, st_bind_need]; exact hR10) ((hf8.trans hg9).trans hg10) (fun u l' hu => by
            rw [ht2] at hu
            obtain ⟨t, l1, h1, h2⟩ := bind_need_val (f := fun t => [123] ++ [105, 110, 116] ++ [58] ++ t ++ [125]) hu
            rw [h2, hy9 t l1 h1]) (by simp; omega)
          clear hrec hR9 hR10 hposts ht ht2 ihd
          go_wp2
          go_ret
          rw [← cat2s, ← cat2s, ← cat2s, ← cat2s] at hfin
          exact hfin
        · have hneed := need_any b ga ca ts (.inl l.tail.tail) [58] w6 hR6
          rw [show needS [58] (.inl l.tail.tail) = .inr (pf, ef) by simp only [needS, lift, hn, st]] at hneed
          go_wp2_with fail
          refine hneed.mono ?_
          rintro e w8 ⟨rfl, hR8, hg8⟩
          have hf8 : Fr b w w8 := hf6.trans hg8
          obtain ⟨h0, N8, hr8⟩ := id hR8
          obtain ⟨c0, c1, c2, c3, f1, f2, f3⟩ := hr8.cells
          have hb8 := hr8.there
          have hefI : ((ef : Int) != 0) = true := by simp; omega
          have ht2 : Px.typ (k + 1) l = .inr (pf, ef) := by
            rw [ht, hkey]
            simp only [Px.bind]
            rw [hn]
          have hfin := hposts.out [] w8 (by rw [ht2]; exact hR8) hf8 (fun u l' hu => by rw [ht2] at hu; simp at hu) (by simp)
          clear hneed hr8 hR8 h0 ihd hposts ht ht2
          go_wp2
          go_ret
          exact hfin
      rcases q7 : Px.sees 1 [116, 101, 120, 116] l.tail with _ | _
      rotate_left
      · have hkey : Px.key l.tail = .inl ([116, 101, 120, 116], l.tail.tail) := by simp only [Px.key, q6, q7]; rfl
        go_enter Tryz.func40, Tryz.ntmps40
        go_wp2_with fail
        refine (got_no b ga ca ts (.inl l) 1 [105, 110, 116] w (by decide) q1 h).mono ?_
        rintro e w1 ⟨rfl, hR1, hg1⟩
        have hf1 : Fr b w w1 := hf0.trans hg1
        clear hg1
        go_wp2_with fail
        refine (got_no b ga ca ts (.inl l) 1 [98, 111, 111, 108] w1 (by decide) q2 hR1).mono ?_
        rintro e w2 ⟨rfl, hR2, hg2⟩
        have hf2 : Fr b w w2 := hf1.trans hg2
        clear hg2
        go_wp2_with fail
        refine (got_no b ga ca ts (.inl l) 1 [116, 101, 120, 116] w2 (by decide) q3 hR2).mono ?_
        rintro e w3 ⟨rfl, hR3, hg3⟩
        have hf3 : Fr b w w3 := hf2.trans hg3
        clear hg3
        go_wp2_with fail
        refine (got_no b ga ca ts (.inl l) 4 [91] w3 (by decide) q4 hR3).mono ?_
        rintro e w4 ⟨rfl, hR4, hg4⟩
        have hf4 : Fr b w w4 := hf3.trans hg4
        clear hg4
        go_wp2_with fail
        refine (got_yes b ga ca ts l 4 [123] w4 (by decide) q5 hR4).mono ?_
        rintro e w5 ⟨rfl, hR5, hg5⟩
        have hf5 : Fr b w w5 := hf4.trans hg5
        clear hg5
        go_wp2_with fail
        refine (got_no b ga ca ts (.inl l.tail) 1 [105, 110, 116] w5 (by decide) q6 hR5).mono ?_
        rintro e w6 ⟨rfl, hR6, hg6⟩
        have hf6 : Fr b w w6 := hf5.trans hg6
        clear hg6
        go_wp2_with fail
        refine (got_yes b ga ca ts l.tail 1 [116, 101, 120, 116] w6 (by decide) q7 hR6).mono ?_
        rintro e w7 ⟨rfl, hR7, hg7⟩
        have hf7 : Fr b w w7 := hf6.trans hg7
        clear hg7
        rcases hn : Px.need [58] l.tail.tail with ⟨un, l3⟩ | ⟨pf, ef⟩
        · have hneed := need_any b ga ca ts (.inl l.tail.tail) [58] w7 hR7
          rw [show needS [58] (.inl l.tail.tail) = .inl l3 by simp only [needS, lift, hn, st]] at hneed
          go_wp2_with fail
          refine hneed.mono ?_
          rintro e w8 ⟨rfl, hR8, hg8⟩
          have hf8 : Fr b w w8 := hf7.trans hg8
          obtain ⟨_, N8, _, hr8⟩ := id hR8
          obtain ⟨c0, c1, c2, c3, f1, f2, f3⟩ := hr8.cells
          have hb8 := hr8.there
          have hrec := ihd (.inl l3) w8 hR8
          unfold TypPost at hrec
          rw [hk1] at hrec
          have hdI : ((d + 1 : Nat) : Int) = (d : Int) + 1 := by omega
          rw [hdI] at hrec
          clear hneed hr8
          go_wp2_with fail
          refine hrec.mono ?_
          rintro e w9 ⟨y, rfl, hR9, hg9, hy9, hl9⟩
          go_wp2_with fail
          refine (need_any b ga ca ts _ [125] w9 hR9).mono ?_
          rintro e w10 ⟨rfl, hR10, hg10⟩
          have hyz : (⟨y.toArray⟩ : ByteArray).size = y.length := by show y.toArray.size = _; simp
          have c1 : ¬ 9223372036854775807 < 6 + y.length := by omega
          have c2 : ¬ 9223372036854775807 < 6 + y.length + 1 := by omega
          have ht2 : Px.typ (k + 1) l = Px.bind (Px.typ k l3) fun t l4 => Px.bind (Px.need [125] l4) fun _ l5 => .inl ([123] ++ [116, 101, 120, 116] ++ [58] ++ t ++ [125], l5) := by
            rw [ht, hkey]
            simp only [Px.bind]
            rw [hn]
          have hfin := hposts.out ([123] ++ [116, 101, 120, 116] ++ [58] ++ y ++ [125]) w10 (by rw [ht2, st_bind_need]; exact hR10) ((hf8.trans hg9).trans hg10) (fun u l' hu => by
            rw [ht2] at hu
            obtain ⟨t, l1, h1, h2⟩ := bind_need_val (f := fun t => [123] ++ [116, 101, 120, 116] ++ [58] ++ t ++ [125]) hu
            rw [h2, hy9 t l1 h1]) (by simp; omega)
          clear hrec hR9 hR10 hposts ht ht2 ihd
          go_wp2
          go_ret
          rw [← cat2s, ← cat2s, ← cat2s, ← cat2s] at hfin
          exact hfin
        · have hneed := need_any b ga ca ts (.inl l.tail.tail) [58] w7 hR7
          rw [show needS [58] (.inl l.tail.tail) = .inr (pf, ef) by simp only [needS, lift, hn, st]] at hneed
          go_wp2_with fail
          refine hneed.mono ?_
          rintro e w8 ⟨rfl, hR8, hg8⟩
          have hf8 : Fr b w w8 := hf7.trans hg8
          obtain ⟨h0, N8, hr8⟩ := id hR8
          obtain ⟨c0, c1, c2, c3, f1, f2, f3⟩ := hr8.cells
          have hb8 := hr8.there
          have hefI : ((ef : Int) != 0) = true := by simp; omega
          have ht2 : Px.typ (k + 1) l = .inr (pf, ef) := by
            rw [ht, hkey]
            simp only [Px.bind]
            rw [hn]
          have hfin := hposts.out [] w8 (by rw [ht2]; exact hR8) hf8 (fun u l' hu => by rw [ht2] at hu; simp at hu) (by simp)
          clear hneed hr8 hR8 h0 ihd hposts ht ht2
          go_wp2
          go_ret
          exact hfin
      · have hkey : Px.key l.tail = .inr (Px.place l.tail, 31) := by simp only [Px.key, q6, q7]; rfl
        have ht2 : Px.typ (k + 1) l = .inr (Px.place l.tail, 31) := by rw [ht, hkey]; rfl
        go_enter Tryz.func40, Tryz.ntmps40
        go_wp2_with fail
        refine (got_no b ga ca ts (.inl l) 1 [105, 110, 116] w (by decide) q1 h).mono ?_
        rintro e w1 ⟨rfl, hR1, hg1⟩
        have hf1 : Fr b w w1 := hf0.trans hg1
        clear hg1
        go_wp2_with fail
        refine (got_no b ga ca ts (.inl l) 1 [98, 111, 111, 108] w1 (by decide) q2 hR1).mono ?_
        rintro e w2 ⟨rfl, hR2, hg2⟩
        have hf2 : Fr b w w2 := hf1.trans hg2
        clear hg2
        go_wp2_with fail
        refine (got_no b ga ca ts (.inl l) 1 [116, 101, 120, 116] w2 (by decide) q3 hR2).mono ?_
        rintro e w3 ⟨rfl, hR3, hg3⟩
        have hf3 : Fr b w w3 := hf2.trans hg3
        clear hg3
        go_wp2_with fail
        refine (got_no b ga ca ts (.inl l) 4 [91] w3 (by decide) q4 hR3).mono ?_
        rintro e w4 ⟨rfl, hR4, hg4⟩
        have hf4 : Fr b w w4 := hf3.trans hg4
        clear hg4
        go_wp2_with fail
        refine (got_yes b ga ca ts l 4 [123] w4 (by decide) q5 hR4).mono ?_
        rintro e w5 ⟨rfl, hR5, hg5⟩
        have hf5 : Fr b w w5 := hf4.trans hg5
        clear hg5
        go_wp2_with fail
        refine (got_no b ga ca ts (.inl l.tail) 1 [105, 110, 116] w5 (by decide) q6 hR5).mono ?_
        rintro e w6 ⟨rfl, hR6, hg6⟩
        have hf6 : Fr b w w6 := hf5.trans hg6
        clear hg6
        go_wp2_with fail
        refine (got_no b ga ca ts (.inl l.tail) 1 [116, 101, 120, 116] w6 (by decide) q7 hR6).mono ?_
        rintro e w7 ⟨rfl, hR7, hg7⟩
        have hf7 : Fr b w w7 := hf6.trans hg7
        clear hg7
        go_wp2_with fail
        refine (fail_any b ga ca ts (.inl l.tail) 31 w7 (by decide) hR7).mono ?_
        rintro e w8 ⟨rfl, hR8, hg8⟩
        have hf8 : Fr b w w8 := hf7.trans hg8
        replace hR8 : RS b ga ca ts (.inr (Px.place l.tail, 31)) w8 := hR8
        have hneed := need_any b ga ca ts (.inr (Px.place l.tail, 31)) [58] w8 hR8
        rw [show needS [58] (.inr (Px.place l.tail, 31)) = .inr (Px.place l.tail, 31) from rfl] at hneed
        go_wp2_with fail
        refine hneed.mono ?_
        rintro e w9 ⟨rfl, hR9, hg9⟩
        obtain ⟨h0, N8, hr8⟩ := id hR9
        obtain ⟨c0, c1, c2, c3, f1, f2, f3⟩ := hr8.cells
        have hb8 := hr8.there
        have hfin := hposts.out [] w9 (by rw [ht2]; exact hR9) (hf8.trans hg9) (fun u l' hu => by rw [ht2] at hu; simp at hu) (by simp)
        clear hneed hr8 hR8 hR9 h0 ihd hposts ht ht2
        go_wp2
        go_ret
        exact hfin
    · have ht : Px.typ (k + 1) l = .inr (Px.place l, 31) := by simp only [Px.typ, q1, q2, q3, q4, q5]; rfl
      go_enter Tryz.func40, Tryz.ntmps40
      go_wp2_with fail
      refine (got_no b ga ca ts (.inl l) 1 [105, 110, 116] w (by decide) q1 h).mono ?_
      rintro e w1 ⟨rfl, hR1, hg1⟩
      have hf1 : Fr b w w1 := hf0.trans hg1
      clear hg1
      go_wp2_with fail
      refine (got_no b ga ca ts (.inl l) 1 [98, 111, 111, 108] w1 (by decide) q2 hR1).mono ?_
      rintro e w2 ⟨rfl, hR2, hg2⟩
      have hf2 : Fr b w w2 := hf1.trans hg2
      clear hg2
      go_wp2_with fail
      refine (got_no b ga ca ts (.inl l) 1 [116, 101, 120, 116] w2 (by decide) q3 hR2).mono ?_
      rintro e w3 ⟨rfl, hR3, hg3⟩
      have hf3 : Fr b w w3 := hf2.trans hg3
      clear hg3
      go_wp2_with fail
      refine (got_no b ga ca ts (.inl l) 4 [91] w3 (by decide) q4 hR3).mono ?_
      rintro e w4 ⟨rfl, hR4, hg4⟩
      have hf4 : Fr b w w4 := hf3.trans hg4
      clear hg4
      go_wp2_with fail
      refine (got_no b ga ca ts (.inl l) 4 [123] w4 (by decide) q5 hR4).mono ?_
      rintro e w5 ⟨rfl, hR5, hg5⟩
      have hf5 : Fr b w w5 := hf4.trans hg5
      clear hg5
      go_wp2_with fail
      refine (fail_any b ga ca ts (.inl l) 31 w5 (by decide) hR5).mono ?_
      rintro e w6 ⟨rfl, hR6, hg6⟩
      replace hR6 : RS b ga ca ts (.inr (Px.place l, 31)) w6 := hR6
      have hfin := hposts.out [] w6 (by rw [ht]; exact hR6) (hf5.trans hg6) (fun u l' hu => by rw [ht] at hu; simp at hu) (by simp)
      clear hposts ht ihd hR6
      go_wp2
      go_ret
      exact hfin
end Go.Proofs.YtnmdnjdibdmodaaGreatDoor
/- The document's slots. -/
namespace Go.Proofs.YtnmdnjdibdmodaaGreatDoor
open Go.RowKit
set_option linter.unusedSimpArgs false
set_option linter.unusedVariables false

def SlotPost (b ga ca : Nat) (ts : List Lx.Tok) (S : RSt) (w : World) (r : Ending) (w' : World) : Prop :=
  ∃ (nm ty : Lx.B) (p : Nat), r = .returned (.agg #[.string ⟨nm.toArray⟩, .string ⟨ty.toArray⟩, .int .i64 p]) ∧ RS b ga ca ts (st (lift Px.slot S)) w' ∧ Fr b w w' ∧ ∀ u l', lift Px.slot S = .inl (u, l') → u = ⟨nm, ty, p⟩
/-- Block g holds a slot's three cells. -/
def Slot3 (g : Nat) (w : World) : Prop := ∃ a t c, w.heap[g]? = some (.cells #[a, t, c] 64 (0, 0))
theorem Slot3.lt {g : Nat} {w : World} (h : Slot3 g w) : g < w.heap.size := by
  obtain ⟨a, t, c, h⟩ := h
  exact (Array.getElem?_eq_some_iff.1 h).1
theorem Slot3.new (w : World) : Slot3 w.heap.size (w.alloc (.cells #[.string ⟨#[]⟩, .string ⟨#[]⟩, .int .i64 0] 64)) := ⟨_, _, _, by show (w.heap.push _)[w.heap.size]? = _; rw [Array.getElem?_push, if_pos rfl]⟩
theorem Slot3.fr {g b : Nat} {w w' : World} (h : Slot3 g w) (f : Fr b w w') (hn : g ≠ b) : Slot3 g w' := by
  have hl := h.lt
  obtain ⟨a, t, c, h⟩ := h
  exact ⟨a, t, c, (f.block g hl hn).trans h⟩
theorem Slot3.cells {r : Nat} {w : World} (h : Slot3 r w) : ∃ a t c, w.cell? ⟨r, 0, none⟩ = some a ∧ w.cell? ⟨r, 1, none⟩ = some t ∧ w.cell? ⟨r, 2, none⟩ = some c ∧ w.frozen? ⟨r, 0, none⟩ = false ∧ w.frozen? ⟨r, 1, none⟩ = false ∧ w.frozen? ⟨r, 2, none⟩ = false := by
  obtain ⟨a, t, c, h⟩ := h
  exact ⟨a, t, c, by simp [World.cell?, h], by simp [World.cell?, h], by simp [World.cell?, h], by simp [World.frozen?, h], by simp [World.frozen?, h], by simp [World.frozen?, h]⟩
theorem RS.set3 {b ga ca : Nat} {ts : List Lx.Tok} {S : RSt} {w : World} (h : RS b ga ca ts S w) {g : Nat} (h1 : g ≠ b) (h2 : g ≠ ga) (x0 x1 x2 : Value) : RS b ga ca ts S (((w.setCell ⟨g, 0, none⟩ x0).setCell ⟨g, 1, none⟩ x1).setCell ⟨g, 2, none⟩ x2) :=
  ((h.other 0 x0 h1 h2).other 1 x1 h1 h2).other 2 x2 h1 h2
theorem Fr.set3 {b : Nat} {w w' : World} (h : Fr b w w') {g : Nat} (hg : w.heap.size ≤ g) (x0 x1 x2 : Value) : Fr b w (((w'.setCell ⟨g, 0, none⟩ x0).setCell ⟨g, 1, none⟩ x1).setCell ⟨g, 2, none⟩ x2) :=
  ((h.fresh hg 0 x0).fresh hg 1 x1).fresh hg 2 x2
theorem RS.at {b ga ca : Nat} {ts : List Lx.Tok} {S : RSt} {w : World} (h : RS b ga ca ts S w) : ∃ N p er, RdB b ga ca ts N p er w ∧ ((er = 0 ∧ ∃ l, S = .inl l) ∨ (er ≠ 0 ∧ S = .inr (p, er))) := by
  rcases S with l | ⟨p, er⟩
  · obtain ⟨_, N, _, hr⟩ := h
    exact ⟨N, 0, 0, hr, Or.inl ⟨rfl, l, rfl⟩⟩
  · obtain ⟨h0, N, hr⟩ := h
    exact ⟨N, p, er, hr, Or.inr ⟨h0, rfl⟩⟩

set_option maxRecDepth 100000 in
set_option maxHeartbeats 8000000 in
theorem slot_any (b ga ca : Nat) (ts : List Lx.Tok) (S : RSt) (w : World) (h : RS b ga ca ts S w) :
    Calls Tryz.prog 24 #[.pointer (some ⟨b, 0, none⟩)] w fun r w' => SlotPost b ga ca ts S w r w' := by
  obtain ⟨N0, p0, er0, hr, _⟩ := h.at
  have hbl := hr.there
  have hgl := hr.gl
  clear hr
  have hb0 : Below w.heap.size w (w.alloc (.cells #[.string ⟨#[]⟩, .string ⟨#[]⟩, .int .i64 0] 64)) := (Below.refl _ _).alloc (Nat.le_refl _) _
  have hs0 := Slot3.new w
  have hR0 := h.below hb0
  have hf0 : Fr b w (w.alloc (.cells #[.string ⟨#[]⟩, .string ⟨#[]⟩, .int .i64 0] 64)) := Fr.of_below hb0
  have hg2 : w.heap.size ≠ b := by omega
  have hg2a : w.heap.size ≠ ga := by omega
  go_enter Tryz.func24, Tryz.ntmps24
  go_wp2_with fail
  generalize w.alloc (.cells #[.string ⟨#[]⟩, .string ⟨#[]⟩, .int .i64 0] 64) = w0 at *
  clear hb0 h
  refine (rname_any b ga ca ts S w0 hR0).mono ?_
  rintro e w1 ⟨k, t, m, p, rfl, hR1, hg1, hval⟩
  have hf1 : Fr b w w1 := hf0.trans hg1
  have hs1 := hs0.fr hg1 hg2
  have hval' : Aside (∀ u l', lift Px.name S = .inl (u, l') → u = ⟨k, t, m, p⟩) := hval
  clear hval hs0 hR0 hf0 hg1
  go_wp2_with fail
  have hbx : Below w1.heap.size w1 (w1.alloc (.cells #[.int .i64 k, .string ⟨t.toArray⟩, .int .i64 m, .int .i64 p] 39)) := (Below.refl _ _).alloc (Nat.le_refl _) _
  have hR2 := hR1.below hbx
  have hf2 : Fr b w (w1.alloc (.cells #[.int .i64 k, .string ⟨t.toArray⟩, .int .i64 m, .int .i64 p] 39)) := hf1.trans (Fr.of_below hbx)
  have hs2 := hs1.fr (Fr.of_below (b := b) hbx) hg2
  have d1 : (w1.alloc (.cells #[.int .i64 k, .string ⟨t.toArray⟩, .int .i64 m, .int .i64 p] 39)).cell? ⟨w1.heap.size, 1, none⟩ = some (.string ⟨t.toArray⟩) := by simp
  have d3 : (w1.alloc (.cells #[.int .i64 k, .string ⟨t.toArray⟩, .int .i64 m, .int .i64 p] 39)).cell? ⟨w1.heap.size, 3, none⟩ = some (.int .i64 p) := by simp
  have d4 : w1.heap.size < (w1.alloc (.cells #[.int .i64 k, .string ⟨t.toArray⟩, .int .i64 m, .int .i64 p] 39)).heap.size := by simp
  have hg3 : w1.heap.size ≠ b := by have := hf1.size; omega
  have hg23 : w.heap.size ≠ w1.heap.size := by have := hs1.lt; omega
  have hwg : w.heap.size ≤ w.heap.size := Nat.le_refl _
  generalize w1.alloc (.cells #[.int .i64 k, .string ⟨t.toArray⟩, .int .i64 m, .int .i64 p] 39) = w2 at *
  clear hbx hR1 hf1 hs1
  generalize w1.heap.size = g3 at *
  refine (need_any b ga ca ts _ [58] w2 hR2).mono ?_
  rintro e w3 ⟨rfl, hR3, hg3'⟩
  have hf3 : Fr b w w3 := hf2.trans hg3'
  have hs3 := hs2.fr hg3' hg2
  have d1' := (hg3'.cell (g := g3) (o := 1) d4 hg3).trans d1
  have d3' := (hg3'.cell (g := g3) (o := 3) d4 hg3).trans d3
  have d4' : g3 < w3.heap.size := by have := hg3'.size; omega
  obtain ⟨N, pp, er, hr3, hcase⟩ := hR3.at
  obtain ⟨c0, c1, c2, c3, f1, f2, f3⟩ := hr3.cells
  have hb3 := hr3.there
  obtain ⟨y0, y1, y2, e0, e1, e2, k0, k1, k2⟩ := hs3.cells
  have hgs := hs3.lt
  obtain ⟨g2, hg2e⟩ : ∃ g2, g2 = w.heap.size := ⟨_, rfl⟩
  rw [← hg2e] at hs3 hg23 hg2 hg2a e0 e1 e2 k0 k1 k2 hgs ⊢
  replace hwg : w.heap.size ≤ g2 := by omega
  clear hg2e d1 d3 d4 hR2 hf2 hs2 hg3' hr3
  -- the state behind the colon, by the plain mathematics
  have hst : Aside ((∀ l3, needS [58] (st (lift Px.name S)) = .inl l3 → lift Px.slot S = Px.bind (Px.typ 4 l3) fun y l4 => .inl (⟨t, y, p⟩, l4)) ∧ (∀ f, needS [58] (st (lift Px.name S)) = .inr f → lift Px.slot S = .inr f)) := by
    rcases S with l | f
    · simp only [lift, Px.slot]
      rcases hn : Px.name l with ⟨u, l1⟩ | g
      · have hu := hval'.out u l1 (by simp only [lift, hn])
        subst hu
        simp only [st, needS, lift, Px.bind]
        rcases hm : Px.need [58] l1 with ⟨v, l2⟩ | g
        · exact ⟨fun l3 h3 => by simp at h3; subst h3; rfl, fun f hf => by simp at hf⟩
        · exact ⟨fun l3 h3 => by simp at h3, fun f hf => by simp at hf; rw [hf]⟩
      · exact ⟨fun l3 h3 => by simp [st, needS, lift] at h3, fun f hf => by simp [st, needS, lift] at hf; rw [hf]; rfl⟩
    · exact ⟨fun l3 h3 => by simp [st, needS, lift] at h3, fun g hg => by simp [st, needS, lift] at hg; rw [hg]; rfl⟩
  clear hval'
  rcases hcase with ⟨rfl, l3, hl3⟩ | ⟨h0, hl3⟩
  · have hsl : Aside _ := (show Aside _ from hst.out.1 l3 hl3)
    rw [hl3] at hR3
    have hk : ∀ mm, Calls Tryz.prog 40 #[.pointer (some ⟨b, 0, none⟩), .int .i64 1] (w3.drewN mm) fun r w' => ∃ y : Lx.B, r = .returned (.string ⟨y.toArray⟩) ∧ RS b ga ca ts (st (Px.typ 4 l3)) w' ∧ Fr b (w3.drewN mm) w' ∧ (∀ u l', Px.typ 4 l3 = .inl (u, l') → u = y) := by
      intro mm
      refine (kind_any 4 1 b ga ca ts (.inl l3) (w3.drewN mm) (by decide) (by decide) (hR3.drewN mm)).mono ?_
      rintro e w' ⟨y, h1, h2, h3, h4, _⟩
      exact ⟨y, h1, h2, h3, h4⟩
    have hnext : ∀ mm w5, Fr b (w3.drewN mm) w5 → Fr b w w5 ∧ Slot3 g2 w5 ∧ w5.cell? ⟨g3, 1, none⟩ = some (.string ⟨t.toArray⟩) ∧ w5.cell? ⟨g3, 3, none⟩ = some (.int .i64 p) ∧ g3 < w5.heap.size := by
      intro mm w5 f
      have f3 : Fr b w3 w5 := (Fr.drewN b w3 mm).trans f
      exact ⟨hf3.trans f3, hs3.fr f3 hg2, (f3.cell (g := g3) (o := 1) d4' hg3).trans d1', (f3.cell (g := g3) (o := 3) d4' hg3).trans d3', by have := f3.size; omega⟩
    have hpost : Aside (∀ (y : Lx.B) (w9 : World), RS b ga ca ts (st (Px.typ 4 l3)) w9 → Fr b w w9 → (∀ u l', Px.typ 4 l3 = .inl (u, l') → u = y) → SlotPost b ga ca ts S w (.returned (.agg #[.string ⟨t.toArray⟩, .string ⟨y.toArray⟩, .int .i64 p])) w9) := by
      intro y w9 h1 h2 h3
      refine ⟨t, y, p, rfl, ?_, h2, ?_⟩
      · rw [hsl.out]
        rcases hty : Px.typ 4 l3 with ⟨u, l4⟩ | g
        · rw [hty] at h1; simpa [Px.bind, st] using h1
        · rw [hty] at h1; simpa [Px.bind, st] using h1
      · intro u l' hu
        rw [hsl.out] at hu
        rcases hty : Px.typ 4 l3 with ⟨v, l4⟩ | g
        · rw [hty] at hu
          simp [Px.bind] at hu
          rw [← hu.1, h3 v l4 hty]
        · rw [hty] at hu; simp [Px.bind] at hu
    clear hst hl3 hsl hR3 hf3 hs3
    go_upto_region 5 with fail
    go_region_with (go_at_call 40; refine (hk _).mono ?_; rintro e w5 ⟨y, rfl, hR5, hg5, hy5⟩; obtain ⟨hf5, hs5, z1, z3, z4⟩ := hnext _ _ hg5; obtain ⟨v0, v1, v2, e0, e1, e2, k0, k1, k2⟩ := hs5.cells; have hgs5 := hs5.lt)
    all_goals
      simp only [Exit.then]
      refine ‹∀ (a : Act) (w : World), _ → _› _ _ ?_
      go_wp2
      exact bodyPost_ret (v := .agg #[.string ⟨t.toArray⟩, .string ⟨y.toArray⟩, .int .i64 p]) (by simp [results, Tryz.results24, go_sem, e0, e1, e2]) rfl (hpost.out y _ (hR5.set3 hg2 hg2a _ _ _) (hf5.set3 hwg _ _ _) hy5)
  · have hsl : Aside _ := (show Aside _ from hst.out.2 _ hl3)
    rw [hl3] at hR3
    have herI : ((er : Int) != 0) = true := by simp; omega
    clear hst hl3 h0
    go_wp2
    exact bodyPost_ret (v := .agg #[.string ⟨#[]⟩, .string ⟨#[]⟩, .int .i64 0]) (by simp [results, Tryz.results24, go_sem, e0, e1, e2]) rfl
      ⟨[], [], 0, rfl, by rw [hsl.out]; exact hR3.set3 hg2 hg2a _ _ _, hf3.set3 hwg _ _ _, fun u l' hu => by rw [hsl.out] at hu; simp at hu⟩
end Go.Proofs.YtnmdnjdibdmodaaGreatDoor
