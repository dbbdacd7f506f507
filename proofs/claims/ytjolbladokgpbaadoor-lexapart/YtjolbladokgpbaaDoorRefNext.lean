/- The document's reading of one token. -/
import Derived.Test.YtjolbladokgpbaaDoorRefText
namespace Go.Proofs.YtjolbladokgpbaaDoor
open Go.RowKit
set_option linter.unusedSimpArgs false
set_option linter.unusedVariables false

theorem NextV_ok (k : Nat) (t : List UInt8) (m n i : Nat) : NextV (Lx.R.ok k t m n) i = .tuple #[tokV k ⟨t.toArray⟩ m i, .int .i64 ((i + n : Nat) : Int), .int .i64 0] := rfl
theorem NextV_bad (o er i : Nat) : NextV (Lx.R.bad o er) i = .tuple #[tokV 0 ⟨#[]⟩ 0 0, .int .i64 ((i + o : Nat) : Int), .int .i64 er] := rfl
/-- What is answered of one token, whichever: a token's cells and two numbers. -/
theorem NextV_any (res : Lx.R) (i : Nat) : ∃ k ta m p z y, NextV res i = .tuple #[.agg #[.int .i64 (k : Nat), .string ta, .int .i64 (m : Nat), .int .i64 (p : Nat)], .int .i64 z, .int .i64 y] := by
  rcases res with ⟨k, t, m, n⟩ | ⟨o, er⟩
  · exact ⟨k, ⟨t.toArray⟩, m, i, _, _, rfl⟩
  · exact ⟨0, ⟨#[]⟩, 0, 0, _, _, rfl⟩

set_option maxRecDepth 100000 in
set_option maxHeartbeats 4000000 in
theorem rnext_number (s : ByteArray) (i : Nat) (w : World) (hi : i < s.size) (hm : s.size ≤ 16384) (hl : Lx.isLetter s[i] = false) (hd : Lx.isDigit s[i] = true) :
    Calls Tryd.prog 20 #[.string s, .int .i64 i] w fun e w' => NextPost (Lx.numberR (s.data.toList.drop i)) i w e w' := by
  have hb0 : Below w.heap.size w (w.alloc slot0) := (Below.refl _ _).alloc (Nat.le_refl _) _
  have hs0 := Slot.new w
  have hc := rnumber_any s i (w.alloc slot0) hi hm hd
  generalize Lx.numberR (s.data.toList.drop i) = res at *
  unfold NextPost at *
  obtain ⟨k, ta, mm, p, z, y, hv⟩ := NextV_any res i
  rw [hv] at hc ⊢
  go_enter Tryd.func20, Tryd.ntmps20
  go_wp2_with (first
    | (go_at_call 31; refine (rletter_any _ _).mono ?_; rw [hl]; rintro e w9 ⟨rfl, rfl⟩)
    | (go_at_call 32; refine (rdigit_any _ _).mono ?_; rw [hd]; rintro e w9 ⟨rfl, rfl⟩)
    | (go_at_call 34; refine hc.mono ?_; rintro e w4 ⟨rfl, hb4⟩; have hs4 := hs0.below hb4 hs0.lt; obtain ⟨x0, x1, x2, x3, d0, d1, d2, d3, f0, f1, f2, f3⟩ := hs4.cells))
  exact bodyPost_ret (v := .tuple #[.agg #[.int .i64 (k : Nat), .string ta, .int .i64 (mm : Nat), .int .i64 (p : Nat)], .int .i64 z, .int .i64 y]) (by simp [results, Tryd.results20, go_sem, d0, d1, d2, d3]) rfl ⟨rfl, below_set4 (hb0.trans (hb4.mono hb0.size)) (Nat.le_refl _) _ _ _ _⟩
set_option maxRecDepth 100000 in
set_option maxHeartbeats 4000000 in
theorem rnext_text (s : ByteArray) (i : Nat) (w : World) (hi : i < s.size) (hm : s.size ≤ 16384) (hk : s[i] = 34) :
    Calls Tryd.prog 20 #[.string s, .int .i64 i] w fun e w' => NextPost (Lx.quoteR (s.data.toList.drop (i + 1)) 1 []) i w e w' := by
  have hb0 : Below w.heap.size w (w.alloc slot0) := (Below.refl _ _).alloc (Nat.le_refl _) _
  have hs0 := Slot.new w
  have hc := rtext_any s i (w.alloc slot0) hi hm
  have hl : Lx.isLetter s[i] = false := by rw [hk]; decide
  have hd : Lx.isDigit s[i] = false := by rw [hk]; decide
  have hq : ((s[i].toNat : Int) == 34) = true := by rw [hk]; rfl
  clear hk
  generalize Lx.quoteR (s.data.toList.drop (i + 1)) 1 [] = res at *
  unfold NextPost at *
  obtain ⟨k, ta, mm, p, z, y, hv⟩ := NextV_any res i
  rw [hv] at hc ⊢
  go_enter Tryd.func20, Tryd.ntmps20
  go_wp2_with (first
    | (go_at_call 31; refine (rletter_any _ _).mono ?_; rw [hl]; rintro e w9 ⟨rfl, rfl⟩)
    | (go_at_call 32; refine (rdigit_any _ _).mono ?_; rw [hd]; rintro e w9 ⟨rfl, rfl⟩)
    | (go_at_call 35; refine hc.mono ?_; rintro e w4 ⟨rfl, hb4⟩; have hs4 := hs0.below hb4 hs0.lt; obtain ⟨x0, x1, x2, x3, d0, d1, d2, d3, f0, f1, f2, f3⟩ := hs4.cells))
  exact bodyPost_ret (v := .tuple #[.agg #[.int .i64 (k : Nat), .string ta, .int .i64 (mm : Nat), .int .i64 (p : Nat)], .int .i64 z, .int .i64 y]) (by simp [results, Tryd.results20, go_sem, d0, d1, d2, d3]) rfl ⟨rfl, below_set4 (hb0.trans (hb4.mono hb0.size)) (Nat.le_refl _) _ _ _ _⟩
set_option maxRecDepth 100000 in
set_option maxHeartbeats 4000000 in
theorem rnext_mark (s : ByteArray) (i : Nat) (w : World) (hi : i < s.size) (hm : s.size ≤ 16384) (hl : Lx.isLetter s[i] = false) (hd : Lx.isDigit s[i] = false) (hq : ¬ (s[i].toNat : Int) = 34) :
    Calls Tryd.prog 20 #[.string s, .int .i64 i] w fun e w' => NextPost (Lx.markR true (s.data.toList.drop i)) i w e w' := by
  have hb0 : Below w.heap.size w (w.alloc slot0) := (Below.refl _ _).alloc (Nat.le_refl _) _
  have hs0 := Slot.new w
  have hc := rmark_any s i (w.alloc slot0) hi hm
  generalize Lx.markR true (s.data.toList.drop i) = res at *
  unfold NextPost at *
  obtain ⟨k, ta, mm, p, z, y, hv⟩ := NextV_any res i
  rw [hv] at hc ⊢
  go_enter Tryd.func20, Tryd.ntmps20
  go_wp2_with (first
    | (go_at_call 31; refine (rletter_any _ _).mono ?_; rw [hl]; rintro e w9 ⟨rfl, rfl⟩)
    | (go_at_call 32; refine (rdigit_any _ _).mono ?_; rw [hd]; rintro e w9 ⟨rfl, rfl⟩)
    | (go_at_call 36; refine hc.mono ?_; rintro e w4 ⟨rfl, hb4⟩; have hs4 := hs0.below hb4 hs0.lt; obtain ⟨x0, x1, x2, x3, d0, d1, d2, d3, f0, f1, f2, f3⟩ := hs4.cells))
  exact bodyPost_ret (v := .tuple #[.agg #[.int .i64 (k : Nat), .string ta, .int .i64 (mm : Nat), .int .i64 (p : Nat)], .int .i64 z, .int .i64 y]) (by simp [results, Tryd.results20, go_sem, d0, d1, d2, d3]) rfl ⟨rfl, below_set4 (hb0.trans (hb4.mono hb0.size)) (Nat.le_refl _) _ _ _ _⟩

set_option maxRecDepth 100000 in
set_option maxHeartbeats 4000000 in
theorem rnext_name (s : ByteArray) (i : Nat) (w : World) (hi : i < s.size) (hm : s.size ≤ 16384) (hl : Lx.isLetter s[i] = true) :
    Calls Tryd.prog 20 #[.string s, .int .i64 i] w fun e w' => NextPost (Lx.nameR (s.data.toList.drop i)) i w e w' := by
  have hb : ∀ o, Below w.heap.size w (w.alloc o) := fun o => (Below.refl _ _).alloc (Nat.le_refl _) _
  have hr1 : Aside (run s i Lx.isPart ≤ 16 → Lx.nameR (s.data.toList.drop i) = Lx.R.ok 1 ((s.data.toList.drop i).takeWhile Lx.isPart) 0 (run s i Lx.isPart)) := fun h => by unfold Lx.nameR; exact if_pos h
  have hr2 : Aside (¬ run s i Lx.isPart ≤ 16 → Lx.nameR (s.data.toList.drop i) = Lx.R.bad 0 3) := fun h => by unfold Lx.nameR; exact if_neg h
  have hxe : Aside (s.extract i (i + run s i Lx.isPart) = _) := ext_run s i Lx.isPart
  have hrle := run_le s i Lx.isPart (by omega)
  obtain ⟨E, hE⟩ : ∃ E, Aside (E = i + run s i Lx.isPart) := ⟨_, rfl⟩
  have hEs : E ≤ s.size := by have := hE.out; omega
  have hEi : i ≤ E := by have := hE.out; omega
  clear hrle
  generalize Lx.nameR (s.data.toList.drop i) = res at *
  go_enter Tryd.func20, Tryd.ntmps20
  go_wp2_with (go_at_call 31; refine (rletter_any _ _).mono ?_; rw [hl]; rintro e w9 ⟨rfl, rfl⟩)
  go_loop [8] (fun a => ∃ m : Nat, i ≤ m ∧ m ≤ E ∧ a = .int .i64 m) (fun a => s.size - (intOf a).toNat)
  case atStart => exact ⟨i, Nat.le_refl _, by omega, rfl⟩
  case round =>
    obtain ⟨m, him, hmE, rfl⟩ := hrel
    have hcase : Aside ((∃ h : m < s.size, Lx.isLetter s[m] = true ∧ m + 1 ≤ E) ∨ (∃ h : m < s.size, Lx.isLetter s[m] = false ∧ Lx.isDigit s[m] = true ∧ m + 1 ≤ E) ∨ (∃ h : m < s.size, Lx.isLetter s[m] = false ∧ Lx.isDigit s[m] = false ∧ m = E) ∨ (¬ m < s.size ∧ m = E)) := by
      have he := hE.out
      subst he
      show _ ∨ _
      by_cases h : m < s.size
      · rcases h1 : Lx.isLetter s[m] with _ | _
        · rcases h2 : Lx.isDigit s[m] with _ | _
          · exact Or.inr (Or.inr (Or.inl ⟨h, h1, h2, run_stop him hmE h (by simp [Lx.isPart, h1, h2])⟩))
          · exact Or.inr (Or.inl ⟨h, h1, h2, run_step him hmE h (by simp [Lx.isPart, h1, h2])⟩)
        · exact Or.inl ⟨h, h1, run_step him hmE h (by simp [Lx.isPart, h1])⟩
      · exact Or.inr (Or.inr (Or.inr ⟨h, run_fin (by omega) hmE h⟩))
    rcases hcase.out with ⟨hlt, k1, hnx⟩ | ⟨hlt, k1, k2, hnx⟩ | ⟨hlt, k1, k2, hm2⟩ | ⟨hlt, hm2⟩
    · clear hcase
      go_wp2_with (go_at_call 31; refine (rletter_any _ _).mono ?_; rw [k1]; rintro e w' ⟨rfl, rfl⟩)
      go_round
      case rel => exact ⟨m + 1, by omega, hnx, by go_num⟩
      case measure => simp [intOf]; omega
    · clear hcase
      go_wp2_with (first
        | (go_at_call 31; refine (rletter_any _ _).mono ?_; rw [k1]; rintro e w' ⟨rfl, rfl⟩)
        | (go_at_call 32; refine (rdigit_any _ _).mono ?_; rw [k2]; rintro e w' ⟨rfl, rfl⟩))
      go_round
      case rel => exact ⟨m + 1, by omega, hnx, by go_num⟩
      case measure => simp [intOf]; omega
    all_goals
      clear hcase
      subst hm2
      by_cases h16 : run s i Lx.isPart ≤ 16
      · have hres : Aside (res = Lx.R.ok 1 ((s.data.toList.drop i).takeWhile Lx.isPart) 0 (run s i Lx.isPart)) := hr1.out h16
        have hx : Aside (s.extract i m = ⟨((s.data.toList.drop i).takeWhile Lx.isPart).toArray⟩) := by show _ = _; have := hxe.out; rw [← hE.out] at this; exact this
        have hI : ¬ 16 < (m : Int) - (i : Int) := by have := hE.out; omega
        clear hr1 hr2 hxe h16
        go_wp2_with (first
          | (go_at_call 31; refine (rletter_any _ _).mono ?_; rw [k1]; rintro e w' ⟨rfl, rfl⟩)
          | (go_at_call 32; refine (rdigit_any _ _).mono ?_; rw [k2]; rintro e w' ⟨rfl, rfl⟩))
        exact bodyPost_ret (v := .tuple #[tokV 1 (s.extract i m) 0 i, .int .i64 (m : Int), .int .i64 0]) (by simp [results, Tryd.results20, go_sem, tokV]) rfl (NextPost.ok hres.out hx.out (by have := hE.out; omega) (hb _))
      · have hres : Aside (res = Lx.R.bad 0 3) := hr2.out h16
        have hI : 16 < (m : Int) - (i : Int) := by have := hE.out; omega
        clear hr1 hr2 hxe h16
        go_wp2_with (first
          | (go_at_call 31; refine (rletter_any _ _).mono ?_; rw [k1]; rintro e w' ⟨rfl, rfl⟩)
          | (go_at_call 32; refine (rdigit_any _ _).mono ?_; rw [k2]; rintro e w' ⟨rfl, rfl⟩))
        exact bodyPost_ret (v := .tuple #[tokV 0 ⟨#[]⟩ 0 0, .int .i64 (i : Int), .int .i64 3]) (by simp [results, Tryd.results20, go_sem, tokV]) rfl (NextPost.bad hres.out (by omega) (by omega) (hb _))

theorem rnext_any (s : ByteArray) (i : Nat) (w : World) (hi : i < s.size) (hm : s.size ≤ 16384) :
    Calls Tryd.prog 20 #[.string s, .int .i64 i] w fun e w' => NextPost (Lx.tokR true (s.data.toList.drop i)) i w e w' := by
  have hd0 := drop_at s i hi
  rcases hl : Lx.isLetter s[i] with _ | _
  · rcases hd : Lx.isDigit s[i] with _ | _
    · by_cases hk : s[i] = 34
      · have e : Lx.tokR true (s.data.toList.drop i) = Lx.quoteR (s.data.toList.drop (i + 1)) 1 [] := by
          rw [hd0]; simp only [Lx.tokR, hl, hd, Bool.false_eq_true, if_false, if_pos hk]
        rw [e]
        exact rnext_text s i w hi hm hk
      · have e : Lx.tokR true (s.data.toList.drop i) = Lx.markR true (s.data.toList.drop i) := by
          rw [hd0]; simp only [Lx.tokR, hl, hd, Bool.false_eq_true, if_false, if_neg hk]
        rw [e]
        exact rnext_mark s i w hi hm hl hd (byte_ne (n := 34) (by decide) hk)
    · have e : Lx.tokR true (s.data.toList.drop i) = Lx.numberR (s.data.toList.drop i) := by
        rw [hd0]; simp only [Lx.tokR, hl, hd, Bool.false_eq_true, if_false, if_true]
      rw [e]
      exact rnext_number s i w hi hm hl hd
  · have e : Lx.tokR true (s.data.toList.drop i) = Lx.nameR (s.data.toList.drop i) := by
      rw [hd0]; simp only [Lx.tokR, hl, if_true]
    rw [e]
    exact rnext_name s i w hi hm hl
end Go.Proofs.YtjolbladokgpbaaDoor
