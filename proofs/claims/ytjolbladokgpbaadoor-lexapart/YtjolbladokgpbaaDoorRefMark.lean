/- The document's marks. -/
import Derived.Test.YtjolbladokgpbaaDoorRefSkip
namespace Go.Proofs.YtjolbladokgpbaaDoor
open Go.RowKit
set_option linter.unusedSimpArgs false
set_option linter.unusedVariables false

/-- What the document's reading of one token at place i answers: the token and where it ends; or no token, a fault's place and an error. -/
def NextV (res : Lx.R) (i : Nat) : Value :=
  match res with
  | .inl (k, t, m, n) => .tuple #[tokV k ⟨t.toArray⟩ m i, .int .i64 ((i + n : Nat) : Int), .int .i64 0]
  | .inr (o, er) => .tuple #[tokV 0 ⟨#[]⟩ 0 0, .int .i64 ((i + o : Nat) : Int), .int .i64 er]
def NextPost (res : Lx.R) (i : Nat) (w : World) (e : Ending) (w' : World) : Prop := e = .returned (NextV res i) ∧ Below w.heap.size w w'

theorem NextPost.ok {res : Lx.R} {k : Nat} {t : List UInt8} {m n i : Nat} {w w' : World} {ta : ByteArray} {z : Int} (h : res = Lx.R.ok k t m n) (ht : ta = ⟨t.toArray⟩) (hz : z = ((i + n : Nat) : Int)) (hb : Below w.heap.size w w') :
    NextPost res i w (.returned (.tuple #[tokV k ta m i, .int .i64 z, .int .i64 0])) w' := by
  subst h; subst ht; subst hz; exact ⟨rfl, hb⟩
theorem NextPost.bad {res : Lx.R} {o er i : Nat} {w w' : World} {z y : Int} (h : res = Lx.R.bad o er) (hz : z = ((i + o : Nat) : Int)) (hy : y = (er : Int)) (hb : Below w.heap.size w w') :
    NextPost res i w (.returned (.tuple #[tokV 0 ⟨#[]⟩ 0 0, .int .i64 z, .int .i64 y])) w' := by
  subst h; subst hz; subst hy; exact ⟨rfl, hb⟩
theorem pair_list (s : ByteArray) (i : Nat) (hs : i + 1 < s.size) : (s.extract i (i + 2)).toList = [s[i], s[i + 1]] := by
  rw [ByteArray.toList_eq, ext_list, List.drop_take, drop_at s i (by omega), drop_at s (i + 1) hs]
  simp
theorem two_at (s : ByteArray) (i : Nat) (hs : i + 1 < s.size) : Lx.two (s.data.toList.drop i) = ((s[i + 1] == 61 && (s[i] == 61 || s[i] == 33 || s[i] == 60 || s[i] == 62)) || (s[i] == 38 && s[i + 1] == 38) || (s[i] == 124 && s[i + 1] == 124)) := by
  rw [drop_at s i (by omega), drop_at s (i + 1) hs]; rfl
theorem two_end (s : ByteArray) (i : Nat) (hi : i < s.size) (hs : ¬ i + 1 < s.size) : Lx.two (s.data.toList.drop i) = false := by
  rw [drop_at s i hi, List.drop_eq_nil_of_le (by simp; omega)]; rfl
theorem take_ext (s : ByteArray) (i n : Nat) : s.extract i (i + n) = ⟨((s.data.toList.drop i).take n).toArray⟩ := bytes_same (by rw [ext_list, List.drop_take]; simp)

set_option maxHeartbeats 4000000 in
theorem rmark_two (s : ByteArray) (i : Nat) (w : World) (hs : i + 1 < s.size) (hm : s.size ≤ 16384) (h : Lx.two (s.data.toList.drop i) = true) :
    Calls Tryd.prog 36 #[.string s, .int .i64 i] w fun e w' => NextPost (Lx.markR true (s.data.toList.drop i)) i w e w' := by
  have hres : Aside (Lx.markR true (s.data.toList.drop i) = Lx.R.ok 4 ((s.data.toList.drop i).take 2) 0 2) := by
    show _ = _
    unfold Lx.markR Lx.markN
    rw [h]; rfl
  have hte : Aside (s.extract i (i + 2) = _) := take_ext s i 2
  have hl := pair_list s i hs
  rw [two_at s i hs] at h
  simp only [Bool.or_eq_true, Bool.and_eq_true, beq_iff_eq] at h
  have hb : ∀ o, Below w.heap.size w (w.alloc o) := fun o => (Below.refl _ _).alloc (Nat.le_refl _) _
  have hle : i + 2 ≤ s.size := by omega
  rcases h with (⟨h1, ((h0 | h0) | h0) | h0⟩ | ⟨h0, h1⟩) | ⟨h0, h1⟩
  all_goals
    rw [h0, h1] at hl
    clear h0 h1
    go_enter Tryd.func36, Tryd.ntmps36
    go_wp2
    exact bodyPost_ret (v := .tuple #[tokV 4 (s.extract i (i + 2)) 0 i, .int .i64 ((i : Int) + 2), .int .i64 0]) (by simp [results, Tryd.results36, go_sem, tokV]) rfl (NextPost.ok hres.out hte.out (by omega) (hb _))

theorem one_iff (c : UInt8) : Lx.one true c = (((c.toNat : Int) == 40) || (((c.toNat : Int) == 41) || (((c.toNat : Int) == 123) || (((c.toNat : Int) == 125) || (((c.toNat : Int) == 91) || (((c.toNat : Int) == 93) || (((c.toNat : Int) == 58) || (((c.toNat : Int) == 59) || (((c.toNat : Int) == 44) || (((c.toNat : Int) == 61) || (((c.toNat : Int) == 60) || (((c.toNat : Int) == 62) || (((c.toNat : Int) == 43) || (((c.toNat : Int) == 45) || (((c.toNat : Int) == 42) || (((c.toNat : Int) == 47) || (((c.toNat : Int) == 37) || (((c.toNat : Int) == 33) || ((c.toNat : Int) == 46))))))))))))))))))) := by
  rw [Bool.eq_iff_iff]
  simp [Lx.one, Lx.ones, ← UInt8.toNat_inj]
  omega

set_option maxHeartbeats 8000000 in
theorem rmark_one (s : ByteArray) (i : Nat) (w : World) (hs : i < s.size) (hm : s.size ≤ 16384) (h : Lx.two (s.data.toList.drop i) = false) :
    Calls Tryd.prog 36 #[.string s, .int .i64 i] w fun e w' => NextPost (Lx.markR true (s.data.toList.drop i)) i w e w' := by
  have hyes : Aside (Lx.one true s[i] = true → Lx.markR true (s.data.toList.drop i) = Lx.R.ok 4 ((s.data.toList.drop i).take 1) 0 1) := by
    intro h1
    unfold Lx.markR Lx.markN
    rw [h, drop_at s i hs]
    simp only [h1, if_true]; rfl
  have hno : Aside (Lx.one true s[i] = false → Lx.markR true (s.data.toList.drop i) = Lx.R.bad 0 30) := by
    intro h1
    unfold Lx.markR Lx.markN
    rw [h, drop_at s i hs]
    simp only [h1]; rfl
  have hone : Aside (Lx.one true s[i] = _) := one_iff s[i]
  have hte : Aside (s.extract i (i + 1) = _) := take_ext s i 1
  have hb : ∀ o, Below w.heap.size w (w.alloc o) := fun o => (Below.refl _ _).alloc (Nat.le_refl _) _
  by_cases h2 : i + 1 < s.size
  · have hl := pair_list s i h2
    rw [two_at s i h2] at h
    simp only [Bool.or_eq_false_iff, Bool.and_eq_false_iff, beq_eq_false_iff_ne] at h
    have k1 : ((s.extract i (i + 2)).toList == [61, 61]) = false := by rw [hl]; apply bytes_two; rintro ⟨a, b⟩; simp_all
    have k2 : ((s.extract i (i + 2)).toList == [33, 61]) = false := by rw [hl]; apply bytes_two; rintro ⟨a, b⟩; simp_all
    have k3 : ((s.extract i (i + 2)).toList == [60, 61]) = false := by rw [hl]; apply bytes_two; rintro ⟨a, b⟩; simp_all
    have k4 : ((s.extract i (i + 2)).toList == [62, 61]) = false := by rw [hl]; apply bytes_two; rintro ⟨a, b⟩; simp_all
    have k5 : ((s.extract i (i + 2)).toList == [38, 38]) = false := by rw [hl]; apply bytes_two; rintro ⟨a, b⟩; simp_all
    have k6 : ((s.extract i (i + 2)).toList == [124, 124]) = false := by rw [hl]; apply bytes_two; rintro ⟨a, b⟩; simp_all
    clear h hl
    go_enter Tryd.func36, Tryd.ntmps36
    go_wp2
    all_goals
      rename_i hy
      first
      | (have h1 : Lx.one true s[i] = true := by rw [hone.out]; simp only [hy, Bool.true_or, Bool.or_true]
         exact bodyPost_ret (v := .tuple #[tokV 4 (s.extract i (i + 1)) 0 i, .int .i64 ((i : Int) + 1), .int .i64 0]) (by simp [results, Tryd.results36, go_sem, tokV]) rfl (NextPost.ok (hyes.out h1) hte.out (by omega) (hb _)))
      | (have h1 : Lx.one true s[i] = false := by rw [hone.out]; simp only [*, Bool.false_or]
         exact bodyPost_ret (v := .tuple #[tokV 0 ⟨#[]⟩ 0 0, .int .i64 (i : Int), .int .i64 30]) (by simp [results, Tryd.results36, go_sem, tokV]) rfl (NextPost.bad (hno.out h1) (by omega) (by omega) (hb _)))
  · go_enter Tryd.func36, Tryd.ntmps36
    go_wp2
    all_goals
      rename_i hy
      first
      | (have h1 : Lx.one true s[i] = true := by rw [hone.out]; simp only [hy, Bool.true_or, Bool.or_true]
         exact bodyPost_ret (v := .tuple #[tokV 4 (s.extract i (i + 1)) 0 i, .int .i64 ((i : Int) + 1), .int .i64 0]) (by simp [results, Tryd.results36, go_sem, tokV]) rfl (NextPost.ok (hyes.out h1) hte.out (by omega) (hb _)))
      | (have h1 : Lx.one true s[i] = false := by rw [hone.out]; simp only [*, Bool.false_or]
         exact bodyPost_ret (v := .tuple #[tokV 0 ⟨#[]⟩ 0 0, .int .i64 (i : Int), .int .i64 30]) (by simp [results, Tryd.results36, go_sem, tokV]) rfl (NextPost.bad (hno.out h1) (by omega) (by omega) (hb _)))

theorem rmark_any (s : ByteArray) (i : Nat) (w : World) (hi : i < s.size) (hm : s.size ≤ 16384) :
    Calls Tryd.prog 36 #[.string s, .int .i64 i] w fun e w' => NextPost (Lx.markR true (s.data.toList.drop i)) i w e w' := by
  rcases h : Lx.two (s.data.toList.drop i) with _ | _
  · exact rmark_one s i w hi hm h
  · by_cases h2 : i + 1 < s.size
    · exact rmark_two s i w h2 hm h
    · rw [two_end s i hi h2] at h; simp at h
end Go.Proofs.YtjolbladokgpbaaDoor
