/- The statement on there and back, walked. -/
import Derived.Test.YtjolbladokgpbaaDoorBack
namespace Go.Proofs.YtjolbladokgpbaaDoor
open Go.RowKit
set_option linter.unusedSimpArgs false
set_option linter.unusedVariables false

theorem quote_err : ∀ (N : Nat) (l : List UInt8) (o : Nat) (acc : List UInt8) (a er : Nat), l.length ≤ N → Lx.quoteR l o acc = Lx.R.bad a er → er ≠ 0
  | N, [], o, acc, a, er, _, h => by simp [Lx.quoteR, Lx.R.bad] at h; omega
  | 0, c :: r, o, acc, a, er, hN, h => by simp at hN
  | N + 1, c :: r, o, acc, a, er, hN, h => by
    rw [quoteR_cons] at h
    simp only [List.length_cons] at hN
    split at h
    · split at h
      · simp [Lx.R.ok, Lx.R.bad] at h
      · simp [Lx.R.bad] at h; omega
    · split at h
      · split at h
        · simp [Lx.R.bad] at h; omega
        · split at h
          · rename_i d r' _
            exact quote_err N r' (o + 2) _ a er (by simp at hN; omega) h
          · simp [Lx.R.bad] at h; omega
      · split at h
        · exact quote_err N r (o + 1) _ a er (by omega) h
        · simp [Lx.R.bad] at h; omega
theorem tok_err {dot : Bool} {l : List UInt8} {a er : Nat} (h : Lx.tokR dot l = Lx.R.bad a er) : er ≠ 0 := by
  match l, h with
  | [], h => simp [Lx.tokR, Lx.R.ok, Lx.R.bad] at h
  | c :: r, h =>
    simp only [Lx.tokR] at h
    split at h
    · unfold Lx.nameR at h
      split at h
      · simp [Lx.R.ok, Lx.R.bad] at h
      · simp [Lx.R.bad] at h; omega
    · split at h
      · unfold Lx.numberR at h
        split at h
        · simp [Lx.R.bad] at h; omega
        · split at h
          · simp [Lx.R.ok, Lx.R.bad] at h
          · simp [Lx.R.bad] at h; omega
      · split at h
        · exact quote_err r.length r 1 [] a er (Nat.le_refl _) h
        · unfold Lx.markR at h
          split at h
          · simp [Lx.R.bad] at h; omega
          · simp [Lx.R.ok, Lx.R.bad] at h
theorem lexF_err (dot : Bool) : ∀ (f : Nat) (l : List UInt8) (i c a er : Nat), l.length < f → Lx.lexF dot f l i c = .inr (a, er) → er ≠ 0
  | 0, l, i, c, a, er, hf, h => by omega
  | f + 1, l, i, c, a, er, hf, h => by
    simp only [Lx.lexF] at h
    split at h
    · split at h
      · simp at h
      · simp at h; omega
    · rename_i x r hd
      have hl := congrArg List.length hd
      simp at hl
      split at h
      · rename_i o e ht
        simp at h
        rw [← h.2]
        exact tok_err ht
      · rename_i k t m n ht
        split at h
        · rcases hg : Lx.lexF dot f (r.drop (n - 1)) (i + Lx.skipF false l + n) (c + 1) with ts | ⟨a', e'⟩
          · rw [hg] at h; simp [Lx.Out.pre] at h
          · rw [hg] at h
            simp [Lx.Out.pre] at h
            rw [← h.2]
            exact lexF_err dot f _ _ _ a' e' (by simp; omega) hg
        · simp at h; omega
theorem lex_err {dot : Bool} {l : List UInt8} {a er : Nat} (h : Lx.lex dot l = .inr (a, er)) : er ≠ 0 := by
  unfold Lx.lex at h
  split at h
  · simp at h; omega
  · exact lexF_err dot _ l 0 0 a er (Nat.lt_succ_self _) h

theorem str_same (s : ByteArray) : (⟨s.data.toList.toArray⟩ : ByteArray) = s := bytes_same rfl

set_option maxRecDepth 100000 in
set_option maxHeartbeats 8000000 in
theorem back_walk (s : ByteArray) (w : World) (henv : Env w) (hm : s.size ≤ maxLen) :
    Calls Tryd.prog 5 #[.string s] w fun e w' => e = .returned (.bool true) ∧ Below w.heap.size w w' := by
  have hw := wakes_any w henv
  have hl := len_list s
  go_enter Tryd.func5, Tryd.ntmps5
  go_wp2_with fail
  refine hw.mono ?_
  rintro e w1 ⟨rfl, hb1⟩
  have he1 := henv.below hb1 henv.lt
  clear hw
  rcases hp : plainB s.data.toList with _ | _
  · go_wp2_with fail
    refine (plain_any s _ hm).mono ?_
    rw [hp]
    rintro e w2 ⟨rfl, rfl⟩
    go_wp2_with fail
    rcases hwd : wordB s.data.toList with _ | _
    · rcases hlr : Lx.lex dotC s.data.toList with ts | ⟨a, er⟩
      · have hL : Calls Tryd.prog 10 #[.string s] w2 fun e w' => (∃ v, e = .returned (.tuple #[v, .int .i64 0, .int .i64 0]) ∧ w'.ownsRow w2.heap.size 31 4 v ts.length (rowOf ts)) ∧ Below w2.heap.size w2 w' := by
          have h := lex_any s w2 he1 hm
          rw [hlr] at h
          exact h
        by_cases h2 : ts.length = 2
        · obtain ⟨t0, t1, rfl⟩ : ∃ t0 t1, ts = [t0, t1] := by
            match ts, h2 with
            | [t0, t1], _ => exact ⟨t0, t1, rfl⟩
          have hne : Aside (¬ (t0 = ⟨1, s.data.toList, 0, 0⟩)) := by
            rintro rfl
            have := word_lex dotC s.data.toList t1 hlr
            rw [this] at hwd; simp at hwd
          clear hlr h2
          go_wp2_with fail
          refine hL.mono ?_
          rintro e w7 ⟨⟨v7, rfl, hown7⟩, hb7⟩
          obtain ⟨g7, cap7, rfl, hg7, hgl7, hc7⟩ := owns_cells hown7 (by simp)
          obtain ⟨k, t, m, pl⟩ := t0
          have x0 := hc7 0 _ rfl
          have x1 := hc7 1 _ rfl
          have x2 := hc7 2 _ rfl
          have x3 := hc7 3 _ rfl
          clear hc7 hown7 hL
          go_wp2_with fail
          refine (word_any s _ hm).mono ?_
          rw [hwd]
          rintro e w8 ⟨rfl, rfl⟩
          go_wp2_with fail
          all_goals first
            | (go_ret; exact ⟨rfl, hb1.trans (hb7.mono hb1.size)⟩)
            | (exfalso; apply hne.out; have hk1 : k = 1 := by omega
               have ht1 : t = s.data.toList := by rw [← ByteArray.toList_eq]; assumption
               have hm1 : m = 0 := by omega
               have hp1 : pl = 0 := by omega
               rw [hk1, ht1, hm1, hp1])
        · have hn2 : ¬ (ts.length : Int) = 2 := by omega
          clear hlr h2
          go_wp2_with fail
          refine hL.mono ?_
          rintro e w7 ⟨⟨v7, rfl, hown7⟩, hb7⟩
          obtain ⟨ao7, cap7, rfl⟩ := slice_of hown7
          clear hown7 hL
          go_wp2_with (go_at_call 17; refine (word_any s _ hm).mono ?_; rw [hwd]; rintro e w8 ⟨rfl, rfl⟩)
          go_ret
          exact ⟨rfl, hb1.trans (hb7.mono hb1.size)⟩
      · have hL : Calls Tryd.prog 10 #[.string s] w2 fun e w' => e = .returned (.tuple #[.slice none 0 0, .int .i64 a, .int .i64 er]) ∧ Below w2.heap.size w2 w' := by
          have h := lex_any s w2 he1 hm
          rw [hlr] at h
          exact h
        have her := lex_err hlr
        have her' : ¬ (er : Int) = 0 := by omega
        clear hlr
        go_wp2_with fail
        refine hL.mono ?_
        rintro e w7 ⟨rfl, hb7⟩
        go_wp2_with (go_at_call 17; refine (word_any s _ hm).mono ?_; rw [hwd]; rintro e w8 ⟨rfl, rfl⟩)
        go_ret
        exact ⟨rfl, hb1.trans (hb7.mono hb1.size)⟩
    · have hL : Calls Tryd.prog 10 #[.string s] w2 fun e w' => (∃ v, e = .returned (.tuple #[v, .int .i64 0, .int .i64 0]) ∧ w'.ownsRow w2.heap.size 31 4 v 2 (rowOf [⟨1, s.data.toList, 0, 0⟩, ⟨5, [], 0, s.data.toList.length⟩])) ∧ Below w2.heap.size w2 w' := by
        have h := lex_any s w2 he1 hm
        rw [lex_word dotC s.data.toList hwd] at h
        exact h
      go_wp2_with fail
      refine hL.mono ?_
      rintro e w7 ⟨⟨v7, rfl, hown7⟩, hb7⟩
      obtain ⟨g7, cap7, rfl, hg7, hgl7, hc7⟩ := owns_cells hown7 (by omega)
      have x0 := hc7 0 _ rfl
      have x1 := hc7 1 _ rfl
      have x2 := hc7 2 _ rfl
      have x3 := hc7 3 _ rfl
      rw [str_same] at x1
      clear hc7 hown7 hL
      go_wp2_with (go_at_call 17; refine (word_any s _ hm).mono ?_; rw [hwd]; rintro e w8 ⟨rfl, rfl⟩)
      go_ret
      exact ⟨rfl, hb1.trans (hb7.mono hb1.size)⟩
  · have hlq := lex_quote dotC s.data.toList hp
    have hpl : s.data.toList.length ≤ 256 := by
      simp only [plainB, Bool.and_eq_true, decide_eq_true_eq] at hp; exact hp.1
    have hql : (⟨(quoteT s.data.toList).toArray⟩ : ByteArray).size ≤ maxLen := by
      have h1 := escT_len s.data.toList
      have h2 : (⟨(quoteT s.data.toList).toArray⟩ : ByteArray).size = (quoteT s.data.toList).length := by show (quoteT s.data.toList).toArray.size = _; simp
      rw [h2]; unfold maxLen quoteT; simp; omega
    have hx : ∀ w2, Env w2 → Calls Tryd.prog 10 #[.string ⟨(quoteT s.data.toList).toArray⟩] w2 fun e w' => (∃ v, e = .returned (.tuple #[v, .int .i64 0, .int .i64 0]) ∧ w'.ownsRow w2.heap.size 31 4 v 2 (rowOf [⟨3, s.data.toList, 0, 0⟩, ⟨5, [], 0, (quoteT s.data.toList).length⟩])) ∧ Below w2.heap.size w2 w' := by
      intro w2 he
      have h := lex_any _ w2 he hql
      have e : (⟨(quoteT s.data.toList).toArray⟩ : ByteArray).data.toList = quoteT s.data.toList := rfl
      rw [e, hlq] at h
      exact h
    clear hlq
    go_wp2_with fail
    refine (plain_any s _ hm).mono ?_
    rw [hp]
    rintro e w2 ⟨rfl, rfl⟩
    go_wp2_with fail
    refine (quote_any s _ (by omega)).mono ?_
    rintro e w3 ⟨rfl, hb3⟩
    go_wp2_with fail
    refine (hx w3 (he1.below hb3 he1.lt)).mono ?_
    rintro e w4 ⟨⟨v, rfl, hown⟩, hb4⟩
    obtain ⟨g, cap, rfl, hg, hgl, hc⟩ := owns_cells hown (by omega)
    have d0 := hc 0 _ rfl
    have d1 := hc 1 _ rfl
    have d2 := hc 2 _ rfl
    have d3 := hc 3 _ rfl
    have d4 := hc 4 _ rfl
    rw [str_same] at d1
    clear hc hx hown
    have hb4' : Below w.heap.size w w4 := (hb1.trans (hb3.mono hb1.size)).trans (hb4.mono (Nat.le_trans hb1.size hb3.size))
    have he4 := henv.below hb4' henv.lt
    go_wp2_with fail
    rcases hwd : wordB s.data.toList with _ | _
    · rcases hlr : Lx.lex dotC s.data.toList with ts | ⟨a, er⟩
      · have hL : Calls Tryd.prog 10 #[.string s] w4 fun e w' => (∃ v, e = .returned (.tuple #[v, .int .i64 0, .int .i64 0]) ∧ w'.ownsRow w4.heap.size 31 4 v ts.length (rowOf ts)) ∧ Below w4.heap.size w4 w' := by
          have h := lex_any s w4 he4 hm
          rw [hlr] at h
          exact h
        by_cases h2 : ts.length = 2
        · obtain ⟨t0, t1, rfl⟩ : ∃ t0 t1, ts = [t0, t1] := by
            match ts, h2 with
            | [t0, t1], _ => exact ⟨t0, t1, rfl⟩
          have hne : Aside (¬ (t0 = ⟨1, s.data.toList, 0, 0⟩)) := by
            rintro rfl
            have := word_lex dotC s.data.toList t1 hlr
            rw [this] at hwd; simp at hwd
          clear hlr h2
          go_wp2_with fail
          refine hL.mono ?_
          rintro e w7 ⟨⟨v7, rfl, hown7⟩, hb7⟩
          obtain ⟨g7, cap7, rfl, hg7, hgl7, hc7⟩ := owns_cells hown7 (by simp)
          obtain ⟨k, t, m, pl⟩ := t0
          have x0 := hc7 0 _ rfl
          have x1 := hc7 1 _ rfl
          have x2 := hc7 2 _ rfl
          have x3 := hc7 3 _ rfl
          clear hc7 hown7 hL
          go_wp2_with fail
          refine (word_any s _ hm).mono ?_
          rw [hwd]
          rintro e w8 ⟨rfl, rfl⟩
          go_wp2_with fail
          all_goals first
            | (go_ret; exact ⟨rfl, hb4'.trans (hb7.mono hb4'.size)⟩)
            | (exfalso; apply hne.out; have hk1 : k = 1 := by omega
               have ht1 : t = s.data.toList := by rw [← ByteArray.toList_eq]; assumption
               have hm1 : m = 0 := by omega
               have hp1 : pl = 0 := by omega
               rw [hk1, ht1, hm1, hp1])
        · have hn2 : ¬ (ts.length : Int) = 2 := by omega
          clear hlr h2
          go_wp2_with fail
          refine hL.mono ?_
          rintro e w7 ⟨⟨v7, rfl, hown7⟩, hb7⟩
          obtain ⟨ao7, cap7, rfl⟩ := slice_of hown7
          clear hown7 hL
          go_wp2_with (go_at_call 17; refine (word_any s _ hm).mono ?_; rw [hwd]; rintro e w8 ⟨rfl, rfl⟩)
          go_ret
          exact ⟨rfl, hb4'.trans (hb7.mono hb4'.size)⟩
      · have hL : Calls Tryd.prog 10 #[.string s] w4 fun e w' => e = .returned (.tuple #[.slice none 0 0, .int .i64 a, .int .i64 er]) ∧ Below w4.heap.size w4 w' := by
          have h := lex_any s w4 he4 hm
          rw [hlr] at h
          exact h
        have her := lex_err hlr
        have her' : ¬ (er : Int) = 0 := by omega
        clear hlr
        go_wp2_with fail
        refine hL.mono ?_
        rintro e w7 ⟨rfl, hb7⟩
        go_wp2_with (go_at_call 17; refine (word_any s _ hm).mono ?_; rw [hwd]; rintro e w8 ⟨rfl, rfl⟩)
        go_ret
        exact ⟨rfl, hb4'.trans (hb7.mono hb4'.size)⟩
    · have hL : Calls Tryd.prog 10 #[.string s] w4 fun e w' => (∃ v, e = .returned (.tuple #[v, .int .i64 0, .int .i64 0]) ∧ w'.ownsRow w4.heap.size 31 4 v 2 (rowOf [⟨1, s.data.toList, 0, 0⟩, ⟨5, [], 0, s.data.toList.length⟩])) ∧ Below w4.heap.size w4 w' := by
        have h := lex_any s w4 he4 hm
        rw [lex_word dotC s.data.toList hwd] at h
        exact h
      go_wp2_with fail
      refine hL.mono ?_
      rintro e w7 ⟨⟨v7, rfl, hown7⟩, hb7⟩
      obtain ⟨g7, cap7, rfl, hg7, hgl7, hc7⟩ := owns_cells hown7 (by omega)
      have x0 := hc7 0 _ rfl
      have x1 := hc7 1 _ rfl
      have x2 := hc7 2 _ rfl
      have x3 := hc7 3 _ rfl
      rw [str_same] at x1
      clear hc7 hown7 hL
      go_wp2_with (go_at_call 17; refine (word_any s _ hm).mono ?_; rw [hwd]; rintro e w8 ⟨rfl, rfl⟩)
      go_ret
      exact ⟨rfl, hb4'.trans (hb7.mono hb4'.size)⟩
end Go.Proofs.YtjolbladokgpbaaDoor
