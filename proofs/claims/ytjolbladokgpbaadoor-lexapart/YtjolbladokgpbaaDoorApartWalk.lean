/- The statement on what stands between tokens, walked. -/
import Derived.Test.YtjolbladokgpbaaDoorRefNext
import Derived.Test.YtjolbladokgpbaaDoorCutsWalk
import Derived.Test.YtjolbladokgpbaaDoorBlanks
namespace Go.Proofs.YtjolbladokgpbaaDoor
open Go.RowKit
set_option linter.unusedSimpArgs false
set_option linter.unusedVariables false

theorem quote_off : ∀ (N : Nat) (l : List UInt8) (o : Nat) (acc : List UInt8) (a er : Nat), l.length ≤ N → Lx.quoteR l o acc = Lx.R.bad a er → a ≤ o + l.length
  | N, [], o, acc, a, er, _, h => by simp [Lx.quoteR, Lx.R.bad] at h; omega
  | 0, c :: r, o, acc, a, er, hN, h => by simp at hN
  | N + 1, c :: r, o, acc, a, er, hN, h => by
    rw [quoteR_cons] at h
    simp only [List.length_cons] at hN ⊢
    split at h
    · split at h
      · simp [Lx.R.ok, Lx.R.bad] at h
      · simp [Lx.R.bad] at h; omega
    · split at h
      · split at h
        · simp [Lx.R.bad] at h; omega
        · split at h
          · rename_i d r' _
            have := quote_off N r' (o + 2) _ a er (by simp at hN; omega) h
            simp only [List.length_cons]; omega
          · simp [Lx.R.bad] at h; omega
      · split at h
        · have := quote_off N r (o + 1) _ a er (by omega) h
          omega
        · simp [Lx.R.bad] at h; omega
theorem tok_off {dot : Bool} {l : List UInt8} {a er : Nat} (h : Lx.tokR dot l = Lx.R.bad a er) : a ≤ l.length := by
  match l, h with
  | [], h => simp [Lx.tokR, Lx.R.ok, Lx.R.bad] at h
  | c :: r, h =>
    simp only [Lx.tokR] at h
    split at h
    · unfold Lx.nameR at h
      split at h
      · simp [Lx.R.ok, Lx.R.bad] at h
      · simp [Lx.R.bad] at h; omega
    · split at h
      · unfold Lx.numberR at h
        split at h
        · simp [Lx.R.bad] at h; omega
        · split at h
          · simp [Lx.R.ok, Lx.R.bad] at h
          · simp [Lx.R.bad] at h; omega
      · split at h
        · have := quote_off r.length r 1 [] a er (Nat.le_refl _) h
          simp only [List.length_cons]; omega
        · unfold Lx.markR at h
          split at h
          · simp [Lx.R.bad] at h; omega
          · simp [Lx.R.ok, Lx.R.bad] at h
theorem lexF_off (dot : Bool) : ∀ (f : Nat) (l : List UInt8) (i c a er : Nat), l.length < f → Lx.lexF dot f l i c = .inr (a, er) → a ≤ i + l.length
  | 0, l, i, c, a, er, hf, h => by omega
  | f + 1, l, i, c, a, er, hf, h => by
    have hk := Lx.skip_le false l
    simp only [Lx.lexF] at h
    split at h
    · split at h
      · simp at h
      · simp at h; omega
    · rename_i x r hd
      have hl := congrArg List.length hd
      simp at hl
      split at h
      · rename_i o e ht
        simp at h
        have := tok_off ht
        simp only [List.length_cons] at this
        omega
      · rename_i k t m n ht
        have hkn := tok_kinds ht
        split at h
        · rcases hg : Lx.lexF dot f (r.drop (n - 1)) (i + Lx.skipF false l + n) (c + 1) with ts | ⟨a', e'⟩
          · rw [hg] at h; simp [Lx.Out.pre] at h
          · rw [hg] at h
            simp [Lx.Out.pre] at h
            have := lexF_off dot f _ _ _ a' e' (by simp; omega) hg
            simp only [List.length_drop] at this
            omega
        · simp at h; omega
theorem lex_off {dot : Bool} {l : List UInt8} {a er : Nat} (h : Lx.lex dot l = .inr (a, er)) : a ≤ l.length := by
  unfold Lx.lex at h
  split at h
  · simp at h; omega
  · have := lexF_off dot _ l 0 0 a er (Nat.lt_succ_self _) h
    omega

/-- One token on: what stands at index j of the tokens, where the reading has come to place e. -/
theorem apart_step {s : ByteArray} {ts : List Lx.Tok} {j e : Nat} (he : e ≤ s.size) (h : Lx.lexGo true (s.data.toList.drop e) e j = .inl (ts.drop j)) :
    ∃ u, ts[j]? = some u ∧ u.place = e + gap s e ∧ ((u.kind = 5 ∧ j + 1 = ts.length ∧ u.place = s.size) ∨
      ∃ k t m n, u = ⟨k, t, m, u.place⟩ ∧ k ≠ 5 ∧ j + 1 < ts.length ∧ u.place < s.size ∧ Lx.tokR true (s.data.toList.drop u.place) = Lx.R.ok k t m n ∧ u.place + n ≤ s.size ∧ Lx.lexGo true (s.data.toList.drop (u.place + n)) (u.place + n) (j + 1) = .inl (ts.drop (j + 1))) := by
  obtain ⟨u, rest, hts, hpl, hc, hcase⟩ := first_tok h
  have hj : ts[j]? = some u := by
    have h1 := congrArg (fun l => l[0]?) hts
    simpa using h1
  have hlt := (List.getElem?_eq_some_iff.1 hj).1
  have hrest : ts.drop (j + 1) = rest := by
    have h1 := congrArg (List.drop 1) hts
    simpa [List.drop_drop, Nat.add_comm] using h1
  have hlen : rest.length = ts.length - (j + 1) := by rw [← hrest]; simp
  have hgl := gap_le s e he
  refine ⟨u, hj, hpl, ?_⟩
  rcases hcase with ⟨hd, hr, hu⟩ | ⟨x, r, k, t, m, n, hd, ht, hu, hgo⟩
  · left
    have h0 : rest.length = 0 := by rw [hr]; rfl
    refine ⟨by rw [hu], by omega, ?_⟩
    have := congrArg List.length hd
    simp only [List.length_drop, List.length_nil] at this
    have hl := len_list s
    rw [hpl]
    have hg2 : Lx.skipF false (s.data.toList.drop e) = gap s e := rfl
    rw [hg2] at this
    show e + gap s e = s.size
    omega
  · right
    have hp : u.place = e + gap s e := hpl
    have hd' : s.data.toList.drop u.place = x :: r := by rw [hp, ← List.drop_drop]; exact hd
    have hl := congrArg List.length hd'
    simp only [List.length_drop, List.length_cons] at hl
    have hll := len_list s
    have hkn := tok_kinds ht
    have hgo' : Lx.lexGo true (s.data.toList.drop (u.place + n)) (u.place + n) (j + 1) = .inl rest := by
      rw [List.drop_drop] at hgo
      have e1 : e + (Lx.skipF false (s.data.toList.drop e) + n) = u.place + n := by rw [hp]; show _ = e + gap s e + n; unfold gap; omega
      have e2 : e + Lx.skipF false (s.data.toList.drop e) + n = u.place + n := by rw [hp]; rfl
      rw [e1, e2] at hgo
      exact hgo
    obtain ⟨u2, rest2, hr2, _⟩ := first_tok hgo'
    have h0 : 0 < rest.length := by rw [hr2]; simp
    refine ⟨k, t, m, n, ?_, hkn.1, by omega, by omega, by rw [hd']; exact ht, by omega, by rw [hrest]; exact hgo'⟩
    rw [hu]

set_option maxRecDepth 100000 in
set_option maxHeartbeats 8000000 in
theorem apart_walk (s : ByteArray) (w : World) (henv : Env w) (hm : s.size ≤ maxLen) :
    Calls Tryd.prog 7 #[.string s] w fun e w' => e = .returned (.bool true) ∧ Below w.heap.size w w' := by
  have hw := wakes_any w henv
  have hl := len_list s
  go_enter Tryd.func7, Tryd.ntmps7
  go_wp2_with fail
  refine hw.mono ?_
  rintro e w1 ⟨rfl, hb1⟩
  have he1 := henv.below hb1 henv.lt
  clear hw
  have hL := lex_any s w1 he1 hm
  have hdot : dotC = true := rfl
  rw [hdot] at hL
  clear hdot
  rcases hlr : Lx.lex true s.data.toList with ts | ⟨a, er⟩
  · rw [hlr] at hL
    replace hL : Calls Tryd.prog 10 #[.string s] w1 fun e w' => (∃ v, e = .returned (.tuple #[v, .int .i64 0, .int .i64 0]) ∧ w'.ownsRow w1.heap.size 31 4 v ts.length (rowOf ts)) ∧ Below w1.heap.size w1 w' := hL
    obtain ⟨hpos, hshort⟩ := lex_nonempty hlr
    have hfew := lex_few hlr
    have hs16 : s.size ≤ 16384 := by omega
    have hgo : Aside (Lx.lexGo true (s.data.toList.drop 0) 0 0 = .inl (ts.drop 0)) := by
      show _ = _
      have h := hlr
      unfold Lx.lex at h
      rw [if_neg (by omega)] at h
      simpa using h
    clear hlr hl hshort
    go_wp2_with fail
    refine hL.mono ?_
    rintro e w2 ⟨⟨v, rfl, hown⟩, hb2⟩
    obtain ⟨ga, ca, rfl, hga, hgal, hcap, hrow⟩ := owns_toks hown hpos
    have hb2' : Below w.heap.size w w2 := hb1.trans (hb2.mono hb1.size)
    clear hL hown hb1 hb2 he1
    go_wp2_with fail
    go_loopg [6, 37] ts.length (fun g en ix wr => ∃ (j e : Nat), j ≤ ts.length ∧ g = ts.length - j ∧ en = .int .i64 e ∧ ix = .int .i64 j ∧ e ≤ s.size ∧ Below w2.heap.size w2 wr ∧ Aside (Lx.lexGo true (s.data.toList.drop e) e j = .inl (ts.drop j)))
    case atStart => exact ⟨0, 0, Nat.zero_le _, rfl, rfl, rfl, Nat.zero_le _, Below.refl _ _, hgo⟩
    case round =>
      clear hgo
      obtain ⟨j, e, hj, rfl, rfl, rfl, he, hB, hgo⟩ := hrel
      obtain ⟨u, hu, hpl, hcase⟩ := apart_step he hgo.out
      have hlt := (List.getElem?_eq_some_iff.1 hu).1
      obtain ⟨x0, x1, x2, x3⟩ := (hrow.below hB hgal) j u hu
      have hBw : Below w.heap.size w wr := hb2'.trans (hB.mono hb2'.size)
      have hsk : ∀ w1, Calls Tryd.prog 19 #[.string s, .int .i64 e] w1 fun e' w' => e' = .returned (.int .i64 (u.place : Nat)) ∧ w' = w1 := fun w1 => by
        have := rskip_any s e w1 hm he
        rw [← hpl] at this
        exact this
      have hltI : (j : Int) < (ts.length : Int) := by omega
      have hgl2 : ga < wr.heap.size := by have := hB.size; omega
      clear hgo
      rcases hcase with ⟨hk, hj1, hp⟩ | ⟨k, t, m, n, hue, hk, hj1, hp, ht, hn, hgo⟩
      · rw [hk] at x0
        rw [hp] at x3 hsk
        have hjI : ((j : Int) == (ts.length : Int) - 1) = true := by simp; omega
        clear hpl hu hk hp hrow
        go_wp2_with fail
        go_quiet ((go_at_call 19; refine Calls.quiet_of_same (v := .int .i64 (s.size : Nat)) ?_; exact hsk _))
        go_wp2
        go_ret
        exact ⟨rfl, below_drewN (hBw.alloc hBw.size _) _⟩
      · have hnx : ∀ w1, Calls Tryd.prog 20 #[.string s, .int .i64 (u.place : Nat)] w1 fun e w' => e = .returned (.tuple #[tokV k ⟨t.toArray⟩ m u.place, .int .i64 ((u.place + n : Nat) : Int), .int .i64 0]) ∧ Below w1.heap.size w1 w' := by
          intro w1
          have h := rnext_any s u.place w1 hp hs16
          rw [ht] at h
          exact h
        have hkk : u.kind = k := by rw [hue]
        have htt : u.text = t := by rw [hue]
        have hmm : u.num = m := by rw [hue]
        rw [hkk] at x0
        rw [htt] at x1
        rw [hmm] at x2
        obtain ⟨pl, hpl2⟩ : ∃ pl, pl = u.place := ⟨_, rfl⟩
        rw [← hpl2] at x3 hsk hnx hgo hn
        obtain ⟨e2, he2⟩ : ∃ e2, Aside (e2 = pl + n) := ⟨_, rfl⟩
        rw [← he2.out] at hnx hgo hn
        have hjI : ((j : Int) == (ts.length : Int) - 1) = false := by simp; omega
        have hkI : ((k : Int) == 5) = false := by simp; omega
        replace hgo : Aside _ := (show Aside _ from hgo)
        clear hpl hu hue hkk htt hmm hpl2 hp ht hrow he2
        go_wp2_with fail
        go_quiet ((go_at_call 19; refine Calls.quiet_of_same (v := .int .i64 (pl : Nat)) ?_; exact hsk _))
        have q0 : ((wr.alloc (.cells #[.int .i64 k, .string ⟨t.toArray⟩, .int .i64 m, .int .i64 pl] 31)).drewN nq).cell? ⟨wr.heap.size, 0, none⟩ = some (.int .i64 k) := by simp
        have q1 : ((wr.alloc (.cells #[.int .i64 k, .string ⟨t.toArray⟩, .int .i64 m, .int .i64 pl] 31)).drewN nq).cell? ⟨wr.heap.size, 1, none⟩ = some (.string ⟨t.toArray⟩) := by simp
        have q2 : ((wr.alloc (.cells #[.int .i64 k, .string ⟨t.toArray⟩, .int .i64 m, .int .i64 pl] 31)).drewN nq).cell? ⟨wr.heap.size, 2, none⟩ = some (.int .i64 m) := by simp
        have q3 : ((wr.alloc (.cells #[.int .i64 k, .string ⟨t.toArray⟩, .int .i64 m, .int .i64 pl] 31)).drewN nq).cell? ⟨wr.heap.size, 3, none⟩ = some (.int .i64 pl) := by simp
        have q4 : wr.heap.size < ((wr.alloc (.cells #[.int .i64 k, .string ⟨t.toArray⟩, .int .i64 m, .int .i64 pl] 31)).drewN nq).heap.size := by simp
        have hB8 : Below w2.heap.size w2 ((wr.alloc (.cells #[.int .i64 k, .string ⟨t.toArray⟩, .int .i64 m, .int .i64 pl] 31)).drewN nq) := below_drewN (hB.alloc hB.size _) _
        generalize ((wr.alloc (.cells #[.int .i64 k, .string ⟨t.toArray⟩, .int .i64 m, .int .i64 pl] 31)).drewN nq) = w8 at *
        clear x0 x1 x2 x3 hsk
        go_wp2_with fail
        refine (hnx _).mono ?_
        rintro e w9 ⟨rfl, hb9⟩
        rw [← hb9.cell (p := ⟨wr.heap.size, 0, none⟩) q4] at q0
        rw [← hb9.cell (p := ⟨wr.heap.size, 1, none⟩) q4] at q1
        rw [← hb9.cell (p := ⟨wr.heap.size, 2, none⟩) q4] at q2
        rw [← hb9.cell (p := ⟨wr.heap.size, 3, none⟩) q4] at q3
        have hB9 : Below w2.heap.size w2 w9 := hB8.trans (hb9.mono hB8.size)
        have q5 : wr.heap.size < w9.heap.size := by have := hb9.size; omega
        clear hnx hb9 hB8 hB hBw
        go_wp2_with fail
        go_roundg (ts.length - (j + 1))
        case measure => omega
        case rel => exact ⟨j + 1, e2, by omega, rfl, rfl, by go_num, hn, hB9.alloc hB9.size _, hgo⟩
  · rw [hlr] at hL
    replace hL : Calls Tryd.prog 10 #[.string s] w1 fun e w' => e = .returned (.tuple #[.slice none 0 0, .int .i64 a, .int .i64 er]) ∧ Below w1.heap.size w1 w' := hL
    have her : ¬ (er : Int) = 0 := by have := lex_err hlr; omega
    have hoff : (a : Int) ≤ (s.size : Int) := by have := lex_off hlr; omega
    clear hlr
    go_wp2_with fail
    refine hL.mono ?_
    rintro e w2 ⟨rfl, hb2⟩
    go_wp2
    go_ret
    exact ⟨rfl, hb1.trans (hb2.mono hb1.size)⟩
end Go.Proofs.YtjolbladokgpbaaDoor
