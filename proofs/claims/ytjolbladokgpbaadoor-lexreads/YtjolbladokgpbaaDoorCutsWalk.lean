/- The statement on cuts, walked. -/
import Derived.Test.YtjolbladokgpbaaDoorSame
import Derived.Test.YtjolbladokgpbaaDoorBackWalk
namespace Go.Proofs.YtjolbladokgpbaaDoor
open Go.RowKit
set_option linter.unusedSimpArgs false
set_option linter.unusedVariables false

theorem lex_nonempty {dot : Bool} {l : List UInt8} {ts : List Lx.Tok} (h : Lx.lex dot l = .inl ts) : 0 < ts.length ∧ l.length ≤ 16384 := by
  unfold Lx.lex at h
  split at h
  · simp at h
  · refine ⟨?_, by omega⟩
    rcases hd : l.drop (Lx.skipF false l) with _ | ⟨x, r⟩
    · rw [Lx.lexGo_end hd] at h
      simp at h; subst h; simp
    · rcases ht : Lx.tokR dot (x :: r) with ⟨k, t, m, n⟩ | ⟨o, e⟩
      · rw [Lx.lexGo_ok hd ht (tok_kinds ht).2.1] at h
        simp only [Nat.zero_lt_succ, if_true] at h
        rcases hg : Lx.lexGo dot (l.drop (Lx.skipF false l + n)) (0 + Lx.skipF false l + n) (0 + 1) with ts' | y
        · rw [hg] at h; simp [Lx.Out.pre] at h; subst h; simp
        · rw [hg] at h; simp [Lx.Out.pre] at h
      · rw [Lx.lexGo_bad hd ht] at h; simp at h
theorem lexF_few (dot : Bool) : ∀ (f : Nat) (l : List UInt8) (i c : Nat) (ts : List Lx.Tok), l.length < f → Lx.lexF dot f l i c = .inl ts → c + ts.length ≤ 4096
  | 0, l, i, c, ts, hf, h => by omega
  | f + 1, l, i, c, ts, hf, h => by
    simp only [Lx.lexF] at h
    split at h
    · split at h
      · simp at h; subst h; simp; omega
      · simp at h
    · rename_i x r hd
      have hl := congrArg List.length hd
      simp at hl
      split at h
      · simp at h
      · rename_i k t m n ht
        split at h
        · rcases hg : Lx.lexF dot f (r.drop (n - 1)) (i + Lx.skipF false l + n) (c + 1) with ts' | y
          · rw [hg] at h
            simp [Lx.Out.pre] at h
            subst h
            have := lexF_few dot f _ _ _ ts' (by simp; omega) hg
            simp; omega
          · rw [hg] at h; simp [Lx.Out.pre] at h
        · simp at h
theorem lex_few {dot : Bool} {l : List UInt8} {ts : List Lx.Tok} (h : Lx.lex dot l = .inl ts) : ts.length ≤ 4096 := by
  unfold Lx.lex at h
  split at h
  · simp at h
  · have := lexF_few dot _ l 0 0 ts (Nat.lt_succ_self _) h
    omega
theorem lex_cut0 {dot : Bool} {l : List UInt8} {ts : List Lx.Tok} {j : Nat} {t : Lx.Tok} (h : Lx.lex dot l = .inl ts) (ht : ts[j]? = some t) :
    Lx.lex dot (l.take t.place) = .inl (ts.take j ++ [⟨5, [], 0, t.place⟩]) ∧ t.place ≤ l.length := by
  have hle := (lex_nonempty h).2
  unfold Lx.lex at h
  rw [if_neg (by omega)] at h
  obtain ⟨h1, _, h3⟩ := lex_cut dot l.length l 0 0 ts j t (Nat.le_refl _) h ht
  simp at h1 h3
  refine ⟨?_, h3⟩
  unfold Lx.lex
  rw [if_neg (by simp; omega)]
  simpa using h1

set_option maxRecDepth 100000 in
set_option maxHeartbeats 8000000 in
theorem cuts_walk (s : ByteArray) (i : Int) (w : World) (henv : Env w) (hm : s.size ≤ maxLen) (hi0 : -9223372036854775808 ≤ i) (hi1 : i ≤ 9223372036854775807) :
    Calls Tryd.prog 8 #[.string s, .int .i64 i] w fun e w' => e = .returned (.bool true) ∧ Below w.heap.size w w' := by
  have hw := wakes_any w henv
  have hl := len_list s
  go_enter Tryd.func8, Tryd.ntmps8
  go_wp2_with fail
  refine hw.mono ?_
  rintro e w1 ⟨rfl, hb1⟩
  have he1 := henv.below hb1 henv.lt
  clear hw
  have hL := lex_any s w1 he1 hm
  rcases hlr : Lx.lex dotC s.data.toList with ts | ⟨a, er⟩
  · rw [hlr] at hL
    replace hL : Calls Tryd.prog 10 #[.string s] w1 fun e w' => (∃ v, e = .returned (.tuple #[v, .int .i64 0, .int .i64 0]) ∧ w'.ownsRow w1.heap.size 31 4 v ts.length (rowOf ts)) ∧ Below w1.heap.size w1 w' := hL
    obtain ⟨hpos, hshort⟩ := lex_nonempty hlr
    have hfew := lex_few hlr
    go_wp2_with fail
    refine hL.mono ?_
    rintro e w2 ⟨⟨v, rfl, hown⟩, hb2⟩
    obtain ⟨ga, ca, rfl, hga, hgal, hcap, hrow⟩ := owns_toks hown hpos
    have hb2' : Below w.heap.size w w2 := hb1.trans (hb2.mono hb1.size)
    clear hL hown
    by_cases hneg : i < 0
    · clear hrow hlr
      go_wp2
      go_ret
      exact ⟨rfl, hb2'⟩
    · by_cases hbig : (ts.length : Int) - 1 ≤ i
      · clear hrow hlr
        go_wp2
        go_ret
        exact ⟨rfl, hb2'⟩
      · obtain ⟨k, rfl⟩ : ∃ k : Nat, i = k := ⟨i.toNat, by omega⟩
        have hk : k + 1 < ts.length := by omega
        obtain ⟨t, ht⟩ : ∃ t, ts[k + 1]? = some t := ⟨ts[k + 1], List.getElem?_eq_getElem hk⟩
        obtain ⟨hcut, hple⟩ := lex_cut0 hlr ht
        obtain ⟨x0, x1, x2, x3⟩ := hrow (k + 1) t ht
        have he2 := henv.below hb2' henv.lt
        have hpl : t.place ≤ s.size := by omega
        have hL2 : Calls Tryd.prog 10 #[.string (s.extract 0 t.place)] w2 fun e w' => (∃ v, e = .returned (.tuple #[v, .int .i64 0, .int .i64 0]) ∧ w'.ownsRow w2.heap.size 31 4 v (ts.take (k + 1) ++ [(⟨5, [], 0, t.place⟩ : Lx.Tok)]).length (rowOf (ts.take (k + 1) ++ [(⟨5, [], 0, t.place⟩ : Lx.Tok)]))) ∧ Below w2.heap.size w2 w' := by
          have h := lex_any (s.extract 0 t.place) w2 he2 (by rw [ext_size hpl]; omega)
          rw [ext_list, List.drop_zero, hcut] at h
          exact h
        have hkI : (k : Int) + 1 < (ts.length : Int) := by omega
        clear hlr hcut
        have hlb : (ts.take (k + 1) ++ [(⟨5, [], 0, t.place⟩ : Lx.Tok)]).length = k + 2 := by simp; omega
        go_wp2_with fail
        refine hL2.mono ?_
        rintro e w3 ⟨⟨v3, rfl, hown3⟩, hb3⟩
        obtain ⟨gb, cb, hv3, hgb, hgbl, hcapb, hrowb⟩ := owns_toks hown3 (by omega)
        rw [hlb] at hv3 hcapb
        subst hv3
        have hrow3 := hrow.below hb3 hgal
        have hb3' : Below w.heap.size w w3 := hb2'.trans (hb3.mono hb2'.size)
        obtain ⟨x0, x1, x2, x3⟩ := hrow3 (k + 1) t ht
        obtain ⟨y0, y1, y2, y3⟩ := hrowb (k + 1) ⟨5, [], 0, t.place⟩ (by
          have e : (ts.take (k + 1)).length = k + 1 := by simp; omega
          rw [List.getElem?_append_right (by omega), e]; simp)
        have hpa : TokRow w3 ga (ts.take (k + 1)) := hrow3.take (k + 1)
        have hpb : TokRow w3 gb (ts.take (k + 1)) := by
          intro q u hq
          have hlt := (List.getElem?_eq_some_iff.1 hq).1
          exact hrowb q u (by rw [List.getElem?_append_left hlt]; exact hq)
        have hsame : ∀ q, Calls Tryd.prog 12 #[.slice (some ⟨gb, 0, none⟩) (k + 1) cb, .slice (some ⟨ga, 0, none⟩) (k + 1) ca] (w3.drewN q) fun e w' => e = .returned (.bool true) ∧ ∃ m, w' = (w3.drewN q).drewN m :=
          fun q => same_true gb ga (k + 1) cb ca (ts.take (k + 1)) (w3.drewN q) (by simp; omega) (by omega) hpb hpa
        have hcI1 : (k : Int) + 1 ≤ (cb : Int) := by omega
        have hcI2 : (k : Int) + 1 ≤ (ca : Int) := by omega
        clear hL2 hown3 hrow hrowb hrow3 hpa hpb ht hlb
        go_wp2_with fail
        go_quiet ((go_at_call 12; exact Calls.quiet_of (hsame _)))
        go_wp2
        go_ret
        exact ⟨rfl, below_drewN hb3' _⟩
  · rw [hlr] at hL
    replace hL : Calls Tryd.prog 10 #[.string s] w1 fun e w' => e = .returned (.tuple #[.slice none 0 0, .int .i64 a, .int .i64 er]) ∧ Below w1.heap.size w1 w' := hL
    have her : ¬ (er : Int) = 0 := by have := lex_err hlr; omega
    clear hlr
    go_wp2_with fail
    refine hL.mono ?_
    rintro e w2 ⟨rfl, hb2⟩
    go_wp2
    go_ret
    exact ⟨rfl, hb1.trans (hb2.mono hb1.size)⟩
end Go.Proofs.YtjolbladokgpbaaDoor
