/- The document's Lex. -/
import Derived.Test.YtjolbladokgpbaaDoorRefNext
import Derived.Test.YtjolbladokgpbaaDoorCutsWalk
namespace Go.Proofs.YtjolbladokgpbaaDoor
open Go.RowKit
set_option linter.unusedSimpArgs false
set_option linter.unusedVariables false

set_option maxRecDepth 100000 in
set_option maxHeartbeats 8000000 in
theorem rlex_short (s : ByteArray) (w : World) (hs : s.size ≤ 16384) :
    Calls Tryd.prog 11 #[.string s] w fun e w' => LexPost (Lx.lexGo true s.data.toList 0 0) w e w' := by
  have hsm : s.size ≤ maxLen := by unfold maxLen; omega
  obtain ⟨res, hres⟩ : ∃ res, Aside (res = Lx.lexGo true s.data.toList 0 0) := ⟨_, rfl⟩
  rw [← hres.out]
  obtain ⟨i0, hi0, hz⟩ := Option.map_eq_some_iff.1 (show (Tryd.prog.info? 31).map (fun i => (i.zero, i.size, i.bytes)) = some (some (.agg #[.int .i64 0, .string ⟨#[]⟩, .int .i64 0, .int .i64 0]), 4, 40) by kernel_rfl)
  simp only [Prod.mk.injEq] at hz
  obtain ⟨hz0, hz1, hz2⟩ := hz
  have hg0 := gap_le s 0 (Nat.zero_le _)
  have hsk0 : Calls Tryd.prog 19 #[.string s, .int .i64 0] w fun e w' => e = .returned (.int .i64 ((0 + gap s 0 : Nat) : Int)) ∧ w' = w := rskip_any s 0 w hsm (Nat.zero_le _)
  obtain ⟨j0, hj0⟩ : ∃ j, Aside (j = 0 + gap s 0) := ⟨_, rfl⟩
  rw [← hj0.out] at hsk0 hg0
  go_enter Tryd.func11, Tryd.ntmps11
  go_wp2_with (go_at_call 19; refine hsk0.mono ?_; rintro e w' ⟨rfl, rfl⟩)
  go_loopg [5, 6] (s.size - j0) (fun g v a wr => ∃ (i j : Nat) (ts : List Lx.Tok), Aside (j = i + gap s i) ∧ i ≤ s.size ∧ j ≤ s.size ∧ g = s.size - j ∧ a = .int .i64 j ∧ wr.ownsRow w'.heap.size 31 4 v ts.length (rowOf ts) ∧ Below w'.heap.size w' wr ∧ ts.length ≤ 4096 ∧
    Aside (res = Lx.Out.pre ts (Lx.lexGo true (s.data.toList.drop i) i ts.length)))
  case atStart => exact ⟨0, j0, [], hj0, Nat.zero_le _, hg0, rfl, rfl, ⟨rfl, Or.inl ⟨rfl, rfl⟩⟩, Below.refl _ _, by simp, by show _ = _; rw [hres.out, Lx.pre_nil]; rfl⟩
  case round =>
    clear hres hsk0 hj0 hg0
    obtain ⟨i, j, ts, hj, hi, hjs, rfl, rfl, hrow, hb, hfew, hr⟩ := hrel
    obtain ⟨ao, cap, rfl⟩ := slice_of hrow
    by_cases hlt : j < s.size
    · have hnx := rnext_any s j wr hlt hs
      have hgl : i + gap s i < s.size := by have := hj.out; omega
      rcases ht : Lx.tokR true (s.data.toList.drop j) with ⟨k, t, m, n⟩ | ⟨o, er⟩
      · rw [ht] at hnx
        replace hnx : Calls Tryd.prog 20 #[.string s, .int .i64 j] wr fun e w' => e = .returned (.tuple #[tokV k ⟨t.toArray⟩ m j, .int .i64 ((j + n : Nat) : Int), .int .i64 0]) ∧ Below wr.heap.size wr w' := hnx
        have hkn := tok_kinds (by rw [← drop_at s _ hlt]; exact ht)
        have hjn : j + n ≤ s.size := by
          have hl : (s.data.toList.drop (j + 1)).length + 1 = s.size - j := by simp; omega
          omega
        have hn1 := hkn.2.1
        have hr2 : Aside (res = Lx.Out.pre ts (if ts.length < 4096 then Lx.Out.pre [(⟨k, t, m, j⟩ : Lx.Tok)] (Lx.lexGo true (s.data.toList.drop (j + n)) (j + n) (ts.length + 1)) else .inr (j, 36))) := by
          show _ = _
          have h := hr.out
          rw [at_ok hgl (by rw [← hj.out]; exact ht), ← hj.out] at h
          exact h
        clear hr ht hkn hj hgl
        have hgl2 := gap_le s (j + n) hjn
        have hsk := fun w1 => rskip_any s (j + n) w1 hsm hjn
        obtain ⟨e2, he2⟩ : ∃ e2, Aside (e2 = j + n) := ⟨_, rfl⟩
        rw [← he2.out] at hnx hsk hgl2 hjn
        obtain ⟨j2, hj2⟩ : ∃ j2, Aside (j2 = e2 + gap s e2) := ⟨_, rfl⟩
        have hj2j : j < j2 := by have := hj2.out; have := he2.out; omega
        rw [← hj2.out] at hsk hgl2
        by_cases hc : ts.length < 4096
        · have hr3 : Aside (res = Lx.Out.pre (ts ++ [(⟨k, t, m, j⟩ : Lx.Tok)]) (Lx.lexGo true (s.data.toList.drop e2) e2 (ts ++ [(⟨k, t, m, j⟩ : Lx.Tok)]).length)) := by
            show _ = _
            have h := hr2.out
            rw [if_pos hc, Lx.pre_pre] at h
            rw [h, he2.out]; simp
          have hcI : ¬ (4096 : Int) ≤ (ts.length : Int) := by omega
          clear hr2
          go_wp2_with (first
            | (go_at_call 20; refine hnx.mono ?_; rintro e w2 ⟨rfl, hb2⟩)
            | (at_builtin; refine wpList_append_own _ rfl _ _ 23 rfl w'.heap.size 31 i0 (.agg #[.int .i64 0, .string ⟨#[]⟩, .int .i64 0, .int .i64 0]) 4 40 Tryd.underlying23 hi0 hz0 hz1 hz2 rfl (by decide) _ ts.length _ rfl (((owns_below hrow hb2).alloc _).alloc _) ⟨w2.heap.size + 1, 0, none⟩ 1 1 [.int .i64 k, .string ⟨t.toArray⟩, .int .i64 m, .int .i64 j] rfl rfl ?c1 ?c2 ?c3 ?c4 ?c5 ?_))
          case c1 =>
            intro x u hx
            match x, hx with
            | 0, hx => simp at hx; subst hx; simp [Addr.add]
            | 1, hx => simp at hx; subst hx; simp [Addr.add]
            | 2, hx => simp at hx; subst hx; simp [Addr.add]
            | 3, hx => simp at hx; subst hx; simp [Addr.add]
          case c2 => intro u hu; simp at hu; rcases hu with rfl | rfl | rfl | rfl <;> rfl
          case c3 => unfold maxLen; omega
          case c4 => omega
          case c5 => have h1 := hb2.size; have h2 := hb.size; simp; omega
          intro v' w3 hown hgrow hnil
          clear hnil
          have hb3 : Below w'.heap.size w' w3 := (((hb.trans (hb2.mono hb.size)).alloc (by have := hb2.size; have := hb.size; omega) _).alloc (by have := hb2.size; have := hb.size; simp; omega) _).grown hgrow (by have := hb2.size; have := hb.size; simp; omega) (fun x hx => (hrow.lt x hx).1)
          have hrow3 : w3.ownsRow w'.heap.size 31 4 v' (ts ++ [(⟨k, t, m, j⟩ : Lx.Tok)]).length (rowOf (ts ++ [(⟨k, t, m, j⟩ : Lx.Tok)])) := by simpa [rowOf_snoc, tokCells] using hown
          clear hown hgrow hrow hb hb2 hnx
          go_wp2_with (go_at_call 19; refine (hsk _).mono ?_; rintro e w4 ⟨rfl, rfl⟩)
          go_roundg (s.size - j2)
          case measure => omega
          case rel => exact ⟨e2, j2, ts ++ [⟨k, t, m, j⟩], hj2, hjn, hgl2, rfl, rfl, hrow3, hb3, by simp; omega, hr3⟩
        · have hr3 : Aside (res = .inr (j, 36)) := by
            show _ = _
            have h := hr2.out
            rw [if_neg hc] at h
            exact h
          have hcI : (4096 : Int) ≤ (ts.length : Int) := by omega
          clear hr2 hsk
          go_wp2_with (go_at_call 20; refine hnx.mono ?_; rintro e w2 ⟨rfl, hb2⟩)
          refine bodyPost_ret (v := .tuple #[.slice none 0 0, .int .i64 (j : Int), .int .i64 36]) (by simp [results, Tryd.results11, go_sem]) rfl ?_
          rw [hr3.out]
          exact ⟨rfl, (hb.trans (hb2.mono hb.size)).alloc (by have := hb2.size; have := hb.size; omega) _⟩
      · rw [ht] at hnx
        replace hnx : Calls Tryd.prog 20 #[.string s, .int .i64 j] wr fun e w' => e = .returned (.tuple #[tokV 0 ⟨#[]⟩ 0 0, .int .i64 ((j + o : Nat) : Int), .int .i64 er]) ∧ Below wr.heap.size wr w' := hnx
        have her : ¬ (er : Int) = 0 := by have := tok_err ht; omega
        have hr2 : Aside (res = .inr (j + o, er)) := by
          show _ = _
          have h := hr.out
          rw [at_bad hgl (by rw [← hj.out]; exact ht), ← hj.out] at h
          exact h
        clear hr ht hj
        go_wp2_with (go_at_call 20; refine hnx.mono ?_; rintro e w2 ⟨rfl, hb2⟩)
        refine bodyPost_ret (v := .tuple #[.slice none 0 0, .int .i64 ((j + o : Nat) : Int), .int .i64 er]) (by simp [results, Tryd.results11, go_sem]) rfl ?_
        rw [hr2.out]
        exact ⟨rfl, (hb.trans (hb2.mono hb.size)).alloc (by have := hb2.size; have := hb.size; omega) _⟩
    · have hje : j = s.size := by omega
      have hr2 : Aside (res = Lx.Out.pre ts (if ts.length < 4096 then .inl [⟨5, [], 0, j⟩] else .inr (j, 36))) := by
        show _ = _
        have h := hr.out
        rw [at_end (by rw [← hj.out]; exact hje), ← hje] at h
        exact h
      clear hr hj
      by_cases hc : ts.length < 4096
      · have hr3 : Aside (res = .inl (ts ++ [(⟨5, [], 0, j⟩ : Lx.Tok)])) := by
          show _ = _
          have h := hr2.out
          rw [if_pos hc] at h
          exact h
        have hcI : ¬ (4096 : Int) ≤ (ts.length : Int) := by omega
        clear hr2 hje
        go_wp2_with (at_builtin; refine wpList_append_own _ rfl _ _ 23 rfl w'.heap.size 31 i0 (.agg #[.int .i64 0, .string ⟨#[]⟩, .int .i64 0, .int .i64 0]) 4 40 Tryd.underlying23 hi0 hz0 hz1 hz2 rfl (by decide) _ ts.length _ rfl (hrow.alloc _) ⟨wr.heap.size, 0, none⟩ 1 1 [.int .i64 5, .string ⟨#[]⟩, .int .i64 0, .int .i64 j] rfl rfl ?c1 ?c2 ?c3 ?c4 ?c5 ?_)
        case c2 => first | rfl | exact ⟨rfl, rfl, rfl, rfl⟩ | (intro u hu; simp at hu; rcases hu with rfl | rfl | rfl | rfl <;> rfl)
        case c3 => unfold maxLen; omega
        case c4 => omega
        case c5 => have h2 := hb.size; first | omega | (simp; omega)
        intro v' w3 hown hgrow hnil
        clear hnil
        have hb3 : Below w'.heap.size w' w3 := (hb.alloc hb.size _).grown hgrow (by have := hb.size; simp; omega) (fun x hx => (hrow.lt x hx).1)
        have hrow3 : w3.ownsRow w'.heap.size 31 4 v' (ts ++ [(⟨5, [], 0, j⟩ : Lx.Tok)]).length (rowOf (ts ++ [(⟨5, [], 0, j⟩ : Lx.Tok)])) := by simpa [rowOf_snoc, tokCells] using hown
        clear hown hgrow hrow hb
        go_wp2
        refine bodyPost_ret (v := .tuple #[v', .int .i64 0, .int .i64 0]) (by simp [results, Tryd.results11, go_sem]) rfl ?_
        rw [hr3.out]
        exact ⟨⟨v', rfl, hrow3⟩, hb3⟩
      · have hr3 : Aside (res = .inr (j, 36)) := by
          show _ = _
          have h := hr2.out
          rw [if_neg hc] at h
          exact h
        have hcI : (4096 : Int) ≤ (ts.length : Int) := by omega
        clear hr2 hje
        go_wp2
        refine bodyPost_ret (v := .tuple #[.slice none 0 0, .int .i64 (j : Int), .int .i64 36]) (by simp [results, Tryd.results11, go_sem]) rfl ?_
        rw [hr3.out]
        exact ⟨rfl, hb⟩

set_option maxHeartbeats 2000000 in
theorem rlex_any (s : ByteArray) (w : World) (hm : s.size ≤ maxLen) :
    Calls Tryd.prog 11 #[.string s] w fun e w' => LexPost (Lx.lex true s.data.toList) w e w' := by
  have hl : s.data.toList.length = s.size := by simp
  unfold Lx.lex
  rw [hl]
  by_cases hs : 16384 < s.size
  · rw [if_pos hs]
    unfold maxLen at hm
    have hI : 16384 < (s.size : Int) := by omega
    go_enter Tryd.func11, Tryd.ntmps11
    go_wp2
    exact bodyPost_ret (v := .tuple #[.slice none 0 0, .int .i64 16384, .int .i64 3]) (by simp [results, Tryd.results11, go_sem]) rfl ⟨rfl, Below.refl _ _⟩
  · rw [if_neg hs]
    exact rlex_short s w (by omega)

set_option maxHeartbeats 2000000 in
theorem same_none (w : World) : Calls Tryd.prog 12 #[.slice none 0 0, .slice none 0 0] w fun e w' => e = .returned (.bool true) ∧ w' = w := by
  go_enter Tryd.func12, Tryd.ntmps12
  go_wp2_with fail
  go_loop [13] (fun i => i = .int .i64 0) (fun i => 0)
  case atStart => rfl
  case round =>
    subst hrel
    go_wp2
    go_ret
    exact ⟨rfl, rfl⟩

set_option maxRecDepth 100000 in
set_option maxHeartbeats 4000000 in
theorem reads_walk (s : ByteArray) (w : World) (henv : Env w) (hm : s.size ≤ maxLen) :
    Calls Tryd.prog 3 #[.string s] w fun e w' => e = .returned (.bool true) ∧ Below w.heap.size w w' := by
  have hw := wakes_any w henv
  go_enter Tryd.func3, Tryd.ntmps3
  go_wp2_with fail
  refine hw.mono ?_
  rintro e w1 ⟨rfl, hb1⟩
  have he1 := henv.below hb1 henv.lt
  clear hw
  have hL := lex_any s w1 he1 hm
  have hR := fun w2 => rlex_any s w2 hm
  have hdot : dotC = true := rfl
  rw [hdot] at hL
  have hfewA : Aside (∀ ts, Lx.lex true s.data.toList = .inl ts → 0 < ts.length ∧ ts.length ≤ 4096) := fun ts h => ⟨(lex_nonempty h).1, lex_few h⟩
  rcases hlr : Lx.lex true s.data.toList with ts | ⟨a, er⟩
  · obtain ⟨hpos, hfew⟩ := hfewA.out ts hlr
    simp only [hlr] at hL hR
    replace hL : Calls Tryd.prog 10 #[.string s] w1 fun e w' => (∃ v, e = .returned (.tuple #[v, .int .i64 0, .int .i64 0]) ∧ w'.ownsRow w1.heap.size 31 4 v ts.length (rowOf ts)) ∧ Below w1.heap.size w1 w' := hL
    replace hR : ∀ w2, Calls Tryd.prog 11 #[.string s] w2 fun e w' => (∃ v, e = .returned (.tuple #[v, .int .i64 0, .int .i64 0]) ∧ w'.ownsRow w2.heap.size 31 4 v ts.length (rowOf ts)) ∧ Below w2.heap.size w2 w' := hR
    clear hlr hfewA hdot
    go_wp2_with fail
    refine hL.mono ?_
    rintro e w2 ⟨⟨v, rfl, hown⟩, hb2⟩
    obtain ⟨ga, ca, rfl, hga, hgal, hcap, hrow⟩ := owns_toks hown hpos
    have hb2' : Below w.heap.size w w2 := hb1.trans (hb2.mono hb1.size)
    clear hL hown
    go_wp2_with fail
    refine (hR w2).mono ?_
    rintro e w3 ⟨⟨v, rfl, hown⟩, hb3⟩
    obtain ⟨gb, cb, rfl, hgb, hgbl, hcapb, hrowb⟩ := owns_toks hown hpos
    have hb3' : Below w.heap.size w w3 := hb2'.trans (hb3.mono hb2'.size)
    have hrow3 := hrow.below hb3 hgal
    have hsame := same_true ga gb ts.length ca cb ts w3 rfl hfew hrow3 hrowb
    clear hR hown hrow hrowb hrow3
    go_wp2_with (go_at_call 12; refine hsame.mono ?_; rintro e w4 ⟨rfl, mm, rfl⟩)
    go_ret
    exact ⟨rfl, below_drewN hb3' _⟩
  · simp only [hlr] at hL hR
    replace hL : Calls Tryd.prog 10 #[.string s] w1 fun e w' => e = .returned (.tuple #[.slice none 0 0, .int .i64 a, .int .i64 er]) ∧ Below w1.heap.size w1 w' := hL
    replace hR : ∀ w2, Calls Tryd.prog 11 #[.string s] w2 fun e w' => e = .returned (.tuple #[.slice none 0 0, .int .i64 a, .int .i64 er]) ∧ Below w2.heap.size w2 w' := hR
    clear hlr hfewA hdot
    go_wp2_with fail
    refine hL.mono ?_
    rintro e w2 ⟨rfl, hb2⟩
    go_wp2_with fail
    refine (hR w2).mono ?_
    rintro e w3 ⟨rfl, hb3⟩
    have hb3' : Below w.heap.size w w3 := (hb1.trans (hb2.mono hb1.size)).trans (hb3.mono (Nat.le_trans hb1.size hb2.size))
    go_wp2_with (go_at_call 12; refine (same_none _).mono ?_; rintro e w4 ⟨rfl, rfl⟩)
    go_ret
    exact ⟨rfl, hb3'⟩
end Go.Proofs.YtjolbladokgpbaaDoor
