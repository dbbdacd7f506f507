/- The statements on brackets, and on other blanks, walked over what Parse answers. -/
import Derived.Test.YtnmdnjdibdmodaaGreatDoorParseLaws
namespace Go.Proofs.YtnmdnjdibdmodaaGreatDoor
open Go.RowKit
set_option linter.unusedSimpArgs false
set_option linter.unusedVariables false

theorem put_len {l : List UInt8} {q : Nat} {t : List UInt8} : (putAround l q t 0).length ≤ 2 * l.length + t.length + 2 := by
  simp [putAround]; omega

set_option maxRecDepth 100000 in
set_option maxHeartbeats 8000000 in
theorem round_walk (HP : ParseOk) (s : ByteArray) (i : Int) (w : World) (henv : Env w) (hm : s.size ≤ maxLen) (hi0 : -9223372036854775808 ≤ i) (hi1 : i ≤ 9223372036854775807) :
    Calls Tryz.prog 7 #[.string s, .int .i64 i] w fun e w' => e = .returned (.bool true) ∧ Below w.heap.size w w' := by
  have hw := wakes7_any HP w henv
  have hl := len_list s
  go_enter Tryz.func7, Tryz.ntmps7
  go_wp2_with fail
  refine hw.mono ?_
  rintro e w1 ⟨rfl, hb1⟩
  have he1 := henv.below hb1 henv.lt
  clear hw
  have hL := HP s w1 he1 hm
  have hdot : Aside (dotC = true) := rfl
  rcases hpr : Px.parse s.data.toList with p | ⟨a, er⟩
  · rw [hpr] at hL
    replace hL : Calls Tryz.prog 9 #[.string s] w1 fun e w' => (∃ v, e = .returned (.tuple #[v, .int .i64 0, .int .i64 0]) ∧ IsPr (From w1.heap.size) w' p v) ∧ Below w1.heap.size w1 w' := hL
    replace hpr : Aside _ := (show Aside _ from hpr)
    go_wp2_with fail
    refine hL.mono ?_
    rintro e w2 ⟨⟨v, rfl, hp⟩, hb2⟩
    obtain ⟨sa, sn, sc, fa, fn, fc, hv⟩ := hp.cells
    subst hv
    have hb2' : Below w.heap.size w w2 := hb1.trans (hb2.mono hb1.size)
    have hpA : Aside (IsPr (From w1.heap.size) w2 p (.agg #[.int .i64 p.version, .slice sa sn sc, .slice fa fn fc])) := hp
    have hb12 : w.heap.size ≤ w1.heap.size := hb1.size
    clear hp hL hb1 hb2 he1
    go_wp2_with fail
    have hbx : Below w2.heap.size w2 (w2.alloc (.cells #[.int .i64 p.version, .slice sa sn sc, .slice fa fn fc] 26)) := (Below.refl _ _).alloc (Nat.le_refl _) _
    have q0 : (w2.alloc (.cells #[.int .i64 p.version, .slice sa sn sc, .slice fa fn fc] 26)).cell? ⟨w2.heap.size, 0, none⟩ = some (.int .i64 p.version) := by simp
    have q1 : (w2.alloc (.cells #[.int .i64 p.version, .slice sa sn sc, .slice fa fn fc] 26)).cell? ⟨w2.heap.size, 1, none⟩ = some (.slice sa sn sc) := by simp
    have q2 : (w2.alloc (.cells #[.int .i64 p.version, .slice sa sn sc, .slice fa fn fc] 26)).cell? ⟨w2.heap.size, 2, none⟩ = some (.slice fa fn fc) := by simp
    have q3 : w2.heap.size < (w2.alloc (.cells #[.int .i64 p.version, .slice sa sn sc, .slice fa fn fc] 26)).heap.size := by simp
    have hb3 : Below w.heap.size w (w2.alloc (.cells #[.int .i64 p.version, .slice sa sn sc, .slice fa fn fc] 26)) := hb2'.alloc hb2'.size _
    generalize w2.alloc (.cells #[.int .i64 p.version, .slice sa sn sc, .slice fa fn fc] 26) = w3 at *
    refine (brackets_any s i w3 (henv.below hb3 henv.lt) hm hi0 hi1).mono ?_
    rintro e w4 ⟨hb4, hbr⟩
    have hb4' : Below w.heap.size w w4 := hb3.trans (hb4.mono hb3.size)
    rcases hbr with rfl | ⟨ts, q, t, hlx, hq2, ht, hk, rfl⟩
    · go_wp2
      go_ret
      exact ⟨rfl, hb4'⟩
    · rw [hdot.out] at hlx
      have hmath : Aside _ := (show Aside _ from parse_round hpr.out hlx ht hq2 hk)
      have hfit := lex_num_fits hlx q t ht hk
      have hshort := (lex_nonempty hlx).2
      have hpl := put_len (l := s.data.toList) (q := t.place) (t := t.text)
      have hsz2 : (⟨(putAround s.data.toList t.place t.text 0).toArray⟩ : ByteArray).size ≤ maxLen := by
        show (putAround s.data.toList t.place t.text 0).toArray.size ≤ maxLen
        simp only [List.size_toArray]
        unfold maxLen; omega
      have hR := HP ⟨(putAround s.data.toList t.place t.text 0).toArray⟩ w4 (henv.below hb4' henv.lt) hsz2
      rw [show (⟨(putAround s.data.toList t.place t.text 0).toArray⟩ : ByteArray).data.toList = putAround s.data.toList t.place t.text 0 by simp] at hR
      clear hlx ht hfit hshort hpl hsz2
      rcases hmath.out with ⟨a2, er2, h2, h32⟩ | ⟨p2, h2, her⟩
      · rw [h2] at hR
        replace hR : Calls Tryz.prog 9 #[.string ⟨(putAround s.data.toList t.place t.text 0).toArray⟩] w4 fun e w' => e = .returned (.tuple #[zeroPr, .int .i64 a2, .int .i64 er2]) ∧ Below w4.heap.size w4 w' := hR
        clear hmath h2
        go_wp2_with fail
        refine hR.mono ?_
        rintro e w5 ⟨rfl, hb5⟩
        have hb5' : Below w.heap.size w w5 := hb4'.trans (hb5.mono hb4'.size)
        rcases h32 with rfl | rfl | rfl
        all_goals
          go_wp2
          go_ret
          exact ⟨rfl, hb5'.alloc hb5'.size _⟩
      · rw [h2] at hR
        replace hR : Calls Tryz.prog 9 #[.string ⟨(putAround s.data.toList t.place t.text 0).toArray⟩] w4 fun e w' => (∃ v, e = .returned (.tuple #[v, .int .i64 0, .int .i64 0]) ∧ IsPr (From w4.heap.size) w' p2 v) ∧ Below w4.heap.size w4 w' := hR
        clear hmath h2
        go_wp2_with fail
        refine hR.mono ?_
        rintro e w5 ⟨⟨v2, rfl, hp2⟩, hb5⟩
        obtain ⟨ta, tn, tc, ga, gn, gc, hv2⟩ := hp2.cells
        subst hv2
        have hb5' : Below w.heap.size w w5 := hb4'.trans (hb5.mono hb4'.size)
        have hb35 : Below w3.heap.size w3 w5 := hb4.trans (hb5.mono hb4.size)
        have r0 := (hb35.cell (p := ⟨w2.heap.size, 0, none⟩) q3).trans q0
        have r1 := (hb35.cell (p := ⟨w2.heap.size, 1, none⟩) q3).trans q1
        have r2 := (hb35.cell (p := ⟨w2.heap.size, 2, none⟩) q3).trans q2
        have r3 : w2.heap.size < w5.heap.size := by have := hb35.size; omega
        have hs25 : Since (From w.heap.size) w2 w5 := (Since.of_below hbx).trans (Since.of_below hb35)
        have hPa : IsPr (From w.heap.size) w5 p (.agg #[.int .i64 p.version, .slice sa sn sc, .slice fa fn fc]) := (hpA.out.base (from_mono hb12)).since hs25
        have hPb : IsPr (From w.heap.size) w5 p2 (.agg #[.int .i64 p2.version, .slice ta tn tc, .slice ga gn gc]) := hp2.base (from_mono (by have := hb4'.size; omega))
        have hcall : ∀ w6, Below w5.heap.size w5 w6 → Calls Tryz.prog 11 #[.agg #[.int .i64 p.version, .slice sa sn sc, .slice fa fn fc], .agg #[.int .i64 p2.version, .slice ta tn tc, .slice ga gn gc], .bool false] w6 fun r w' => r = .returned (.bool true) ∧ Below w6.heap.size w6 w' :=
          fun w6 h6 => same_any p p2 _ _ false (From w.heap.size) w6 (hPa.since (Since.of_below h6)) (hPb.since (Since.of_below h6)) her
        clear hPa hPb hp2 hpA hR hs25 q0 q1 q2 q3 hbx hb4 hb5 hb35
        generalize w2.heap.size = g2 at *
        go_wp2_with fail
        have hb6 : Below w5.heap.size w5 (w5.alloc (.cells #[.int .i64 p2.version, .slice ta tn tc, .slice ga gn gc] 26)) := (Below.refl _ _).alloc (Nat.le_refl _) _
        refine (hcall _ hb6).mono ?_
        rintro e w7 ⟨rfl, hb7⟩
        go_wp2
        go_ret
        exact ⟨rfl, (hb5'.trans (hb6.mono hb5'.size)).trans (hb7.mono (by have := hb5'.size; have := hb6.size; omega))⟩
  · rw [hpr] at hL
    replace hL : Calls Tryz.prog 9 #[.string s] w1 fun e w' => e = .returned (.tuple #[zeroPr, .int .i64 a, .int .i64 er]) ∧ Below w1.heap.size w1 w' := hL
    have her : ¬ (er : Int) = 0 := by
      rcases parse_bad_cases hpr with h | ⟨ts, _, _, h, _⟩
      · omega
      · omega
    clear hpr
    go_wp2_with fail
    refine hL.mono ?_
    rintro e w2 ⟨rfl, hb2⟩
    have hb2' : Below w.heap.size w w2 := hb1.trans (hb2.mono hb1.size)
    go_wp2
    go_ret
    exact ⟨rfl, hb2'.alloc hb2'.size _⟩
end Go.Proofs.YtnmdnjdibdmodaaGreatDoor
