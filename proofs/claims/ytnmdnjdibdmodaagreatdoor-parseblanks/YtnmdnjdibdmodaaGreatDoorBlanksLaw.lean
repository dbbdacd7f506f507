/- The statement on other blanks and notes, walked over what Parse answers. -/
import Derived.Test.YtnmdnjdibdmodaaGreatDoorRoundLaw
namespace Go.Proofs.YtnmdnjdibdmodaaGreatDoor
open Go.RowKit
set_option linter.unusedSimpArgs false
set_option linter.unusedVariables false

theorem BtsP.below {w w' : World} {a : Option Addr} {len : Nat} {z : Nat → Nat} (h : BtsP w a len z) (m : Below w.heap.size w w') : BtsP w' a len z := by
  refine ⟨h.1, ?_⟩
  rcases h.2 with h0 | ⟨b, o, e, hb, hz⟩
  · exact Or.inl h0
  · exact Or.inr ⟨b, o, e, by have := m.size; omega, fun k hk => ⟨by rw [m.cell (p := ⟨b, o + k, none⟩) hb]; exact (hz k hk).1, (hz k hk).2⟩⟩
theorem padS_pad (len : Nat) (z : Nat → Nat) (j : Nat) : Pad (padS len z j) ∧ padS len z j ≠ [] := pk_pad _
theorem padS_len (len : Nat) (z : Nat → Nat) (j : Nat) : (padS len z j).length ≤ 4 := pk_len _
theorem str_list (l : List UInt8) : (⟨l.toArray⟩ : ByteArray).data.toList = l := by simp
theorem str_size (l : List UInt8) (h : l.length ≤ 16384) : (⟨l.toArray⟩ : ByteArray).size ≤ maxLen := by
  show l.toArray.size ≤ maxLen
  simp only [List.size_toArray]
  unfold maxLen; omega
theorem lex_texts {l : List UInt8} {ts : List Lx.Tok} (h : Lx.lex true l = .inl ts) : ∀ t ∈ ts, t.text.length ≤ 16640 := by
  have hle := (lex_nonempty h).2
  unfold Lx.lex at h
  rw [if_neg (by omega)] at h
  intro t ht
  have := text_len true l (l.length + 1) 0 0 ts (by omega) (by omega) (by simpa using h) t ht
  omega
theorem sp_short {l : List UInt8} {ts : List Lx.Tok} (h : Lx.lex true l = .inl ts) (hs : l.length ≤ 2048) (len : Nat) (z : Nat → Nat) (a : Nat → Lx.Tok → Bool) : (sp (padS len z) a 0 ts).length ≤ 16384 := by
  unfold Lx.lex at h
  rw [if_neg (by omega)] at h
  have := sp_len true l (padS len z) a (padS_len len z) (l.length + 1) 0 0 ts 0 (by omega) (by omega) (by simpa using h)
  omega
/-- A box with a program's three cells, at block g, still there. -/
def PrBox (w : World) (g ver : Nat) (sa : Option Addr) (sn sc : Nat) (fa : Option Addr) (fn fc : Nat) : Prop := g < w.heap.size ∧ w.cell? ⟨g, 0, none⟩ = some (.int .i64 ver) ∧ w.cell? ⟨g, 1, none⟩ = some (.slice sa sn sc) ∧ w.cell? ⟨g, 2, none⟩ = some (.slice fa fn fc)
theorem PrBox.below {w w' : World} {B g ver : Nat} {sa : Option Addr} {sn sc : Nat} {fa : Option Addr} {fn fc : Nat} (h : PrBox w g ver sa sn sc fa fn fc) (m : Below B w w') (hg : g < B) : PrBox w' g ver sa sn sc fa fn fc := by
  obtain ⟨h0, h1, h2, h3⟩ := h
  exact ⟨by have := m.size; omega, (m.cell (p := ⟨g, 0, none⟩) hg).trans h1, (m.cell (p := ⟨g, 1, none⟩) hg).trans h2, (m.cell (p := ⟨g, 2, none⟩) hg).trans h3⟩
theorem PrBox.new (w : World) (ver : Nat) (sa : Option Addr) (sn sc : Nat) (fa : Option Addr) (fn fc : Nat) : PrBox (w.alloc (.cells #[.int .i64 ver, .slice sa sn sc, .slice fa fn fc] 26)) w.heap.size ver sa sn sc fa fn fc := ⟨by simp, by simp, by simp, by simp⟩

set_option maxRecDepth 100000 in
set_option maxHeartbeats 8000000 in
theorem pblanks_walk (HP : ParseOk) (s : ByteArray) (a : Option Addr) (len cap : Nat) (z : Nat → Nat) (w : World) (henv : Env w) (hm : s.size ≤ maxLen) (hpads : BtsP w a len z) :
    Calls Tryz.prog 4 #[.string s, .slice a len cap] w fun e w' => e = .returned (.bool true) ∧ Below w.heap.size w w' := by
  have hw := wakes7_any HP w henv
  have hl := len_list s
  go_enter Tryz.func4, Tryz.ntmps4
  go_wp2_with fail
  refine hw.mono ?_
  rintro e w1 ⟨rfl, hb1⟩
  have he1 := henv.below hb1 henv.lt
  clear hw
  have hL := lex_any s w1 he1 hm
  rw [show dotC = true from rfl] at hL
  rcases hlx : Lx.lex true s.data.toList with ts | ⟨aa, er⟩
  · rw [hlx] at hL
    replace hL : Calls Tryz.prog 14 #[.string s] w1 fun e w' => (∃ v, e = .returned (.tuple #[v, .int .i64 0, .int .i64 0]) ∧ w'.ownsRow w1.heap.size 39 4 v ts.length (rowOf ts)) ∧ Below w1.heap.size w1 w' := hL
    obtain ⟨hpos, hsh⟩ := lex_nonempty hlx
    have hfew := lex_few hlx
    go_wp2_with fail
    refine hL.mono ?_
    rintro e w2 ⟨⟨v, rfl, hown⟩, hb2⟩
    obtain ⟨ga, ca, rfl, hga, hgal, hcap, hrow⟩ := owns_toks hown hpos
    have hb2' : Below w.heap.size w w2 := hb1.trans (hb2.mono hb1.size)
    clear hL hown hb1 hb2 he1
    by_cases hbig : 2048 < s.size
    · have hbigI : 2048 < (s.size : Int) := by omega
      clear hrow hlx
      go_wp2
      go_ret
      exact ⟨rfl, hb2'⟩
    · have hbigI : ¬ 2048 < (s.size : Int) := by omega
      have hsmall : s.data.toList.length ≤ 2048 := by omega
      have hS1 := parse_spaced (p := padS len z) hlx hsmall (padS_pad len z) (padS_len len z) (arS false len z) (fun j t => by simp [arS])
      have hsz1 := str_size _ (sp_short hlx hsmall len z (arS false len z))
      have hsz2 := str_size _ (sp_short hlx hsmall len z (arS true len z))
      have htx := lex_texts hlx
      have hP := HP s w2 (henv.below hb2' henv.lt) hm
      have hSp : ∀ (ar : Bool) (w5 : World), Below w2.heap.size w2 w5 → Calls Tryz.prog 15 #[.slice (some ⟨ga, 0, none⟩) ts.length ca, .slice a len cap, .bool ar] w5 fun e w' => e = .returned (.string ⟨(sp (padS len z) (arS ar len z) 0 ts).toArray⟩) ∧ Below w5.heap.size w5 w' := by
        intro ar w5 h5
        exact spaced_any ts ga ca a len cap z ar w5 (hrow.below h5 hgal) (by have := h5.size; omega) hfew htx (hpads.below (hb2'.trans (h5.mono hb2'.size)))
      have hPs : ∀ (ar : Bool) (w5 : World), Below w.heap.size w w5 → Calls Tryz.prog 9 #[.string ⟨(sp (padS len z) (arS ar len z) 0 ts).toArray⟩] w5 fun e w' => ParsePost (Px.parse (sp (padS len z) (arS ar len z) 0 ts)) w5 e w' := by
        intro ar w5 h5
        have h := HP ⟨(sp (padS len z) (arS ar len z) 0 ts).toArray⟩ w5 (henv.below h5 henv.lt) (by cases ar <;> assumption)
        rw [str_list] at h
        exact h
      replace htx : Aside _ := (show Aside _ from htx)
      clear hrow hpads hsz1 hsz2
      rcases hS1 with ⟨x, y, hx, hy, hxy⟩ | ⟨b, c, er, hx, hy, hne⟩
      · rw [hx] at hP
        replace hP : Calls Tryz.prog 9 #[.string s] w2 fun e w' => (∃ v, e = .returned (.tuple #[v, .int .i64 0, .int .i64 0]) ∧ IsPr (From w2.heap.size) w' x v) ∧ Below w2.heap.size w2 w' := hP
        have hPf : ∀ (w5 : World), Below w.heap.size w w5 → Calls Tryz.prog 9 #[.string ⟨(sp (padS len z) (arS false len z) 0 ts).toArray⟩] w5 fun e w' => (∃ v, e = .returned (.tuple #[v, .int .i64 0, .int .i64 0]) ∧ IsPr (From w5.heap.size) w' y v) ∧ Below w5.heap.size w5 w' := by
          intro w5 h5
          have h := hPs false w5 h5
          rw [hy] at h
          exact h
        have hPt := hPs true
        have hS2 := parse_spaced_round (p := padS len z) hlx hx hsmall (padS_pad len z) (padS_len len z) (arS true len z) (fun j t h => by simp [arS] at h; exact ⟨h.1, by omega⟩)
        replace hxy : Aside _ := (show Aside _ from hxy)
        clear hx hy hlx hPs
        go_wp2_with fail
        refine hP.mono ?_
        rintro e w3 ⟨⟨v, rfl, hp⟩, hb3⟩
        obtain ⟨sa, sn, sc, fa, fn, fc, hv⟩ := hp.cells
        subst hv
        have hb3' : Below w.heap.size w w3 := hb2'.trans (hb3.mono hb2'.size)
        have hpA : Aside (IsPr (From w.heap.size) w3 x (.agg #[.int .i64 x.version, .slice sa sn sc, .slice fa fn fc])) := hp.base (from_mono hb2'.size)
        clear hp hP
        go_wp2_with fail
        have hbx := PrBox.new w3 x.version sa sn sc fa fn fc
        have hb34 : Below w3.heap.size w3 (w3.alloc (.cells #[.int .i64 x.version, .slice sa sn sc, .slice fa fn fc] 26)) := (Below.refl _ _).alloc (Nat.le_refl _) _
        generalize w3.alloc (.cells #[.int .i64 x.version, .slice sa sn sc, .slice fa fn fc] 26) = w4 at *
        have hb4 : Below w.heap.size w w4 := hb3'.trans (hb34.mono hb3'.size)
        have hb24 : Below w2.heap.size w2 w4 := hb3.trans (hb34.mono hb3.size)
        refine (hSp false w4 hb24).mono ?_
        rintro e w5 ⟨rfl, hb45⟩
        have hb5 : Below w.heap.size w w5 := hb4.trans (hb45.mono hb4.size)
        have hbx5 := hbx.below hb45 hbx.1
        go_wp2_with fail
        refine (hPf w5 hb5).mono ?_
        rintro e w6 ⟨⟨v2, rfl, hp2⟩, hb56⟩
        obtain ⟨ta, tn, tc, ha, hn, hc, hv2⟩ := hp2.cells
        subst hv2
        have hb6 : Below w.heap.size w w6 := hb5.trans (hb56.mono hb5.size)
        have hbx6 := hbx5.below hb56 hbx5.1
        have hs36 : Since (From w.heap.size) w3 w6 := ((Since.of_below hb34).trans (Since.of_below hb45)).trans (Since.of_below hb56)
        have hPa : IsPr (From w.heap.size) w6 x (.agg #[.int .i64 x.version, .slice sa sn sc, .slice fa fn fc]) := hpA.out.since hs36
        have hPb : IsPr (From w.heap.size) w6 y (.agg #[.int .i64 y.version, .slice ta tn tc, .slice ha hn hc]) := hp2.base (from_mono hb5.size)
        have hcall : ∀ w7, Below w6.heap.size w6 w7 → Calls Tryz.prog 11 #[.agg #[.int .i64 x.version, .slice sa sn sc, .slice fa fn fc], .agg #[.int .i64 y.version, .slice ta tn tc, .slice ha hn hc], .bool false] w7 fun r w' => r = .returned (.bool true) ∧ Below w7.heap.size w7 w' :=
          fun w7 h7 => same_any x y _ _ false (From w.heap.size) w7 (hPa.since (Since.of_below h7)) (hPb.since (Since.of_below h7)) hxy.out
        have hpA6 : Aside (IsPr (From w.heap.size) w6 x (.agg #[.int .i64 x.version, .slice sa sn sc, .slice fa fn fc])) := hPa
        have hb26 : Below w2.heap.size w2 w6 := (hb24.trans (hb45.mono hb24.size)).trans (hb56.mono (by have := hb24.size; have := hb45.size; omega))
        obtain ⟨j0, j1, j2, j3⟩ := hbx6
        have hbx6 : PrBox w6 w3.heap.size x.version sa sn sc fa fn fc := ⟨j0, j1, j2, j3⟩
        clear hPa hPb hp2 hpA hs36 hbx hbx5 hb34 hb45 hb56 hPf hb3 hb24 hb4 hb5 hb3'
        generalize w3.heap.size = g3 at *
        go_wp2_with fail
        have hb67 : Below w6.heap.size w6 (w6.alloc (.cells #[.int .i64 y.version, .slice ta tn tc, .slice ha hn hc] 26)) := (Below.refl _ _).alloc (Nat.le_refl _) _
        refine (hcall _ hb67).mono ?_
        rintro e w8 ⟨rfl, hb78⟩
        have hb68 : Below w6.heap.size w6 w8 := hb67.trans (hb78.mono hb67.size)
        have hb8 : Below w.heap.size w w8 := hb6.trans (hb68.mono hb6.size)
        have hb28 : Below w2.heap.size w2 w8 := hb26.trans (hb68.mono hb26.size)
        have hbx8 := hbx6.below hb68 hbx6.1
        clear hcall j0 j1 j2 j3 hb67 hb78
        go_wp2_with fail
        refine (hSp true w8 hb28).mono ?_
        rintro e w9 ⟨rfl, hb89⟩
        have hb9 : Below w.heap.size w w9 := hb8.trans (hb89.mono hb8.size)
        have hbx9 := hbx8.below hb89 hbx8.1
        have hT := hPt w9 hb9
        clear hPt hSp
        rcases hS2 with ⟨b, er, h2, h32⟩ | ⟨y2, h2, hxy2⟩
        · rw [h2] at hT
          replace hT : Calls Tryz.prog 9 #[.string ⟨(sp (padS len z) (arS true len z) 0 ts).toArray⟩] w9 fun e w' => e = .returned (.tuple #[zeroPr, .int .i64 b, .int .i64 er]) ∧ Below w9.heap.size w9 w' := hT
          clear h2
          go_wp2_with fail
          refine hT.mono ?_
          rintro e w10 ⟨rfl, hb10⟩
          have hb10' : Below w.heap.size w w10 := hb9.trans (hb10.mono hb9.size)
          rcases h32 with rfl | rfl
          all_goals
            go_wp2
            go_ret
            exact ⟨rfl, hb10'.alloc hb10'.size _⟩
        · rw [h2] at hT
          replace hT : Calls Tryz.prog 9 #[.string ⟨(sp (padS len z) (arS true len z) 0 ts).toArray⟩] w9 fun e w' => (∃ v, e = .returned (.tuple #[v, .int .i64 0, .int .i64 0]) ∧ IsPr (From w9.heap.size) w' y2 v) ∧ Below w9.heap.size w9 w' := hT
          replace hxy2 : Aside _ := (show Aside _ from hxy2)
          clear h2
          go_wp2_with fail
          refine hT.mono ?_
          rintro e w10 ⟨⟨v3, rfl, hp3⟩, hb10⟩
          obtain ⟨ua, un, uc, ka, kn, kc, hv3⟩ := hp3.cells
          subst hv3
          have hb10' : Below w.heap.size w w10 := hb9.trans (hb10.mono hb9.size)
          have hbx10 := hbx9.below hb10 hbx9.1
          have hs610 : Since (From w.heap.size) w6 w10 := ((Since.of_below hb68).trans (Since.of_below hb89)).trans (Since.of_below hb10)
          have hPa : IsPr (From w.heap.size) w10 x (.agg #[.int .i64 x.version, .slice sa sn sc, .slice fa fn fc]) := hpA6.out.since hs610
          have hPc : IsPr (From w.heap.size) w10 y2 (.agg #[.int .i64 y2.version, .slice ua un uc, .slice ka kn kc]) := hp3.base (from_mono hb9.size)
          have hcall : ∀ w7, Below w10.heap.size w10 w7 → Calls Tryz.prog 11 #[.agg #[.int .i64 x.version, .slice sa sn sc, .slice fa fn fc], .agg #[.int .i64 y2.version, .slice ua un uc, .slice ka kn kc], .bool false] w7 fun r w' => r = .returned (.bool true) ∧ Below w7.heap.size w7 w' :=
            fun w7 h7 => same_any x y2 _ _ false (From w.heap.size) w7 (hPa.since (Since.of_below h7)) (hPc.since (Since.of_below h7)) hxy2.out
          obtain ⟨j0, j1, j2, j3⟩ := hbx10
          clear hPa hPc hp3 hT hs610 hpA6 hbx8 hbx9 hbx6
          go_wp2_with fail
          have hb11 : Below w10.heap.size w10 (w10.alloc (.cells #[.int .i64 y2.version, .slice ua un uc, .slice ka kn kc] 26)) := (Below.refl _ _).alloc (Nat.le_refl _) _
          refine (hcall _ hb11).mono ?_
          rintro e w12 ⟨rfl, hb12⟩
          go_wp2
          go_ret
          exact ⟨rfl, (hb10'.trans (hb11.mono hb10'.size)).trans (hb12.mono (by have := hb10'.size; have := hb11.size; omega))⟩
      · rw [hx] at hP
        replace hP : Calls Tryz.prog 9 #[.string s] w2 fun e w' => e = .returned (.tuple #[zeroPr, .int .i64 b, .int .i64 er]) ∧ Below w2.heap.size w2 w' := hP
        have hPf : ∀ (w5 : World), Below w.heap.size w w5 → Calls Tryz.prog 9 #[.string ⟨(sp (padS len z) (arS false len z) 0 ts).toArray⟩] w5 fun e w' => e = .returned (.tuple #[zeroPr, .int .i64 c, .int .i64 er]) ∧ Below w5.heap.size w5 w' := by
          intro w5 h5
          have h := hPs false w5 h5
          rw [hy] at h
          exact h
        have hneI : ¬ (er : Int) = 0 := by omega
        clear hx hy hlx hPs
        go_wp2_with fail
        refine hP.mono ?_
        rintro e w3 ⟨rfl, hb3⟩
        have hb3' : Below w.heap.size w w3 := hb2'.trans (hb3.mono hb2'.size)
        go_wp2_with fail
        have hbx : PrBox (w3.alloc (.cells #[.int .i64 0, .slice none 0 0, .slice none 0 0] 26)) w3.heap.size 0 none 0 0 none 0 0 := PrBox.new w3 0 none 0 0 none 0 0
        have hb34 : Below w3.heap.size w3 (w3.alloc (.cells #[.int .i64 0, .slice none 0 0, .slice none 0 0] 26)) := (Below.refl _ _).alloc (Nat.le_refl _) _
        generalize w3.alloc (.cells #[.int .i64 0, .slice none 0 0, .slice none 0 0] 26) = w4 at *
        have hb4 : Below w.heap.size w w4 := hb3'.trans (hb34.mono hb3'.size)
        have hb24 : Below w2.heap.size w2 w4 := hb3.trans (hb34.mono hb3.size)
        refine (hSp false w4 hb24).mono ?_
        rintro e w5 ⟨rfl, hb45⟩
        have hb5 : Below w.heap.size w w5 := hb4.trans (hb45.mono hb4.size)
        have hbx5 := hbx.below hb45 hbx.1
        go_wp2_with fail
        refine (hPf w5 hb5).mono ?_
        rintro e w6 ⟨rfl, hb56⟩
        have hb6 : Below w.heap.size w w6 := hb5.trans (hb56.mono hb5.size)
        obtain ⟨j0, j1, j2, j3⟩ := hbx5.below hb56 hbx5.1
        replace j1 : w6.cell? ⟨w3.heap.size, 0, none⟩ = some (.int .i64 0) := j1
        have hcall : ∀ w7, Calls Tryz.prog 11 #[zeroPr, zeroPr, .bool false] w7 fun r w' => r = .returned (.bool true) ∧ Below w7.heap.size w7 w' :=
          fun w7 => same_any ⟨0, [], []⟩ ⟨0, [], []⟩ _ _ false (From 0) w7 (zero_pr _ _) (zero_pr _ _) rfl
        clear hbx hbx5 hb34 hb45 hb56 hPf hb3 hb24 hb4 hb5 hb3' hSp
        generalize w3.heap.size = g3 at *
        go_wp2_with fail
        refine (hcall _).mono ?_
        rintro e w8 ⟨rfl, hb78⟩
        have hb7 : Below w.heap.size w (w6.alloc (.cells #[.int .i64 0, .slice none 0 0, .slice none 0 0] 26)) := hb6.alloc hb6.size _
        go_wp2
        go_ret
        exact ⟨rfl, hb7.trans (hb78.mono hb7.size)⟩
  · rw [hlx] at hL
    replace hL : Calls Tryz.prog 14 #[.string s] w1 fun e w' => e = .returned (.tuple #[.slice none 0 0, .int .i64 aa, .int .i64 er]) ∧ Below w1.heap.size w1 w' := hL
    have her : ¬ (er : Int) = 0 := by have := lex_err hlx; omega
    clear hlx
    go_wp2_with fail
    refine hL.mono ?_
    rintro e w2 ⟨rfl, hb2⟩
    go_wp2
    go_ret
    exact ⟨rfl, hb1.trans (hb2.mono hb1.size)⟩
end Go.Proofs.YtnmdnjdibdmodaaGreatDoor
