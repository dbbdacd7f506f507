/- The statements on parse, walked over what Parse answers. -/
import Derived.Test.YtnmdnjdibdmodaaGreatDoorSamePr
import Derived.Test.YtnmdnjdibdmodaaGreatDoorRepBase
import Derived.Test.YtnmdnjdibdmodaaGreatDoorSpacedWalk
import Derived.Test.YtnmdnjdibdmodaaGreatDoorParseMath
namespace Go.Proofs.YtnmdnjdibdmodaaGreatDoor
open Go.RowKit
set_option linter.unusedSimpArgs false
set_option linter.unusedVariables false

abbrev zeroPr : Value := .agg #[.int .i64 0, .slice none 0 0, .slice none 0 0]
/-- What Parse answers: a program in new memory; or no program, a place and an error. -/
def ParsePost (res : Px.Pr ⊕ (Nat × Nat)) (w : World) (e : Ending) (w' : World) : Prop :=
  match res with
  | .inl p => (∃ v, e = .returned (.tuple #[v, .int .i64 0, .int .i64 0]) ∧ IsPr (From w.heap.size) w' p v) ∧ Below w.heap.size w w'
  | .inr (a, er) => e = .returned (.tuple #[zeroPr, .int .i64 a, .int .i64 er]) ∧ Below w.heap.size w w'
/-- Parse answers what the document says. -/
def ParseOk : Prop := ∀ (s : ByteArray) (w : World), Env w → s.size ≤ maxLen → Calls Tryz.prog 9 #[.string s] w fun e w' => ParsePost (Px.parse s.data.toList) w e w'

theorem zero_pr (B : Nat → Prop) (w : World) : IsPr B w ⟨0, [], []⟩ zeroPr := ⟨_, _, rfl, ⟨rfl, Or.inl ⟨rfl, rfl⟩⟩, [], ⟨rfl, Or.inl ⟨rfl, rfl⟩⟩, rfl⟩
theorem IsPr.cells {B : Nat → Prop} {w : World} {p : Px.Pr} {v : Value} (h : IsPr B w p v) : ∃ sa sn sc fa fn fc, v = .agg #[.int .i64 p.version, .slice sa sn sc, .slice fa fn fc] := by
  obtain ⟨ss, fs, hv, h1, row, h2, h3⟩ := h
  obtain ⟨sa, sc, rfl⟩ := IsSls.slice h1
  obtain ⟨fa, fc, rfl, _⟩ := h2.slice
  exact ⟨sa, _, sc, fa, _, fc, hv⟩

def wakeText : ByteArray := ⟨#[118, 101, 114, 115, 105, 111, 110, 32, 49, 59, 32, 111, 110, 32, 97, 100, 100, 40, 120, 58, 105, 110, 116, 41, 58, 105, 110, 116, 123, 115, 101, 116, 32, 110, 61, 110, 43, 120, 59, 114, 101, 116, 32, 110, 59, 125]⟩
def wakeProg : Px.Pr := ⟨1, [], [⟨[97, 100, 100], true, [⟨[120], [105, 110, 116], 18⟩], [105, 110, 116], [.mk 2 [110] [.mk 15 9 0 [] [.mk 6 0 0 [110] [] 35, .mk 6 0 0 [120] [] 37] 36] [] [] 29, .mk 6 [] [.mk 6 0 0 [110] [] 43] [] [] 39], 14⟩]⟩
theorem wake_parse : Px.parse wakeText.data.toList = .inl wakeProg := by kernel_rfl
theorem wake_fault : Px.parse (⟨#[118, 101, 114, 115, 105, 111, 110, 59]⟩ : ByteArray).data.toList = .inr (7, 31) := by kernel_rfl

/-- The cells of the program that the statements ask of first. -/
theorem wake_cells {B : Nat → Prop} {w : World} {v : Value} (h : IsPr B w wakeProg v) : ∃ sa sn sc f fo fc b bo bc x xo xc eo ec ao ac co cc pl, v = .agg #[.int .i64 1, .slice sa sn sc, .slice (some ⟨f, fo, none⟩) 1 fc] ∧ f < w.heap.size ∧ b < w.heap.size ∧ x < w.heap.size ∧ 1 ≤ fc ∧ 2 ≤ bc ∧ 1 ≤ xc ∧
    w.cell? ⟨f, fo + 1, none⟩ = some (.bool true) ∧ w.cell? ⟨f, fo + 5, none⟩ = some (.slice (some ⟨b, bo, none⟩) 2 bc) ∧
    (w.cell? ⟨b, bo, none⟩ = some (.int .i64 2) ∧ w.cell? ⟨b, bo + 1, none⟩ = some (.string ⟨#[110]⟩) ∧ w.cell? ⟨b, bo + 2, none⟩ = some (.int .i64 0) ∧ w.cell? ⟨b, bo + 3, none⟩ = some (.bool false) ∧ w.cell? ⟨b, bo + 4, none⟩ = some (.int .i64 0) ∧ w.cell? ⟨b, bo + 5, none⟩ = some (.slice (some ⟨x, xo, none⟩) 1 xc) ∧ w.cell? ⟨b, bo + 6, none⟩ = some (.slice ao 0 ac) ∧ w.cell? ⟨b, bo + 7, none⟩ = some (.slice co 0 cc) ∧ w.cell? ⟨b, bo + 8, none⟩ = some (.int .i64 (pl : Nat))) ∧
    w.cell? ⟨x, xo, none⟩ = some (.int .i64 15) ∧ w.cell? ⟨x, xo + 1, none⟩ = some (.int .i64 9) ∧ eo = (0 : Nat) ∧ ec = (0 : Nat) := by
  obtain ⟨ss, fs, rfl, h1, row, h2, h3⟩ := h
  obtain ⟨sa, sc, rfl⟩ := IsSls.slice h1
  obtain ⟨f, fo, fc, rfl, hfc, _, _, hf, hcf⟩ := h2.cells (by decide)
  obtain ⟨cs, ⟨ps, bs, rfl, _, rowb, hb1, hb2⟩, hget⟩ := h3.get (i := 0) (e := ⟨[97, 100, 100], true, [⟨[120], [105, 110, 116], 18⟩], [105, 110, 116], [.mk 2 [110] [.mk 15 9 0 [] [.mk 6 0 0 [110] [] 35, .mk 6 0 0 [120] [] 37] 36] [] [] 29, .mk 6 [] [.mk 6 0 0 [110] [] 43] [] [] 39], 14⟩) rfl
  obtain ⟨b, bo, bc, rfl, hbc, _, _, hb, hcb⟩ := hb1.cells (by decide)
  obtain ⟨cs2, hst, hget2⟩ := hb2.get (i := 0) (e := .mk 2 [110] [.mk 15 9 0 [] [.mk 6 0 0 [110] [] 35, .mk 6 0 0 [120] [] 37] 36] [] [] 29) rfl
  rw [IsSt] at hst
  obtain ⟨s1, s2, s3, r1, r2, r3, rfl, a1, a2, a3, a4, a5, a6⟩ := hst
  obtain ⟨x, xo, xc, rfl, hxc, _, _, hx, hcx⟩ := a1.cells (by decide)
  obtain ⟨ao, ac, rfl, _⟩ := a3.slice
  obtain ⟨co, cc, rfl, _⟩ := a5.slice
  obtain ⟨cs3, hex, hget3⟩ := a2.get (i := 0) (e := .mk 15 9 0 [] [.mk 6 0 0 [110] [] 35, .mk 6 0 0 [120] [] 37] 36) rfl
  rw [IsEx] at hex
  obtain ⟨sl, row3, rfl, _, _⟩ := hex
  refine ⟨sa, _, sc, f, fo, fc, b, bo, bc, x, xo, xc, 0, 0, ao, ac, co, cc, 29, rfl, hf, hb, hx, hfc, hbc, hxc, hcf 1 _ (by rw [show (1 : Nat) = 0 * 7 + 1 from rfl, hget 1 (by decide)]; rfl), hcf 5 _ (by rw [show (5 : Nat) = 0 * 7 + 5 from rfl, hget 5 (by decide)]; rfl), ⟨?_, ?_, ?_, ?_, ?_, ?_, ?_, ?_, ?_⟩, ?_, ?_, rfl, rfl⟩
  · exact hcb 0 _ (by rw [show (0 : Nat) = 0 * 9 + 0 from rfl, hget2 0 (by decide)]; rfl)
  · exact hcb 1 _ (by rw [show (1 : Nat) = 0 * 9 + 1 from rfl, hget2 1 (by decide)]; rfl)
  · exact hcb 2 _ (by rw [show (2 : Nat) = 0 * 9 + 2 from rfl, hget2 2 (by decide)]; rfl)
  · exact hcb 3 _ (by rw [show (3 : Nat) = 0 * 9 + 3 from rfl, hget2 3 (by decide)]; rfl)
  · exact hcb 4 _ (by rw [show (4 : Nat) = 0 * 9 + 4 from rfl, hget2 4 (by decide)]; rfl)
  · exact hcb 5 _ (by rw [show (5 : Nat) = 0 * 9 + 5 from rfl, hget2 5 (by decide)]; rfl)
  · exact hcb 6 _ (by rw [show (6 : Nat) = 0 * 9 + 6 from rfl, hget2 6 (by decide)]; rfl)
  · exact hcb 7 _ (by rw [show (7 : Nat) = 0 * 9 + 7 from rfl, hget2 7 (by decide)]; rfl)
  · exact hcb 8 _ (by rw [show (8 : Nat) = 0 * 9 + 8 from rfl, hget2 8 (by decide)]; rfl)
  · exact hcx 0 _ (by rw [show (0 : Nat) = 0 * 8 + 0 from rfl, hget3 0 (by decide)]; rfl)
  · exact hcx 1 _ (by rw [show (1 : Nat) = 0 * 8 + 1 from rfl, hget3 1 (by decide)]; rfl)

set_option maxRecDepth 100000 in
set_option maxHeartbeats 4000000 in
theorem wakes7_any (HP : ParseOk) (w : World) (henv : Env w) : Calls Tryz.prog 8 #[] w fun e w' => e = .returned (.bool true) ∧ Below w.heap.size w w' := by
  have h1 := HP wakeText w henv (by decide)
  rw [wake_parse] at h1
  replace h1 : Calls Tryz.prog 9 #[.string ⟨#[118, 101, 114, 115, 105, 111, 110, 32, 49, 59, 32, 111, 110, 32, 97, 100, 100, 40, 120, 58, 105, 110, 116, 41, 58, 105, 110, 116, 123, 115, 101, 116, 32, 110, 61, 110, 43, 120, 59, 114, 101, 116, 32, 110, 59, 125]⟩] w fun e w' => (∃ v, e = .returned (.tuple #[v, .int .i64 0, .int .i64 0]) ∧ IsPr (From w.heap.size) w' wakeProg v) ∧ Below w.heap.size w w' := h1
  have h2 : ∀ w1, Env w1 → Calls Tryz.prog 9 #[.string ⟨#[118, 101, 114, 115, 105, 111, 110, 59]⟩] w1 fun e w' => e = .returned (.tuple #[zeroPr, .int .i64 7, .int .i64 31]) ∧ Below w1.heap.size w1 w' := by
    intro w1 he
    have h := HP ⟨#[118, 101, 114, 115, 105, 111, 110, 59]⟩ w1 he (by decide)
    rw [wake_fault] at h
    exact h
  go_enter Tryz.func8, Tryz.ntmps8
  go_wp2_with fail
  refine h1.mono ?_
  rintro e w1 ⟨⟨v, rfl, hpr⟩, hb1⟩
  obtain ⟨sa, sn, sc, f, fo, fc, b, bo, bc, x, xo, xc, eo, ec, ao, ac, co, cc, pl, rfl, hf, hb, hx, q1, q2, q3, f1, f5, ⟨c0, c1, c2, c3, c4, c5, c6, c7, c8⟩, x0, x1, _, _⟩ := wake_cells hpr
  clear h1 hpr
  go_wp2_with fail
  have hba : Below w.heap.size w (w1.alloc (.cells #[.int .i64 1, .slice sa sn sc, .slice (some ⟨f, fo, none⟩) 1 fc] 26)) := hb1.alloc hb1.size _
  refine (h2 _ (henv.below hba henv.lt)).mono ?_
  rintro e w2 ⟨rfl, hb2⟩
  have hl1 : w1.heap.size < (w1.alloc (.cells #[.int .i64 1, .slice sa sn sc, .slice (some ⟨f, fo, none⟩) 1 fc] 26)).heap.size := by simp
  have hcell : ∀ (g o : Nat) (u : Value), g < w1.heap.size → w1.cell? ⟨g, o, none⟩ = some u → w2.cell? ⟨g, o, none⟩ = some u := by
    intro g o u hg hu
    rw [hb2.cell (p := ⟨g, o, none⟩) (by show g < _; omega), ((Below.refl w1.heap.size w1).alloc (Nat.le_refl _) _).cell (p := ⟨g, o, none⟩) hg]
    exact hu
  have p0 : w2.cell? ⟨w1.heap.size, 0, none⟩ = some (.int .i64 1) := by rw [hb2.cell (p := ⟨w1.heap.size, 0, none⟩) hl1]; simp
  have p2 : w2.cell? ⟨w1.heap.size, 2, none⟩ = some (.slice (some ⟨f, fo, none⟩) 1 fc) := by rw [hb2.cell (p := ⟨w1.heap.size, 2, none⟩) hl1]; simp
  have k1 := hcell _ _ _ hf f1
  have k5 := hcell _ _ _ hf f5
  have d0 := hcell _ _ _ hb c0
  have d1 := hcell _ _ _ hb c1
  have d2 := hcell _ _ _ hb c2
  have d3 := hcell _ _ _ hb c3
  have d4 := hcell _ _ _ hb c4
  have d5 := hcell _ _ _ hb c5
  have d6 := hcell _ _ _ hb c6
  have d7 := hcell _ _ _ hb c7
  have d8 := hcell _ _ _ hb c8
  have y0 := hcell _ _ _ hx x0
  have y1 := hcell _ _ _ hx x1
  have hs2 := hb2.size
  have j1 : w1.heap.size < w2.heap.size := by omega
  have j2 : f < w2.heap.size := by omega
  have j3 : b < w2.heap.size := by omega
  have j4 : x < w2.heap.size := by omega
  have hbw : Below w.heap.size w w2 := hba.trans (hb2.mono hba.size)
  clear hcell f1 f5 c0 c1 c2 c3 c4 c5 c6 c7 c8 x0 x1 h2 hl1 hb2 hs2 hf hb hx hba
  generalize w1.heap.size = g1 at *
  go_wp2
  go_ret
  exact ⟨rfl, (hbw.alloc hbw.size _).alloc (by have := hbw.size; simp; omega) _⟩
theorem first_place {ts : List Lx.Tok} {a : Nat} (h : ∃ t ∈ ts, t.place = a) : ¬ ∀ (q : Nat) (t : Lx.Tok), ts[q]? = some t → t.place ≠ a := by
  obtain ⟨t, ht, hp⟩ := h
  obtain ⟨q, hq⟩ := List.getElem?_of_mem ht
  exact fun hh => hh q t hq hp

set_option maxRecDepth 100000 in
set_option maxHeartbeats 4000000 in
theorem faults_walk (HP : ParseOk) (s : ByteArray) (w : World) (henv : Env w) (hm : s.size ≤ maxLen) :
    Calls Tryz.prog 6 #[.string s] w fun e w' => e = .returned (.bool true) ∧ Below w.heap.size w w' := by
  have hw := wakes7_any HP w henv
  have hl := len_list s
  go_enter Tryz.func6, Tryz.ntmps6
  go_wp2_with fail
  refine hw.mono ?_
  rintro e w1 ⟨rfl, hb1⟩
  have he1 := henv.below hb1 henv.lt
  clear hw
  have hL := HP s w1 he1 hm
  have hdot : dotC = true := rfl
  rcases hpr : Px.parse s.data.toList with p | ⟨a, er⟩
  · rw [hpr] at hL
    replace hL : Calls Tryz.prog 9 #[.string s] w1 fun e w' => (∃ v, e = .returned (.tuple #[v, .int .i64 0, .int .i64 0]) ∧ IsPr (From w1.heap.size) w' p v) ∧ Below w1.heap.size w1 w' := hL
    have hpos : 0 < s.size := by have := (parse_ok_cases hpr).1; omega
    have hposI : 0 < (s.size : Int) := by omega
    clear hpr
    go_wp2_with fail
    refine hL.mono ?_
    rintro e w2 ⟨⟨v, rfl, hp⟩, hb2⟩
    obtain ⟨sa, sn, sc, fa, fn, fc, rfl⟩ := hp.cells
    clear hp hL
    go_wp2
    go_ret
    exact ⟨rfl, (hb1.trans (hb2.mono hb1.size)).alloc (by have := hb1.size; have := hb2.size; omega) _⟩
  · rw [hpr] at hL
    replace hL : Calls Tryz.prog 9 #[.string s] w1 fun e w' => e = .returned (.tuple #[zeroPr, .int .i64 a, .int .i64 er]) ∧ Below w1.heap.size w1 w' := hL
    have hcases : Aside _ := (show Aside _ from parse_bad_cases hpr)
    have hoff : a ≤ s.size := by
      rcases hcases.out with h | ⟨ts, _, _, _, h⟩
      · omega
      · omega
    have her : ¬ (er : Int) = 0 := by
      rcases hcases.out with h | ⟨ts, _, _, h, _⟩
      · omega
      · omega
    have hoffI : (a : Int) ≤ (s.size : Int) := by omega
    clear hpr hl
    go_wp2_with fail
    refine hL.mono ?_
    rintro e w2 ⟨rfl, hb2⟩
    have hb2' : Below w.heap.size w w2 := hb1.trans (hb2.mono hb1.size)
    clear hL
    go_wp2_with fail
    have hb3 : Below w.heap.size w (w2.alloc (.cells #[.int .i64 0, .slice none 0 0, .slice none 0 0] 26)) := hb2'.alloc hb2'.size _
    generalize w2.alloc (.cells #[.int .i64 0, .slice none 0 0, .slice none 0 0] 26) = w3 at *
    have hX := lex_any s w3 (henv.below hb3 henv.lt) hm
    rw [hdot] at hX
    clear hb1 hb2 hb2' he1 hdot
    rcases hcases.out with ⟨hlx, _, _⟩ | ⟨ts, hlx, hpl, h31, _⟩
    · rw [hlx] at hX
      replace hX : Calls Tryz.prog 14 #[.string s] w3 fun e w' => e = .returned (.tuple #[.slice none 0 0, .int .i64 a, .int .i64 er]) ∧ Below w3.heap.size w3 w' := hX
      clear hlx hcases
      refine hX.mono ?_
      rintro e w4 ⟨rfl, hb4⟩
      go_wp2
      go_ret
      exact ⟨rfl, hb3.trans (hb4.mono hb3.size)⟩
    · rw [hlx] at hX
      replace hX : Calls Tryz.prog 14 #[.string s] w3 fun e w' => (∃ v, e = .returned (.tuple #[v, .int .i64 0, .int .i64 0]) ∧ w'.ownsRow w3.heap.size 39 4 v ts.length (rowOf ts)) ∧ Below w3.heap.size w3 w' := hX
      obtain ⟨hpos, _⟩ := lex_nonempty hlx
      have hfew := lex_few hlx
      have hfp : Aside _ := (show Aside _ from first_place hpl)
      clear hlx hcases hpl
      refine hX.mono ?_
      rintro e w4 ⟨⟨v, rfl, hown⟩, hb4⟩
      obtain ⟨ga, ca, rfl, hga, hgal, hcap, hrow⟩ := owns_toks hown hpos
      have hb4' : Below w.heap.size w w4 := hb3.trans (hb4.mono hb3.size)
      clear hX hown hb3 hb4
      go_wp2_with fail
      go_loopg [71] ts.length (fun g ix wr => ∃ q : Nat, q ≤ ts.length ∧ g = ts.length - q ∧ ix = .int .i64 q ∧ Below w4.heap.size w4 wr ∧ Aside (∀ (j : Nat) (t : Lx.Tok), j < q → ts[j]? = some t → t.place ≠ a))
      case atStart => exact ⟨0, Nat.zero_le _, rfl, rfl, Below.refl _ _, fun j t hj => by omega⟩
      case round =>
        obtain ⟨q, hq, rfl, rfl, hB, hno⟩ := hrel
        have hBw : Below w.heap.size w wr := hb4'.trans (hB.mono hb4'.size)
        by_cases hlt : q < ts.length
        · obtain ⟨t, ht⟩ : ∃ t, ts[q]? = some t := ⟨ts[q], List.getElem?_eq_getElem hlt⟩
          obtain ⟨x0, x1, x2, x3⟩ := (hrow.below hB hgal) q t ht
          have hltI : (q : Int) < (ts.length : Int) := by omega
          have hgl : ga < wr.heap.size := by have := hB.size; omega
          clear hrow
          by_cases hta : t.place = a
          · rw [hta] at x3
            clear hno hfp hta ht
            rcases h31 with rfl | rfl
            · go_wp2
              go_ret
              exact ⟨rfl, hBw.alloc hBw.size _⟩
            · go_wp2
              go_ret
              exact ⟨rfl, hBw.alloc hBw.size _⟩
          · have htaI : ((t.place : Int) == (a : Int)) = false := by simp; omega
            have hno2 : Aside (∀ (j : Nat) (u : Lx.Tok), j < q + 1 → ts[j]? = some u → u.place ≠ a) := by
              intro j u hj hu
              by_cases hjq : j < q
              · exact hno.out j u hjq hu
              · have : j = q := by omega
                subst this
                rw [ht] at hu; simp at hu; subst hu; exact hta
            clear hno ht hta h31
            go_wp2_with fail
            go_roundg (ts.length - (q + 1))
            case measure => omega
            case rel => exact ⟨q + 1, by omega, rfl, by go_num, hB.alloc hB.size _, hno2⟩
        · exfalso
          refine hfp.out (fun j t hj => ?_)
          have := (List.getElem?_eq_some_iff.1 hj).1
          exact hno.out j t (by omega) hj
end Go.Proofs.YtnmdnjdibdmodaaGreatDoor
