/- The statements' own function that puts brackets around a number. -/
import Derived.Test.YtnmdnjdibdmodaaGreatDoorRound
import Derived.Test.YtnmdnjdibdmodaaGreatDoorSame
import Derived.Test.YtnmdnjdibdmodaaGreatDoorWakes
namespace Go.Proofs.YtnmdnjdibdmodaaGreatDoor
open Go.RowKit
set_option linter.unusedSimpArgs false
set_option linter.unusedVariables false

theorem num_fits (dot : Bool) (l : List UInt8) : ∀ (N i c : Nat) (ts : List Lx.Tok), l.length - i < N → i ≤ l.length → Lx.lexGo dot (l.drop i) i c = .inl ts → ∀ t ∈ ts, t.kind = 2 → t.place + t.text.length ≤ l.length := by
  intro N
  induction N with
  | zero => intro i c ts hN; omega
  | succ N ih =>
    intro i c ts hN hi h
    obtain ⟨u, rest, rfl, hpl, hc, hcase⟩ := first_tok h
    have hkl := Lx.skip_le false (l.drop i)
    simp only [List.length_drop] at hkl
    rcases hcase with ⟨hd, rfl, rfl⟩ | ⟨x, r, k, t, m, n, hd, ht, rfl, hrest⟩
    · intro t ht h2
      simp at ht
      subst ht
      simp at h2
    · have hkn := tok_kinds ht
      have hlen := congrArg List.length hd
      simp at hlen
      rw [List.drop_drop, ← Nat.add_assoc] at hrest
      intro t2 ht2 h2
      simp only [List.mem_cons] at ht2
      rcases ht2 with rfl | ht2
      · rcases tok_text ht with h3 | h3
        · exact absurd h3.1 (by simp at h2; omega)
        · simp only [h3.2, List.length_take, List.length_cons]; omega
      · exact ih (i + Lx.skipF false (l.drop i) + n) (c + 1) rest (by omega) (by omega) hrest t2 ht2 h2
theorem lex_num_fits {dot : Bool} {l : List UInt8} {ts : List Lx.Tok} (h : Lx.lex dot l = .inl ts) : ∀ (q : Nat) (t : Lx.Tok), ts[q]? = some t → t.kind = 2 → t.place + t.text.length ≤ l.length := by
  intro q t hq h2
  have hle := (lex_nonempty h).2
  unfold Lx.lex at h
  rw [if_neg (by omega)] at h
  exact num_fits dot l (l.length + 1) 0 0 ts (by omega) (by omega) (by simpa using h) t (List.mem_of_getElem? hq) h2
theorem cat_list (a b : ByteArray) : (a ++ b).data.toList = a.data.toList ++ b.data.toList := by
  rw [ByteArray.data_append]; simp
theorem around_bytes (s : ByteArray) (q : Nat) (t : List UInt8) : (s.extract 0 q ++ ⟨#[40]⟩ ++ ⟨t.toArray⟩ ++ ⟨#[41]⟩ ++ s.extract (q + t.length) s.size : ByteArray) = ⟨(putAround s.data.toList q t 0).toArray⟩ := by
  apply bytes_same
  have e : s.data.toList.take s.size = s.data.toList := List.take_of_length_le (by simp)
  rw [cat_list, cat_list, cat_list, cat_list, ext_list, ext_list, e]
  simp [putAround]

/-- What the function answers: nothing; or the text with brackets around one of its numbers, not the version's. -/
def BrPost (s : ByteArray) (w : World) (e : Ending) (w' : World) : Prop :=
  Below w.heap.size w w' ∧ (e = .returned (.tuple #[.string ⟨#[]⟩, .bool false]) ∨ ∃ ts q t, Lx.lex dotC s.data.toList = .inl ts ∧ 2 ≤ q ∧ ts[q]? = some t ∧ t.kind = 2 ∧ e = .returned (.tuple #[.string ⟨(putAround s.data.toList t.place t.text 0).toArray⟩, .bool true]))

set_option maxRecDepth 100000 in
set_option maxHeartbeats 4000000 in
theorem brackets_any (s : ByteArray) (i : Int) (w : World) (henv : Env w) (hm : s.size ≤ maxLen) (hi0 : -9223372036854775808 ≤ i) (hi1 : i ≤ 9223372036854775807) :
    Calls Tryz.prog 16 #[.string s, .int .i64 i] w fun e w' => BrPost s w e w' := by
  have hl := len_list s
  have hL := lex_any s w henv hm
  go_enter Tryz.func16, Tryz.ntmps16
  rcases hlr : Lx.lex dotC s.data.toList with ts | ⟨aa, er⟩
  · rw [hlr] at hL
    replace hL : Calls Tryz.prog 14 #[.string s] w fun e w' => (∃ v, e = .returned (.tuple #[v, .int .i64 0, .int .i64 0]) ∧ w'.ownsRow w.heap.size 39 4 v ts.length (rowOf ts)) ∧ Below w.heap.size w w' := hL
    obtain ⟨hpos, hshort⟩ := lex_nonempty hlr
    have hfew := lex_few hlr
    have hfit : Aside (∀ (q : Nat) (t : Lx.Tok), ts[q]? = some t → t.kind = 2 → t.place + t.text.length ≤ s.size) := by
      show ∀ (q : Nat) (t : Lx.Tok), _
      intro q t h1 h2
      have := lex_num_fits hlr q t h1 h2
      omega
    have hs16 : s.size ≤ 16384 := by omega
    replace hlr : Aside _ := (show Aside _ from hlr)
    clear hshort hl
    go_wp2_with fail
    refine hL.mono ?_
    rintro e w2 ⟨⟨v, rfl, hown⟩, hb2⟩
    obtain ⟨ga, ca, rfl, hga, hgal, hcap, hrow⟩ := owns_toks hown hpos
    clear hL hown
    by_cases hneg : i < 0
    · clear hrow hfit
      go_wp2
      exact bodyPost_ret (v := .tuple #[.string ⟨#[]⟩, .bool false]) (by simp [results, Tryz.results16, go_sem]) rfl ⟨hb2, Or.inl rfl⟩
    · go_wp2_with fail
      go_loopg [1, 26] ts.length (fun g a ix wr => ∃ (q : Nat) (j : Int), q ≤ ts.length ∧ g = ts.length - q ∧ 0 ≤ j ∧ j ≤ 9223372036854775807 ∧ a = .int .i64 j ∧ ix = .int .i64 q ∧ Below w2.heap.size w2 wr)
      case atStart => exact ⟨0, i, Nat.zero_le _, rfl, by omega, hi1, rfl, rfl, Below.refl _ _⟩
      case round =>
        obtain ⟨q, j, hq, rfl, hj0, hj1, rfl, rfl, hB⟩ := hrel
        have hBw : Below w.heap.size w wr := hb2.trans (hB.mono hb2.size)
        by_cases hlt : q < ts.length
        · obtain ⟨t, ht⟩ : ∃ t, ts[q]? = some t := ⟨ts[q], List.getElem?_eq_getElem hlt⟩
          obtain ⟨x0, x1, x2, x3⟩ := (hrow.below hB hgal) q t ht
          have hltI : (q : Int) < (ts.length : Int) := by omega
          have hgl : ga < wr.heap.size := by have := hB.size; omega
          clear hrow
          by_cases hk : t.kind = 2
          · have hfx := hfit.out q t ht hk
            rw [hk] at x0
            have hkk : Aside (t.kind = 2) := hk
            replace ht : Aside _ := (show Aside _ from ht)
            clear hk hfit
            by_cases hq2 : q < 2
            · have hqI : (q : Int) < 2 := by omega
              clear hfx
              go_wp2_with fail
              go_roundg (ts.length - (q + 1))
              case measure => omega
              case rel => exact ⟨q + 1, j, by omega, rfl, hj0, hj1, rfl, by go_num, hB.alloc hB.size _⟩
            · have hqI : ¬ (q : Int) < 2 := by omega
              by_cases hj : j = 0
              · subst hj
                have htl : (⟨t.text.toArray⟩ : ByteArray).size = t.text.length := by show t.text.toArray.size = _; simp
                have hres : Aside (_ = _) := around_bytes s t.place t.text
                have c1 : t.place ≤ s.size := by omega
                have c2 : (t.place : Int) + (t.text.length : Int) ≤ (s.size : Int) := by omega
                go_wp2_with fail
                go_quiet (fail)
                go_wp2
                exact bodyPost_ret (v := .tuple #[.string (s.extract 0 t.place ++ ⟨#[40]⟩ ++ ⟨t.text.toArray⟩ ++ ⟨#[41]⟩ ++ s.extract (t.place + t.text.length) s.size), .bool true]) (by simp [results, Tryz.results16, go_sem]) rfl ⟨below_drewN (hBw.alloc hBw.size _) _, Or.inr ⟨ts, q, t, hlr.out, by omega, ht.out, hkk.out, by rw [hres.out]⟩⟩
              · have hjI : ¬ j = 0 := hj
                clear hfx
                go_wp2_with fail
                go_roundg (ts.length - (q + 1))
                case measure => omega
                case rel => exact ⟨q + 1, j - 1, by omega, rfl, by omega, by omega, by go_num, by go_num, hB.alloc hB.size _⟩
          · have hkI : ((t.kind : Int) != 2) = true := by simp; omega
            clear hk hfit
            go_wp2_with fail
            go_roundg (ts.length - (q + 1))
            case measure => omega
            case rel => exact ⟨q + 1, j, by omega, rfl, hj0, hj1, rfl, by go_num, hB.alloc hB.size _⟩
        · have hltI : ¬ (q : Int) < (ts.length : Int) := by omega
          clear hrow hfit
          go_wp2
          exact bodyPost_ret (v := .tuple #[.string ⟨#[]⟩, .bool false]) (by simp [results, Tryz.results16, go_sem]) rfl ⟨hBw, Or.inl rfl⟩
  · rw [hlr] at hL
    replace hL : Calls Tryz.prog 14 #[.string s] w fun e w' => e = .returned (.tuple #[.slice none 0 0, .int .i64 aa, .int .i64 er]) ∧ Below w.heap.size w w' := hL
    have her : ¬ (er : Int) = 0 := by have := lex_err hlr; omega
    replace hlr : Aside _ := (show Aside _ from hlr)
    go_wp2_with fail
    refine hL.mono ?_
    rintro e w2 ⟨rfl, hb2⟩
    go_wp2
    exact bodyPost_ret (v := .tuple #[.string ⟨#[]⟩, .bool false]) (by simp [results, Tryz.results16, go_sem]) rfl ⟨hb2, Or.inl rfl⟩
end Go.Proofs.YtnmdnjdibdmodaaGreatDoor
