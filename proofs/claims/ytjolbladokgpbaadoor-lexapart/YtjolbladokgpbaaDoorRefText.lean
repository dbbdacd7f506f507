/- The document's texts between quotes. -/
import Derived.Test.YtjolbladokgpbaaDoorRefNum
import Derived.Test.YtjolbladokgpbaaDoorQuote
namespace Go.Proofs.YtjolbladokgpbaaDoor
open Go.RowKit
set_option linter.unusedSimpArgs false
set_option linter.unusedVariables false

theorem Slot.upto {r B : Nat} {w w' : World} (h : Slot r w) (m : Below B w w') (hB : r < B) : Slot r w' := h.below m hB
theorem below_set4 {B : Nat} {w w' : World} (m : Below B w w') {r : Nat} (hp : B ≤ r) (x0 x1 x2 x3 : Value) :
    Below B w ((((w'.setCell ⟨r, 0, none⟩ x0).setCell ⟨r, 1, none⟩ x1).setCell ⟨r, 2, none⟩ x2).setCell ⟨r, 3, none⟩ x3) :=
  (((m.setCell (p := ⟨r, 0, none⟩) hp x0).setCell (p := ⟨r, 1, none⟩) hp x1).setCell (p := ⟨r, 2, none⟩) hp x2).setCell (p := ⟨r, 3, none⟩) hp x3
def TRow (B : Nat) (v : Value) (l : List UInt8) (w : World) : Prop := w.ownsRow B 5 1 v l.length (Lib.byteCells l)
theorem text_of {w : World} {B : Nat} {v : Value} {l : List UInt8} (h : TRow B v l w) : ∃ ao cap, v = .slice ao l.length cap ∧ (convert 32 9 (.slice ao l.length cap)).run Tryd.prog w = .ok (.string ⟨l.toArray⟩) w := by
  rcases h.2 with ⟨hv, h0⟩ | ⟨g, cap, cur, hv, hg, hh, _, _, _, ht⟩
  · obtain rfl : l = [] := List.eq_nil_of_length_eq_zero h0
    refine ⟨none, 0, hv, ?_⟩
    rw [run_convert_bytes_string w 32 9 5 none _ 0 Tryd.underlying32 Tryd.underlying5 Tryd.underlying9]
    rfl
  · refine ⟨some ⟨g, 0, none⟩, cap, hv, ?_⟩
    refine run_convert_bytes_back (P := Tryd.prog) w 32 9 5 ⟨g, 0, none⟩ cap l Tryd.underlying32 Tryd.underlying5 Tryd.underlying9 ?_
    intro j hj
    have e : (⟨g, 0, none⟩ : Addr).add j = ⟨g, j, none⟩ := by unfold Addr.add; split <;> simp_all
    rw [e, Lib.cell_of_heap hh]
    have hk : (Lib.byteCells l)[j]? = some (.int .u8 (l[j].toNat : Int)) := by simp [Lib.byteCells, List.getElem?_eq_getElem hj]
    rw [← ht, List.getElem?_take] at hk
    split at hk
    · simpa using hk
    · simp at hk

/-- How the reading of a text goes on from place m. -/
theorem text_step {s : ByteArray} {m o : Nat} {acc : List UInt8} (h : m < s.size) : Lx.quoteR (s.data.toList.drop m) o acc =
    if s[m] = 34 then (if acc.length ≤ 256 then Lx.R.ok 3 acc 0 (o + 1) else Lx.R.bad 0 3)
    else if s[m] = 92 then (if h1 : m + 1 < s.size then (if Lx.isEsc s[m + 1] then Lx.quoteR (s.data.toList.drop (m + 2)) (o + 2) (acc ++ [s[m + 1]]) else Lx.R.bad o 30) else Lx.R.bad o 30)
    else if Lx.isPlain s[m] then Lx.quoteR (s.data.toList.drop (m + 1)) (o + 1) (acc ++ [s[m]]) else Lx.R.bad o 30 := by
  rw [drop_at s m h, quoteR_cons]
  by_cases h1 : m + 1 < s.size
  · rw [dif_pos h1, drop_at s (m + 1) h1]
  · rw [dif_neg h1, List.drop_eq_nil_of_le (by simp; omega)]
theorem text_end {s : ByteArray} {o : Nat} {acc : List UInt8} : Lx.quoteR (s.data.toList.drop s.size) o acc = Lx.R.bad 0 30 := by
  rw [drop_end]; rfl

set_option maxRecDepth 100000 in
set_option maxHeartbeats 8000000 in
theorem rtext_any (s : ByteArray) (i : Nat) (w : World) (hi : i < s.size) (hm : s.size ≤ 16384) :
    Calls Tryd.prog 35 #[.string s, .int .i64 i] w fun e w' => NextPost (Lx.quoteR (s.data.toList.drop (i + 1)) 1 []) i w e w' := by
  obtain ⟨i0, hi0, hz⟩ := Option.map_eq_some_iff.1 (show (Tryd.prog.info? 5).map (fun i => (i.zero, i.size, i.bytes)) = some (some (.int .u8 0), 1, 1) by kernel_rfl)
  simp only [Prod.mk.injEq] at hz
  obtain ⟨hz0, hz1, hz2⟩ := hz
  obtain ⟨res, hres⟩ : ∃ res, Aside (res = Lx.quoteR (s.data.toList.drop (i + 1)) 1 []) := ⟨_, rfl⟩
  rw [← hres.out]
  have hb0 : Below w.heap.size w (w.alloc slot0) := (Below.refl _ _).alloc (Nat.le_refl _) _
  have hs0 := Slot.new w
  go_enter Tryd.func35, Tryd.ntmps35
  go_wp2_with fail
  go_loopg [7, 8] (s.size - (i + 1)) (fun g v a wr => ∃ (m : Nat) (acc : List UInt8), i < m ∧ m ≤ s.size ∧ g = s.size - m ∧ a = .int .i64 m ∧ TRow (w.heap.size + 1) v acc wr ∧ Below w.heap.size w wr ∧ Slot w.heap.size wr ∧ acc.length ≤ m ∧ Aside (res = Lx.quoteR (s.data.toList.drop m) (m - i) acc))
  case atStart => exact ⟨i + 1, [], by omega, by omega, by omega, by go_num, ⟨rfl, Or.inl ⟨rfl, rfl⟩⟩, hb0, hs0, by simp, by show _ = _; rw [hres.out, show i + 1 - i = 1 by omega]⟩
  case round =>
    clear hres hb0 hs0
    obtain ⟨m, acc, him, hms, rfl, rfl, hr, hb, hsl, hal, hres⟩ := hrel
    obtain ⟨x0, x1, x2, x3, d0, d1, d2, d3, f0, f1, f2, f3⟩ := hsl.cells
    obtain ⟨ao, cap, rfl, hconv⟩ := text_of hr
    have hlt0 := hsl.lt
    by_cases hlt : m < s.size
    · have hst := text_step (s := s) (m := m) (o := m - i) (acc := acc) hlt
      rw [← hres.out] at hst
      clear hres
      by_cases h34 : s[m] = 34
      · rw [if_pos h34] at hst
        by_cases h256 : acc.length ≤ 256
        · rw [if_pos h256] at hst
          replace hst : Aside _ := (show Aside _ from hst)
          have hI : ¬ 256 < (acc.length : Int) := by omega
          clear hr
          go_wp2
          exact bodyPost_ret (v := .tuple #[tokV 3 ⟨acc.toArray⟩ 0 i, .int .i64 ((m : Int) + 1), .int .i64 0]) (by simp [results, Tryd.results35, go_sem, d0, d1, d2, d3, tokV]) rfl (NextPost.ok hst.out rfl (by omega) (below_set4 hb (Nat.le_refl _) _ _ _ _))
        · rw [if_neg h256] at hst
          replace hst : Aside _ := (show Aside _ from hst)
          have hI : 256 < (acc.length : Int) := by omega
          clear hr hconv
          go_wp2
          exact bodyPost_ret (v := .tuple #[tokV 0 ⟨#[]⟩ 0 0, .int .i64 (i : Int), .int .i64 3]) (by simp [results, Tryd.results35, go_sem, d0, d1, d2, d3, tokV]) rfl (NextPost.bad hst.out (by omega) (by omega) (below_set4 hb (Nat.le_refl _) _ _ _ _))
      · rw [if_neg h34] at hst
        have h34' : ¬ (s[m].toNat : Int) = 34 := byte_ne (n := 34) (by decide) h34
        clear h34 hconv
        by_cases h92 : s[m] = 92
        · rw [if_pos h92] at hst
          by_cases h1 : m + 1 < s.size
          · rw [dif_pos h1] at hst
            rcases he : Lx.isEsc s[m + 1] with _ | _
            · rw [he] at hst
              simp only [Bool.false_eq_true, if_false] at hst
              replace hst : Aside _ := (show Aside _ from hst)
              obtain ⟨k1, k2⟩ := esc_no he
              have k3 : ((s[m + 1].toNat : Int) != 34) = true := by simp only [bne, k1]; rfl
              have k4 : ((s[m + 1].toNat : Int) != 92) = true := by simp only [bne, k2]; rfl
              have hI : ¬ (s.size : Int) ≤ (m : Int) + 1 := by omega
              clear he hr k1 k2
              go_wp2
              exact bodyPost_ret (v := .tuple #[tokV 0 ⟨#[]⟩ 0 0, .int .i64 (m : Int), .int .i64 30]) (by simp [results, Tryd.results35, go_sem, d0, d1, d2, d3, tokV]) rfl (NextPost.bad hst.out (by omega) (by omega) (below_set4 hb (Nat.le_refl _) _ _ _ _))
            · rw [he] at hst
              simp only [if_true] at hst
              replace hst : Aside _ := (show Aside _ from hst)
              have hor : (((s[m + 1].toNat : Int) != 34) = false ∧ True) ∨ (((s[m + 1].toNat : Int) != 34) = true ∧ ((s[m + 1].toNat : Int) != 92) = false) := by
                rcases esc_yes he with h | h
                · exact Or.inl ⟨by simp only [bne, h]; rfl, trivial⟩
                · exact Or.inr ⟨by have : (s[m + 1].toNat : Int) = 92 := by simpa using h
                                   rw [this]; rfl, by simp only [bne, h]; rfl⟩
              have hI : ¬ (s.size : Int) ≤ (m : Int) + 1 := by omega
              clear he
              unfold TRow at hr
              rcases hor with ⟨k1, k2⟩ | ⟨k1, k2⟩
              all_goals
                go_wp2_with (at_builtin; refine wpList_append_own _ rfl _ _ 32 rfl (w.heap.size + 1) 5 i0 (.int .u8 0) 1 1 Tryd.underlying32 hi0 hz0 hz1 hz2 rfl (by decide) _ _ _ rfl (hr.alloc _) ⟨wr.heap.size, 0, none⟩ 1 1 [.int .u8 s[m + 1].toNat] rfl rfl ?c1 ?c2 ?c3 ?c4 ?c5 ?_)
                case c1 =>
                  intro j u hj
                  match j, hj with
                  | 0, hj => simp at hj; subst hj; simp [Addr.add]
                case c2 => intro u hu; simp at hu; subst hu; rfl
                case c3 => unfold maxLen; omega
                case c4 => omega
                case c5 => simp; omega
                intro v' w2 hr2 hg2 hnil
                clear hnil
                have hB2 : Below (w.heap.size + 1) wr w2 := ((Below.refl (w.heap.size + 1) wr).alloc hlt0 _).grown hg2 (by simp; omega) (fun x hx => (hr.lt x hx).1)
                replace hr2 : TRow (w.heap.size + 1) v' (acc ++ [s[m + 1]]) w2 := by
                  unfold TRow
                  rw [cells_snoc]
                  simpa using hr2
                have hb2 : Below w.heap.size w w2 := hb.trans (hB2.mono (by omega))
                have hsl2 : Slot w.heap.size w2 := hsl.upto hB2 (by omega)
                clear hg2 hB2 hr hb
                go_wp2_with fail
                go_roundg (s.size - (m + 2))
                case measure => omega
                case rel => exact ⟨m + 2, acc ++ [s[m + 1]], by omega, by omega, rfl, by go_num, hr2, hb2, hsl2, by simp; omega, by show _ = _; rw [hst.out, show m + 2 - i = m - i + 2 by omega]⟩
          · rw [dif_neg h1] at hst
            replace hst : Aside _ := (show Aside _ from hst)
            have hI : (s.size : Int) ≤ (m : Int) + 1 := by omega
            clear hr
            go_wp2
            exact bodyPost_ret (v := .tuple #[tokV 0 ⟨#[]⟩ 0 0, .int .i64 (m : Int), .int .i64 30]) (by simp [results, Tryd.results35, go_sem, d0, d1, d2, d3, tokV]) rfl (NextPost.bad hst.out (by omega) (by omega) (below_set4 hb (Nat.le_refl _) _ _ _ _))
        · rw [if_neg h92] at hst
          have h92' : ¬ (s[m].toNat : Int) = 92 := byte_ne (n := 92) (by decide) h92
          clear h92
          rcases hp : Lx.isPlain s[m] with _ | _
          · rw [hp] at hst
            simp only [Bool.false_eq_true, if_false] at hst
            replace hst : Aside _ := (show Aside _ from hst)
            have hq := not_plain.1 hp
            clear hp hr
            by_cases h1 : (s[m].toNat : Int) < 32
            · clear hq
              go_wp2
              exact bodyPost_ret (v := .tuple #[tokV 0 ⟨#[]⟩ 0 0, .int .i64 (m : Int), .int .i64 30]) (by simp [results, Tryd.results35, go_sem, d0, d1, d2, d3, tokV]) rfl (NextPost.bad hst.out (by omega) (by omega) (below_set4 hb (Nat.le_refl _) _ _ _ _))
            · have h2 : 126 < (s[m].toNat : Int) := by omega
              clear hq
              go_wp2
              exact bodyPost_ret (v := .tuple #[tokV 0 ⟨#[]⟩ 0 0, .int .i64 (m : Int), .int .i64 30]) (by simp [results, Tryd.results35, go_sem, d0, d1, d2, d3, tokV]) rfl (NextPost.bad hst.out (by omega) (by omega) (below_set4 hb (Nat.le_refl _) _ _ _ _))
          · rw [hp] at hst
            simp only [if_true] at hst
            replace hst : Aside _ := (show Aside _ from hst)
            have hq := fun a => (Bool.eq_false_iff.1 (not_plain.2 a)) hp
            have h1 : ¬ (s[m].toNat : Int) < 32 := fun a => hq (Or.inl a)
            have h2 : ¬ 126 < (s[m].toNat : Int) := fun a => hq (Or.inr a)
            clear hq hp
            unfold TRow at hr
            go_wp2_with (at_builtin; refine wpList_append_own _ rfl _ _ 32 rfl (w.heap.size + 1) 5 i0 (.int .u8 0) 1 1 Tryd.underlying32 hi0 hz0 hz1 hz2 rfl (by decide) _ _ _ rfl (hr.alloc _) ⟨wr.heap.size, 0, none⟩ 1 1 [.int .u8 s[m].toNat] rfl rfl ?c1 ?c2 ?c3 ?c4 ?c5 ?_)
            case c2 => rfl
            case c3 => unfold maxLen; omega
            case c4 => omega
            case c5 => first | omega | (simp; omega)
            intro v' w2 hr2 hg2 hnil
            clear hnil
            have hB2 : Below (w.heap.size + 1) wr w2 := ((Below.refl (w.heap.size + 1) wr).alloc hlt0 _).grown hg2 (by simp; omega) (fun x hx => (hr.lt x hx).1)
            replace hr2 : TRow (w.heap.size + 1) v' (acc ++ [s[m]]) w2 := by
              unfold TRow
              rw [cells_snoc]
              simpa using hr2
            have hb2 : Below w.heap.size w w2 := hb.trans (hB2.mono (by omega))
            have hsl2 : Slot w.heap.size w2 := hsl.upto hB2 (by omega)
            clear hg2 hB2 hr hb
            go_wp2_with fail
            go_roundg (s.size - (m + 1))
            case measure => omega
            case rel => exact ⟨m + 1, acc ++ [s[m]], by omega, by omega, rfl, by go_num, hr2, hb2, hsl2, by simp; omega, by show _ = _; rw [hst.out, show m + 1 - i = m - i + 1 by omega]⟩
    · have e : m = s.size := by omega
      have hst : Aside (res = Lx.R.bad 0 30) := by show _ = _; rw [hres.out, e, text_end]
      clear hres hr hconv
      go_wp2
      exact bodyPost_ret (v := .tuple #[tokV 0 ⟨#[]⟩ 0 0, .int .i64 (i : Int), .int .i64 30]) (by simp [results, Tryd.results35, go_sem, d0, d1, d2, d3, tokV]) rfl (NextPost.bad hst.out (by omega) (by omega) (below_set4 hb (Nat.le_refl _) _ _ _ _))
end Go.Proofs.YtjolbladokgpbaaDoor
