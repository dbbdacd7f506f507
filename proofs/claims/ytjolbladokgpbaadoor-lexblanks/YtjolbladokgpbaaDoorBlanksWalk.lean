/- The statement on blanks and notes, walked. -/
import Derived.Test.YtjolbladokgpbaaDoorBlanks
import Derived.Test.YtjolbladokgpbaaDoorCutsWalk
namespace Go.Proofs.YtjolbladokgpbaaDoor
open Go.RowKit
set_option linter.unusedSimpArgs false
set_option linter.unusedVariables false

def padK : Nat → List UInt8
  | 0 => [32]
  | 1 => [10, 9]
  | 2 => [35, 120, 32, 34, 10]
  | _ => [32, 35, 32, 49, 10, 35, 10]
theorem padK_pad (k : Nat) : Pad (padK k) := by
  match k with
  | 0 => exact ⟨fun Y => by simp [padK, Lx.skipF, Lx.isBlank], fun b => by cases b <;> rfl, fun c h => by simp [padK] at h; subst h; exact Or.inl rfl⟩
  | 1 => exact ⟨fun Y => by simp [padK, Lx.skipF, Lx.isBlank]; omega, fun b => by cases b <;> rfl, fun c h => by simp [padK] at h; subst h; exact Or.inl rfl⟩
  | 2 => exact ⟨fun Y => by simp [padK, Lx.skipF, Lx.isBlank]; omega, fun b => by cases b <;> rfl, fun c h => by simp [padK] at h; subst h; exact Or.inr rfl⟩
  | k + 3 => exact ⟨fun Y => by simp [padK, Lx.skipF, Lx.isBlank]; omega, fun b => by cases b <;> rfl, fun c h => by simp [padK] at h; subst h; exact Or.inl rfl⟩
def padsOf (len : Nat) (z : Nat → Nat) (j : Nat) : List UInt8 := if j < len then padK (z j % 4) else []
theorem padsOf_pad (len : Nat) (z : Nat → Nat) (j : Nat) : Pad (padsOf len z j) := by
  unfold padsOf; split
  · exact padK_pad _
  · exact pad_nil
theorem padK_len (k : Nat) : (padK k).length ≤ 7 := by
  match k with
  | 0 => decide
  | 1 => decide
  | 2 => decide
  | k + 3 => exact Nat.le_refl 7
theorem padsOf_len (len : Nat) (z : Nat → Nat) (j : Nat) : (padsOf len z j).length ≤ 7 := by
  unfold padsOf; split
  · exact padK_len _
  · simp

theorem places (dot : Bool) (l : List UInt8) : ∀ (N i c : Nat) (ts : List Lx.Tok), l.length - i < N → i ≤ l.length → Lx.lexGo dot (l.drop i) i c = .inl ts →
    ∀ j t, ts[j]? = some t → t.place ≤ chunkEnd l (ts.drop (j + 1)) ∧ chunkEnd l (ts.drop (j + 1)) ≤ l.length := by
  intro N
  induction N with
  | zero => intro i c ts hN; omega
  | succ N ih =>
    intro i c ts hN hi h j t ht
    obtain ⟨u, rest, rfl, hpl, hc, hcase⟩ := first_tok h
    have hkl := Lx.skip_le false (l.drop i)
    simp only [List.length_drop] at hkl
    rcases hcase with ⟨hd, rfl, rfl⟩ | ⟨x, r, k, tx, m, n, hd, htk, rfl, hrest⟩
    · rcases j with _ | j
      · simp at ht; subst ht
        simp [chunkEnd]; omega
      · simp at ht
    · have hkn := tok_kinds htk
      have hlen := congrArg List.length hd
      simp at hlen
      rw [List.drop_drop, ← Nat.add_assoc] at hrest
      rcases j with _ | j
      · simp at ht; subst ht
        obtain ⟨u1, rest1, rfl, hpl1, _⟩ := first_tok hrest
        have hk2l := Lx.skip_le false (l.drop (i + Lx.skipF false (l.drop i) + n))
        simp only [List.length_drop] at hk2l
        simp only [List.drop_succ_cons, List.drop_zero, chunkEnd]
        omega
      · simp only [List.getElem?_cons_succ] at ht
        simpa using ih (i + Lx.skipF false (l.drop i) + n) (c + 1) rest (by omega) (by omega) hrest j t ht

/-- A slice of bytes that came in. -/
def Bts (w : World) (a : Option Addr) (len : Nat) (z : Nat → Nat) : Prop := len ≤ maxLen ∧ (len = 0 ∨ ∃ b o, a = some ⟨b, o, none⟩ ∧ b < w.heap.size ∧ ∀ k, k < len → w.cell? ⟨b, o + k, none⟩ = some (.int .u8 (z k : Nat)) ∧ z k < 256)
theorem and3 : ∀ z : Nat, z < 256 → bits .and .u8 (z : Int) 3 = ((z % 4 : Nat) : Int) := by decide +kernel
theorem drop_tok {ts : List Lx.Tok} {j : Nat} {t : Lx.Tok} (h : ts[j]? = some t) : ts.drop j = t :: ts.drop (j + 1) := by
  obtain ⟨hlt, he⟩ := List.getElem?_eq_some_iff.1 h
  rw [List.drop_eq_getElem_cons hlt, he]
theorem lex_blanks {dot : Bool} {l : List UInt8} {ts : List Lx.Tok} {p : Nat → List UInt8} (hp : ∀ j, Pad (p j)) (h : Lx.lex dot l = .inl ts) (hs : (build l p 0 ts).length ≤ 16384) :
    ∃ ts', Lx.lex dot (build l p 0 ts) = .inl ts' ∧ ts'.map kinds = ts.map kinds := by
  have hle := (lex_nonempty h).2
  unfold Lx.lex at h
  rw [if_neg (by omega)] at h
  obtain ⟨ts', h1, h2⟩ := blanks dot l p hp (l.length + 1) 0 0 ts 0 [] 0 (by omega) (by omega) (by simpa using h) (fits_nil _)
  refine ⟨ts', ?_, h2⟩
  unfold Lx.lex
  rw [if_neg (by omega)]
  simpa using h1

abbrev kindsObj : Obj := .cells #[.string ⟨#[32]⟩, .string ⟨#[10, 9]⟩, .string ⟨#[35, 120, 32, 34, 10]⟩, .string ⟨#[32, 35, 32, 49, 10, 35, 10]⟩] 33

theorem cat_data (a b : ByteArray) : (a ++ b).data.toList = a.data.toList ++ b.data.toList := by
  rw [ByteArray.data_append]; simp
theorem cat3 (pre pd : List UInt8) (s : ByteArray) (i j : Nat) : (⟨pre.toArray⟩ ++ ⟨pd.toArray⟩ ++ s.extract i j : ByteArray) = ⟨(pre ++ pd ++ (s.extract i j).data.toList).toArray⟩ :=
  bytes_same (by rw [cat_data, cat_data])
theorem cat2 (pre : List UInt8) (s : ByteArray) (i j : Nat) : (⟨pre.toArray⟩ ++ s.extract i j : ByteArray) = ⟨(pre ++ [] ++ (s.extract i j).data.toList).toArray⟩ :=
  bytes_same (by rw [cat_data]; simp)

set_option maxRecDepth 100000 in
set_option maxHeartbeats 16000000 in
theorem blanks_walk (s : ByteArray) (a : Option Addr) (len cap : Nat) (z : Nat → Nat) (w : World) (henv : Env w) (hm : s.size ≤ maxLen) (hpads : Bts w a len z) :
    Calls Tryd.prog 6 #[.string s, .slice a len cap] w fun e w' => e = .returned (.bool true) ∧ Below w.heap.size w w' := by
  have hw := wakes_any w henv
  have hl := len_list s
  go_enter Tryd.func6, Tryd.ntmps6
  go_wp2_with fail
  refine hw.mono ?_
  rintro e w1 ⟨rfl, hb1⟩
  have he1 := henv.below hb1 henv.lt
  clear hw
  have hL := lex_any s w1 he1 hm
  rcases hlr : Lx.lex dotC s.data.toList with ts | ⟨aa, er⟩
  · rw [hlr] at hL
    replace hL : Calls Tryd.prog 10 #[.string s] w1 fun e w' => (∃ v, e = .returned (.tuple #[v, .int .i64 0, .int .i64 0]) ∧ w'.ownsRow w1.heap.size 31 4 v ts.length (rowOf ts)) ∧ Below w1.heap.size w1 w' := hL
    obtain ⟨hpos, hshort⟩ := lex_nonempty hlr
    have hfew := lex_few hlr
    go_wp2_with fail
    refine hL.mono ?_
    rintro e w2 ⟨⟨v, rfl, hown⟩, hb2⟩
    obtain ⟨ga, ca, rfl, hga, hgal, hcap, hrow⟩ := owns_toks hown hpos
    have hb2' : Below w.heap.size w w2 := hb1.trans (hb2.mono hb1.size)
    clear hL hown
    have hplc : Aside (∀ j t, ts[j]? = some t → t.place ≤ chunkEnd s.data.toList (ts.drop (j + 1)) ∧ chunkEnd s.data.toList (ts.drop (j + 1)) ≤ s.data.toList.length) := by
      have h := hlr
      unfold Lx.lex at h
      rw [if_neg (by omega)] at h
      exact places dotC s.data.toList (s.data.toList.length + 1) 0 0 ts (by omega) (by omega) (by simpa using h)
    replace hlr := (show Aside _ from hlr)
    replace hpads := (show Aside _ from hpads)
    go_wp2_with fail
    go_loopg [9, 32] ts.length (fun g out i wr => ∃ (j : Nat) (pre : List UInt8), j ≤ ts.length ∧ g = ts.length - j ∧ i = .int .i64 j ∧ out = .string ⟨pre.toArray⟩ ∧ Below (w2.alloc kindsObj).heap.size (w2.alloc kindsObj) wr ∧
      Aside (pre ++ build s.data.toList (padsOf len z) j (ts.drop j) = build s.data.toList (padsOf len z) 0 ts ∧ pre.length ≤ 9 * j + chunkEnd s.data.toList (ts.drop j)))
    case atStart => exact ⟨0, [], Nat.zero_le _, rfl, rfl, rfl, Below.refl _ _, by simp, by simp⟩
    case round =>
      obtain ⟨j, pre, hj, rfl, rfl, rfl, hB, hA⟩ := hrel
      have hsz : (w2.alloc kindsObj).heap.size = w2.heap.size + 1 := by simp
      have hBw : Below w.heap.size w wr := (hb2'.alloc hb2'.size _).trans (hB.mono (by rw [hsz]; have := hb2'.size; omega))
      have hrowW : TokRow wr ga ts := (hrow.below ((Below.refl w2.heap.size w2).alloc (Nat.le_refl _) kindsObj) hgal).below hB (by rw [hsz]; omega)
      by_cases hlt : j < ts.length
      · obtain ⟨t, ht⟩ : ∃ t, ts[j]? = some t := ⟨ts[j], List.getElem?_eq_getElem hlt⟩
        obtain ⟨x0, x1, x2, x3⟩ := hrowW j t ht
        have hkc : ∀ q, q < 4 → wr.cell? ⟨w2.heap.size, q, none⟩ = some (.string ⟨(padK q).toArray⟩) := by
          intro q hq
          rw [hB.cell (p := ⟨w2.heap.size, q, none⟩) (by rw [hsz]; show w2.heap.size < _; omega)]
          match q, hq with
          | 0, _ => simp [padK]
          | 1, _ => simp [padK]
          | 2, _ => simp [padK]
          | 3, _ => simp [padK]
        obtain ⟨hp1, hp2⟩ := hplc.out j t ht
        have hlen : pre.length ≤ 9 * j + t.place := by
          have := hA.out.2
          rw [drop_tok ht, chunkEnd] at this
          exact this
        obtain ⟨nx, hnx⟩ : ∃ nx, Aside (nx = chunkEnd s.data.toList (ts.drop (j + 1))) := ⟨_, rfl⟩
        rw [← hnx.out] at hp1 hp2
        rw [hl] at hp2
        have hnxt : Aside ((∃ t', ts[j + 1]? = some t' ∧ t'.place = nx) ∨ (¬ j + 1 < ts.length ∧ nx = s.size)) := by
          show _ ∨ _
          by_cases h1 : j + 1 < ts.length
          · refine Or.inl ⟨ts[j + 1], List.getElem?_eq_getElem h1, ?_⟩
            rw [hnx.out, drop_tok (List.getElem?_eq_getElem h1)]; rfl
          · refine Or.inr ⟨h1, ?_⟩
            rw [hnx.out, List.drop_eq_nil_of_le (by omega), chunkEnd, hl]
        have hstep : Aside (∀ pd, pd = padsOf len z j → (pre ++ pd ++ (s.extract t.place nx).data.toList) ++ build s.data.toList (padsOf len z) (j + 1) (ts.drop (j + 1)) = build s.data.toList (padsOf len z) 0 ts ∧
            (pre ++ pd ++ (s.extract t.place nx).data.toList).length ≤ 9 * (j + 1) + chunkEnd s.data.toList (ts.drop (j + 1))) := by
          rintro pd rfl
          have h1 := hA.out.1
          rw [drop_tok ht, build, ← hnx.out] at h1
          refine ⟨?_, ?_⟩
          · rw [← h1, ext_list]; simp
          · have h2 := padsOf_len len z j
            have h3 : (s.extract t.place nx).data.toList.length = nx - t.place := by rw [len_list, ext_size hp2]
            rw [← hnx.out]
            simp only [List.length_append]
            omega
        have hshort' : s.size ≤ 16384 := by omega
        have hl2 : w2.heap.size < wr.heap.size := by have := hB.size; rw [hsz] at this; omega
        have hl3 : ga < wr.heap.size := by omega
        clear hA hlr hrow hplc hb1 hb2 he1
        by_cases hpd : j < len
        · obtain ⟨bp, op, rfl, hbp, hzz⟩ : ∃ b o, a = some ⟨b, o, none⟩ ∧ b < w.heap.size ∧ ∀ k, k < len → w.cell? ⟨b, o + k, none⟩ = some (.int .u8 (z k : Nat)) ∧ z k < 256 := by
            rcases hpads.out.2 with h0 | h0
            · omega
            · exact h0
          obtain ⟨hz1, hz2⟩ := hzz j hpd
          have hz3 : wr.cell? ⟨bp, op + j, none⟩ = some (.int .u8 (z j : Nat)) := by rw [hBw.cell (p := ⟨bp, op + j, none⟩) hbp]; exact hz1
          have hz4 := and3 (z j) hz2
          have hk4 := hkc (z j % 4) (Nat.mod_lt _ (by decide))
          have hk5 : z j % 4 < 4 := Nat.mod_lt _ (by decide)
          have hl1 : bp < wr.heap.size := by have := hBw.size; omega
          have hpde : Aside (padK (z j % 4) = padsOf len z j) := by show _ = _; unfold padsOf; rw [if_pos hpd]
          clear hkc hzz hz1
          generalize z j % 4 = q4 at *
          have hq7 := padK_len q4
          have c1 : ¬ 9223372036854775807 < pre.length + (padK q4).length := by omega
          have c2 : ¬ 9223372036854775807 < pre.length + (padK q4).length + (nx - t.place) := by omega
          have c4 : ¬ 9223372036854775807 < pre.length + (padK q4).length + (s.size - t.place) := by omega
          rcases hnxt.out with ⟨t', ht', htp⟩ | ⟨hno, hns⟩
          · obtain ⟨y0, y1, y2, y3⟩ := hrowW (j + 1) t' ht'
            rw [htp] at y3
            have hj1 : (j : Int) + 1 < (ts.length : Int) := by have := (List.getElem?_eq_some_iff.1 ht').1; omega
            clear hrowW hnxt ht' htp
            go_wp2_with fail
            go_roundg (ts.length - (j + 1))
            case measure => omega
            case rel => exact ⟨j + 1, pre ++ padK q4 ++ (s.extract t.place nx).data.toList, by omega, rfl, by go_num, by rw [cat3 pre (padK q4) s t.place nx], hB.alloc hB.size _, hstep.out _ hpde.out⟩
          · have hj1 : ¬ (j : Int) + 1 < (ts.length : Int) := by omega
            have hns' : Aside (s.size = nx) := hns.symm
            clear hrowW hnxt hno hns
            have hcc : Aside ((s.extract t.place nx) = s.extract t.place s.size) := by show _ = _; rw [hns'.out]
            have c3 : t.place ≤ s.size := by omega
            go_wp2_with fail
            go_roundg (ts.length - (j + 1))
            case measure => omega
            case rel => exact ⟨j + 1, pre ++ padK q4 ++ (s.extract t.place nx).data.toList, by omega, rfl, by go_num, by rw [← hcc.out, cat3 pre (padK q4) s t.place nx], hB.alloc hB.size _, hstep.out _ hpde.out⟩
        · have hpde : Aside (([] : List UInt8) = padsOf len z j) := by show _ = _; unfold padsOf; rw [if_neg hpd]
          have hpd' : ¬ (j : Int) < (len : Int) := by omega
          have c2 : ¬ 9223372036854775807 < pre.length + (nx - t.place) := by omega
          have c4 : ¬ 9223372036854775807 < pre.length + (s.size - t.place) := by omega
          clear hkc hpads
          rcases hnxt.out with ⟨t', ht', htp⟩ | ⟨hno, hns⟩
          · obtain ⟨y0, y1, y2, y3⟩ := hrowW (j + 1) t' ht'
            rw [htp] at y3
            have hj1 : (j : Int) + 1 < (ts.length : Int) := by have := (List.getElem?_eq_some_iff.1 ht').1; omega
            clear hrowW hnxt ht' htp
            go_wp2_with fail
            go_roundg (ts.length - (j + 1))
            case measure => omega
            case rel => exact ⟨j + 1, pre ++ [] ++ (s.extract t.place nx).data.toList, by omega, rfl, by go_num, by rw [cat2 pre s t.place nx], hB.alloc hB.size _, hstep.out _ hpde.out⟩
          · have hj1 : ¬ (j : Int) + 1 < (ts.length : Int) := by omega
            have hns' : Aside (s.size = nx) := hns.symm
            clear hrowW hnxt hno hns
            have hcc : Aside ((s.extract t.place nx) = s.extract t.place s.size) := by show _ = _; rw [hns'.out]
            have c3 : t.place ≤ s.size := by omega
            go_wp2_with fail
            go_roundg (ts.length - (j + 1))
            case measure => omega
            case rel => exact ⟨j + 1, pre ++ [] ++ (s.extract t.place nx).data.toList, by omega, rfl, by go_num, by rw [← hcc.out, cat2 pre s t.place nx], hB.alloc hB.size _, hstep.out _ hpde.out⟩
      · have hjl : j = ts.length := by omega
        have hpre : Aside (pre = build s.data.toList (padsOf len z) 0 ts) := by
          show _ = _
          have h1 := hA.out.1
          rw [List.drop_eq_nil_of_le (by omega), build, List.append_nil] at h1
          exact h1
        have hplen : pre.length ≤ 9 * ts.length + s.size := by
          have h2 := hA.out.2
          rw [List.drop_eq_nil_of_le (by omega), chunkEnd, hl] at h2
          omega
        have hsize : (⟨pre.toArray⟩ : ByteArray).size = pre.length := by show pre.toArray.size = _; simp
        have hjI : ¬ (j : Int) < (ts.length : Int) := by omega
        clear hA hplc hpads
        by_cases hbig : 16384 < pre.length
        · clear hrowW hrow hlr
          go_wp2
          go_ret
          exact ⟨rfl, hBw⟩
        · obtain ⟨ts', hlr', hkk⟩ := lex_blanks (dot := dotC) (p := padsOf len z) (padsOf_pad len z) hlr.out (by rw [← hpre.out]; omega)
          rw [← hpre.out] at hlr'
          have hlen' : ts'.length = ts.length := by
            have := congrArg List.length hkk
            simpa using this
          have heW := henv.below hBw henv.lt
          have hL2 : Calls Tryd.prog 10 #[.string ⟨pre.toArray⟩] wr fun e w' => (∃ v, e = .returned (.tuple #[v, .int .i64 0, .int .i64 0]) ∧ w'.ownsRow wr.heap.size 31 4 v ts'.length (rowOf ts')) ∧ Below wr.heap.size wr w' := by
            have h := lex_any ⟨pre.toArray⟩ wr heW (by rw [hsize]; unfold maxLen; omega)
            rw [show (⟨pre.toArray⟩ : ByteArray).data.toList = pre by simp, hlr'] at h
            exact h
          have hbig' : ¬ 16384 < (pre.length : Int) := by omega
          have hgalW : ga < wr.heap.size := by have := hB.size; rw [hsz] at this; omega
          clear hlr hlr' hrow hb1 hb2 he1 heW
          go_wp2_with fail
          refine hL2.mono ?_
          rintro e w3 ⟨⟨v3, rfl, hown3⟩, hb3⟩
          obtain ⟨gb, cb, rfl, hgb, hgbl, hcapb, hrowb⟩ := owns_toks hown3 (by omega)
          rw [hlen'] at hcapb ⊢
          have hrow3 := hrowW.below hb3 hgalW
          have hb3' : Below w.heap.size w w3 := hBw.trans (hb3.mono hBw.size)
          replace hkk : Aside _ := (show Aside _ from hkk)
          clear hL2 hown3 hrowW hb3 hBw hB
          go_wp2_with fail
          go_loopg [106] ts.length (fun g i wr => ∃ q : Nat, q ≤ ts.length ∧ g = ts.length - q ∧ i = .int .i64 q ∧ ∃ m, wr = w3.drewN m)
          case atStart => exact ⟨0, Nat.zero_le _, rfl, rfl, 0, rfl⟩
          case round =>
            obtain ⟨q, hq, rfl, rfl, mm, rfl⟩ := hrel
            by_cases hlt2 : q < ts.length
            · obtain ⟨t, ht⟩ : ∃ t, ts[q]? = some t := ⟨ts[q], List.getElem?_eq_getElem hlt2⟩
              obtain ⟨t', ht'⟩ : ∃ t', ts'[q]? = some t' := ⟨ts'[q]'(by omega), List.getElem?_eq_getElem (by omega)⟩
              obtain ⟨x0, x1, x2, x3⟩ := hrow3 q t ht
              obtain ⟨y0, y1, y2, y3⟩ := hrowb q t' ht'
              have hsame : kinds t' = kinds t := by
                have h := congrArg (fun l => l[q]?) hkk.out
                simp only [List.getElem?_map, ht, ht', Option.map_some, Option.some.injEq] at h
                exact h
              simp only [kinds, Prod.mk.injEq] at hsame
              rw [hsame.1] at y0
              rw [hsame.2.1] at y1
              rw [hsame.2.2] at y2
              clear hrow3 hrowb ht ht' hsame x3 y3
              have hqI : (q : Int) < (ts.length : Int) := by omega
              go_wp2_with fail
              go_quiet (fail)
              go_wp2
              go_roundg (ts.length - (q + 1))
              case measure => omega
              case rel => exact ⟨q + 1, by omega, rfl, by go_num, _, rfl⟩
            · have hqI : ¬ (q : Int) < (ts.length : Int) := by omega
              clear hrow3 hrowb
              go_wp2
              go_ret
              exact ⟨rfl, below_drewN hb3' _⟩
  · rw [hlr] at hL
    replace hL : Calls Tryd.prog 10 #[.string s] w1 fun e w' => e = .returned (.tuple #[.slice none 0 0, .int .i64 aa, .int .i64 er]) ∧ Below w1.heap.size w1 w' := hL
    have her : ¬ (er : Int) = 0 := by have := lex_err hlr; omega
    clear hlr
    go_wp2_with fail
    refine hL.mono ?_
    rintro e w2 ⟨rfl, hb2⟩
    go_wp2
    go_ret
    exact ⟨rfl, hb1.trans (hb2.mono hb1.size)⟩
end Go.Proofs.YtjolbladokgpbaaDoor
