/- All tokens of a text. -/
import Derived.Test.YtifebbdjdllfpaaGreatDoorToken
namespace Go.Proofs.YtifebbdjdllfpaaGreatDoor
open Go.RowKit
set_option linter.unusedSimpArgs false
set_option linter.unusedVariables false

def tokCells (t : Lx.Tok) : List Value := [.int .i64 t.kind, .string ⟨t.text.toArray⟩, .int .i64 t.num, .int .i64 t.place]
def rowOf (ts : List Lx.Tok) : List Value := ts.flatMap tokCells
theorem rowOf_snoc (ts : List Lx.Tok) (t : Lx.Tok) : rowOf (ts ++ [t]) = rowOf ts ++ tokCells t := by simp [rowOf]

theorem owns_mv {w w1 : World} {base sz n R j : Nat} {e : TypeId} {v : Value} {xs : List Value} (h : w.ownsRow base e sz v n xs) (m : Mv R j w w1) (hR : R < base) : w1.ownsRow base e sz v n xs := by
  obtain ⟨h1, h2⟩ := h
  refine ⟨h1, ?_⟩
  rcases h2 with h2 | ⟨g, cap, cur, hv, hg, hh, r⟩
  · exact Or.inl h2
  · exact Or.inr ⟨g, cap, cur, hv, hg, (m.kept (Array.getElem?_eq_some_iff.1 hh).1 (by omega)).trans hh, r⟩
theorem owns_below {w w1 : World} {base sz n : Nat} {e : TypeId} {v : Value} {xs : List Value} (h : w.ownsRow base e sz v n xs) (m : Below w.heap.size w w1) : w1.ownsRow base e sz v n xs := by
  obtain ⟨h1, h2⟩ := h
  refine ⟨h1, ?_⟩
  rcases h2 with h2 | ⟨g, cap, cur, hv, hg, hh, r⟩
  · exact Or.inl h2
  · exact Or.inr ⟨g, cap, cur, hv, hg, (m.block g (Array.getElem?_eq_some_iff.1 hh).1).trans hh, r⟩

theorem owns_mono {w : World} {base base' sz n : Nat} {e : TypeId} {v : Value} {xs : List Value} (h : w.ownsRow base e sz v n xs) (hb : base' ≤ base) : w.ownsRow base' e sz v n xs := by
  obtain ⟨h1, h2⟩ := h
  refine ⟨h1, ?_⟩
  rcases h2 with h2 | ⟨g, cap, cur, hv, hg, hh, r⟩
  · exact Or.inl h2
  · exact Or.inr ⟨g, cap, cur, hv, by omega, hh, r⟩
theorem quote_kinds : ∀ (N : Nat) (l : List UInt8) (o : Nat) (acc : List UInt8) (k : Nat) (t : List UInt8) (m n : Nat), l.length ≤ N → Lx.quoteR l o acc = Lx.R.ok k t m n → k = 3 ∧ m = 0 ∧ o + 1 ≤ n ∧ n ≤ o + l.length
  | N, [], o, acc, k, t, m, n, _, h => by simp [Lx.quoteR, Lx.R.bad, Lx.R.ok] at h
  | 0, c :: r, o, acc, k, t, m, n, hN, h => by simp at hN
  | N + 1, c :: r, o, acc, k, t, m, n, hN, h => by
    rw [quoteR_cons] at h
    simp only [List.length_cons] at hN ⊢
    split at h
    · split at h
      · simp [Lx.R.ok] at h; omega
      · simp [Lx.R.ok, Lx.R.bad] at h
    · split at h
      · split at h
        · simp [Lx.R.ok, Lx.R.bad] at h
        · split at h
          · rename_i d r' _
            have := quote_kinds N r' (o + 2) _ k t m n (by simp at hN; omega) h
            simp; omega
          · simp [Lx.R.ok, Lx.R.bad] at h
      · split at h
        · have := quote_kinds N r (o + 1) _ k t m n (by omega) h
          omega
        · simp [Lx.R.ok, Lx.R.bad] at h
theorem tok_kinds {dot : Bool} {c : UInt8} {r : List UInt8} {k : Nat} {t : List UInt8} {m n : Nat} (h : Lx.tokR dot (c :: r) = Lx.R.ok k t m n) : k ≠ 5 ∧ 1 ≤ n ∧ n ≤ r.length + 1 := by
  simp only [Lx.tokR] at h
  split at h
  · rename_i hl
    have hp : Lx.isPart c = true := by simp [Lx.isPart, hl]
    have hle := Lx.tw_le (p := Lx.isPart) (c :: r)
    unfold Lx.nameR at h
    split at h
    · simp only [Lx.R.ok, Sum.inl.injEq, Prod.mk.injEq] at h
      obtain ⟨rfl, _, _, rfl⟩ := h
      refine ⟨by decide, ?_, by simpa using hle⟩
      rw [List.takeWhile_cons_of_pos hp]; simp
    · simp [Lx.R.ok, Lx.R.bad] at h
  · split at h
    · rename_i hd
      have hle := Lx.tw_le (p := Lx.isDigit) (c :: r)
      unfold Lx.numberR at h
      split at h
      · simp [Lx.R.ok, Lx.R.bad] at h
      · split at h
        · simp only [Lx.R.ok, Sum.inl.injEq, Prod.mk.injEq] at h
          obtain ⟨rfl, _, _, rfl⟩ := h
          refine ⟨by decide, ?_, by simpa using hle⟩
          rw [List.takeWhile_cons_of_pos hd]; simp
        · simp [Lx.R.ok, Lx.R.bad] at h
    · split at h
      · have := quote_kinds r.length r 1 [] k t m n (Nat.le_refl _) h
        omega
      · unfold Lx.markR at h
        split at h
        · simp [Lx.R.ok, Lx.R.bad] at h
        · rename_i hz
          have hle := mark_le dot (c :: r)
          simp only [Lx.R.ok, Sum.inl.injEq, Prod.mk.injEq] at h
          obtain ⟨rfl, _, _, rfl⟩ := h
          exact ⟨by decide, by omega, by simpa using hle⟩

theorem at_end {s : ByteArray} {i c : Nat} {dot : Bool} (h : i + gap s i = s.size) : Lx.lexGo dot (s.data.toList.drop i) i c = if c < 4096 then .inl [⟨5, [], 0, s.size⟩] else .inr (s.size, 36) := by
  rw [Lx.lexGo_end (by rw [List.drop_drop]; show List.drop (i + gap s i) _ = []; rw [h]; exact drop_end s)]
  show (if c < 4096 then _ else _) = _
  have e : i + Lx.skipF false (s.data.toList.drop i) = s.size := h
  rw [e]
theorem at_tok {s : ByteArray} {i : Nat} (hlt : i + gap s i < s.size) : (s.data.toList.drop i).drop (Lx.skipF false (s.data.toList.drop i)) = s[i + gap s i] :: s.data.toList.drop (i + gap s i + 1) := by
  rw [List.drop_drop]; exact drop_at s (i + gap s i) hlt
theorem at_bad {s : ByteArray} {i c o er : Nat} {dot : Bool} (hlt : i + gap s i < s.size) (ht : Lx.tokR dot (s.data.toList.drop (i + gap s i)) = Lx.R.bad o er) : Lx.lexGo dot (s.data.toList.drop i) i c = .inr (i + gap s i + o, er) := by
  rw [drop_at s _ hlt] at ht
  exact Lx.lexGo_bad (at_tok hlt) ht
theorem at_ok {s : ByteArray} {i c k : Nat} {t : List UInt8} {m n : Nat} {dot : Bool} (hlt : i + gap s i < s.size) (ht : Lx.tokR dot (s.data.toList.drop (i + gap s i)) = Lx.R.ok k t m n) :
    Lx.lexGo dot (s.data.toList.drop i) i c = if c < 4096 then Lx.Out.pre [(⟨k, t, m, i + gap s i⟩ : Lx.Tok)] (Lx.lexGo dot (s.data.toList.drop (i + gap s i + n)) (i + gap s i + n) (c + 1)) else .inr (i + gap s i, 36) := by
  rw [drop_at s _ hlt] at ht
  have hn := (tok_kinds ht).2.1
  rw [Lx.lexGo_ok (at_tok hlt) ht hn, List.drop_drop]
  show (if c < 4096 then _ else _) = _
  unfold gap
  rw [← Nat.add_assoc]

/-- What the whole reading of a text answers. -/
def TksPost (res : Lx.Out) (w : World) (e : Ending) (w' : World) : Prop :=
  match res with
  | .inl ts => (∃ v, e = .returned v ∧ w'.ownsRow w.heap.size 81 4 v ts.length (rowOf ts)) ∧ Below w.heap.size w w'
  | .inr (a, er) => e = .panicked (thrown a er) ∧ Below w.heap.size w w'

/-- The reading has come to place i, with the tokens ts so far, in the slice v. -/
structure Tk (s : ByteArray) (w : World) (i : Nat) (ts : List Lx.Tok) (v : Value) (wr : World) : Prop where
  rd : At w.heap.size s i wr
  env : Env wr
  own : wr.ownsRow (w.heap.size + 1) 81 4 v ts.length (rowOf ts)
  old : Below w.heap.size w wr
  le : i ≤ s.size
  few : ts.length ≤ 4096

theorem Mv.older {b j : Nat} {w w1 w2 : World} (h : Below b w w1) (m : Mv b j w1 w2) (hb : b < w1.heap.size) : Below b w w2 :=
  h.trans ((Below.refl b w1).setCell (p := ⟨b, 1, none⟩) (Nat.le_refl _) (.int .i64 (j : Int)) |>.trans (m.mono (by omega)))
theorem Tk.move {s : ByteArray} {w : World} {i j : Nat} {ts : List Lx.Tok} {v : Value} {wr w1 : World} (h : Tk s w i ts v wr) (henv : Env w) (m : Mv w.heap.size j wr w1) (hj : j ≤ s.size) : Tk s w j ts v w1 :=
  ⟨h.rd.move m, h.env.mv m (by have := henv.lt; omega), owns_mv h.own m (by omega), Mv.older h.old m h.rd.there, hj, h.few⟩

set_option maxRecDepth 100000 in
set_option maxHeartbeats 4000000 in
theorem tokens_any (s : ByteArray) (w : World) (henv : Env w) (hs : s.size ≤ 16384) :
    Calls Tryz.prog 33 #[.string s] w fun e w' => TksPost (Lx.lexGo dotC s.data.toList 0 0) w e w' := by
  have hsm : s.size ≤ maxLen := by unfold maxLen; omega
  obtain ⟨res, hres⟩ : ∃ res, Aside (res = Lx.lexGo dotC s.data.toList 0 0) := ⟨_, rfl⟩
  rw [← hres.out]
  go_enter Tryz.func33, Tryz.ntmps33
  go_wp2_with fail
  go_loopg [4] (s.size + 1) (fun g v wr => ∃ i ts, g = s.size + 1 - i ∧ Tk s w i ts v wr ∧ Aside (res = Lx.Out.pre ts (Lx.lexGo dotC (s.data.toList.drop i) i ts.length)))
  case atStart =>
    have hb0 : Below w.heap.size w (w.alloc (.cells #[.string s, .int .i64 0] 100)) := (Below.refl _ _).alloc (Nat.le_refl _) _
    refine ⟨0, [], by omega, ⟨⟨by simp, by simp, by simp, by simp⟩, henv.below hb0 henv.lt, ⟨rfl, Or.inl ⟨rfl, rfl⟩⟩, hb0, Nat.zero_le _, by simp⟩, ?_⟩
    show _ = _
    rw [hres.out, Lx.pre_nil]; rfl
  case round =>
    clear hres
    obtain ⟨i, ts, rfl, hk, hr⟩ := hrel
    have hgl := gap_le s i hk.le
    have hsk := skip_any w.heap.size s i wr hk.rd hsm hk.le
    have hne : 2 ≠ w.heap.size := by have := henv.lt; omega
    obtain ⟨i0, hi0, hz⟩ := Option.map_eq_some_iff.1 (show (Tryz.prog.info? 81).map (fun i => (i.zero, i.size, i.bytes)) = some (some (.agg #[.int .i64 0, .string ⟨#[]⟩, .int .i64 0, .int .i64 0]), 4, 40) by kernel_rfl)
    simp only [Prod.mk.injEq] at hz
    obtain ⟨hz0, hz1, hz2⟩ := hz
    go_wp2_with (go_at_call 48; refine hsk.mono ?_; rintro e w1 ⟨rfl, hm1⟩)
    have hk1 := hk.move henv hm1 hgl
    clear hsk hm1
    obtain ⟨ao, cap, rfl⟩ : ∃ ao cap, u4 = .slice ao ts.length cap := by
      rcases hk1.own.2 with ⟨hv, h0⟩ | ⟨g, cap, cur, hv, _⟩
      · exact ⟨none, 0, by rw [hv, h0]⟩
      · exact ⟨_, _, hv⟩
    have htk := token_any w.heap.size s _ w1 hk1.rd hk1.env hne hs hgl
    have hlow : i ≤ i + gap s i := Nat.le_add_right _ _
    -- the next token, by the plain mathematics
    have hnext : Aside ((∃ o er, i + gap s i < s.size ∧ Lx.tokR dotC (s.data.toList.drop (i + gap s i)) = Lx.R.bad o er ∧ res = .inr (i + gap s i + o, er)) ∨
        (∃ k t m n, i + gap s i + n ≤ s.size ∧ Lx.tokR dotC (s.data.toList.drop (i + gap s i)) = Lx.R.ok k t m n ∧ (¬ ts.length < 4096 → res = .inr (i + gap s i, 36)) ∧
          (ts.length < 4096 → (k = 5 ∧ res = .inl (ts ++ [(⟨k, t, m, i + gap s i⟩ : Lx.Tok)])) ∨ (k ≠ 5 ∧ 1 ≤ n ∧ res = Lx.Out.pre (ts ++ [(⟨k, t, m, i + gap s i⟩ : Lx.Tok)]) (Lx.lexGo dotC (s.data.toList.drop (i + gap s i + n)) (i + gap s i + n) (ts ++ [(⟨k, t, m, i + gap s i⟩ : Lx.Tok)]).length))))) := by
      show _ ∨ _
      have hr := hr.out
      by_cases hend : i + gap s i = s.size
      · right
        rw [at_end hend] at hr
        refine ⟨5, [], 0, 0, by omega, by rw [hend, drop_end]; rfl, ?_, ?_⟩
        · intro h; rw [if_neg h] at hr; rw [hr, hend]; rfl
        · intro h; rw [if_pos h] at hr; exact Or.inl ⟨rfl, by rw [hr, hend]; rfl⟩
      · have hlt : i + gap s i < s.size := by omega
        rcases ht : Lx.tokR dotC (s.data.toList.drop (i + gap s i)) with ⟨k, t, m, n⟩ | ⟨o, er⟩
        · right
          have hkn := tok_kinds (by rw [← drop_at s _ hlt]; exact ht)
          rw [at_ok hlt ht] at hr
          have hl : (s.data.toList.drop (i + gap s i + 1)).length + 1 = s.size - (i + gap s i) := by simp; omega
          refine ⟨k, t, m, n, by omega, rfl, ?_, ?_⟩
          · intro h; rw [if_neg h] at hr; rw [hr]; rfl
          · intro h; rw [if_pos h, Lx.pre_pre] at hr
            exact Or.inr ⟨hkn.1, hkn.2.1, by rw [hr]; simp⟩
        · left
          rw [at_bad hlt ht] at hr
          exact ⟨o, er, hlt, rfl, by rw [hr]; rfl⟩
    generalize i + gap s i = j at *
    rcases hnext.out with ⟨o, er, hlt, ht, hres⟩ | ⟨k, t, m, n, hle, ht, hmany, hfew⟩
    · rw [ht] at htk
      replace htk : Calls Tryz.prog 49 #[.pointer (some ⟨w.heap.size, 0, none⟩)] w1 fun e w' => e = .panicked (thrown (j + o) er) ∧ ∃ j', Mv w.heap.size j' w1 w' := htk
      replace hres := (show Aside _ from hres)
      clear hnext ht hr hk
      go_wp2_with (go_at_call 49; refine htk.mono ?_; rintro e w2 ⟨rfl, j2, hm2⟩)
      refine ⟨rfl, ?_⟩
      rw [hres.out]
      exact ⟨rfl, Mv.older hk1.old hm2 hk1.rd.there⟩
    · rw [ht] at htk
      replace htk : Calls Tryz.prog 49 #[.pointer (some ⟨w.heap.size, 0, none⟩)] w1 fun e w' => e = .returned (tokV k ⟨t.toArray⟩ m j) ∧ Mv w.heap.size (j + n) w1 w' := htk
      clear hnext ht hr hk
      by_cases hc : ts.length < 4096
      · replace hfew := (show Aside _ from hfew hc)
        clear hmany
        have hc' : ¬ (ts.length : Int) = 4096 := by omega
        go_wp2_with (first
          | (go_at_call 49; refine htk.mono ?_; rintro e w2 ⟨rfl, hm2⟩)
          | (at_builtin; refine wpList_append_own _ rfl _ _ 47 rfl (w.heap.size + 1) 81 i0 (.agg #[.int .i64 0, .string ⟨#[]⟩, .int .i64 0, .int .i64 0]) 4 40 Tryz.underlying47 hi0 hz0 hz1 hz2 rfl (by decide) _ ts.length _ rfl (((owns_mv hk1.own hm2 (by omega)).alloc _).alloc _) ⟨w2.heap.size + 1, 0, none⟩ 1 1 [.int .i64 k, .string ⟨t.toArray⟩, .int .i64 m, .int .i64 j] rfl rfl ?c1 ?c2 ?c3 ?c4 ?c5 ?_))
        case c1 =>
          intro x u hx
          match x, hx with
          | 0, hx => simp at hx; subst hx; simp [Addr.add]
          | 1, hx => simp at hx; subst hx; simp [Addr.add]
          | 2, hx => simp at hx; subst hx; simp [Addr.add]
          | 3, hx => simp at hx; subst hx; simp [Addr.add]
        case c2 => intro u hu; simp at hu; rcases hu with rfl | rfl | rfl | rfl <;> rfl
        case c3 => unfold maxLen; omega
        case c4 => omega
        case c5 => have h1 := hm2.size; have h2 := hk1.rd.there; simp; omega
        intro v' w3 hown hgrow hnil
        clear hnil
        have hk2 := hk1.move henv hm2 hle
        have hlt2 := hk2.rd.there
        have hB : Below (w.heap.size + 1) w2 w3 := (((Below.refl (w.heap.size + 1) w2).alloc hlt2 _).alloc (by simp; omega) _).grown hgrow (by simp; omega) (fun x hx => (hk2.own.lt x hx).1)
        have hk3 : Tk s w (j + n) (ts ++ [⟨k, t, m, j⟩]) v' w3 :=
          ⟨hk2.rd.below hB (by omega), hk2.env.below hB (by have := henv.lt; omega), by simpa [rowOf_snoc, tokCells] using hown, hk2.old.trans (hB.mono (by omega)), hle, by simp; omega⟩
        have hcell : w3.cell? ⟨w2.heap.size, 0, none⟩ = some (.int .i64 k) := by
          rw [World.cell?_of_block (hgrow.block w2.heap.size (by simp; omega) (fun e => by have := (hk2.own.lt _ e.symm).2; omega))]
          simp
        clear hown hgrow htk hk1 hm2 hB
        rcases hfew.out with ⟨hk5, hres⟩ | ⟨hk5, hn1, hres⟩
        · have hres : Aside _ := (show Aside _ from hres)
          clear hfew
          subst hk5
          go_wp2
          go_ret
          rw [hres.out]
          exact ⟨⟨v', rfl, owns_mono hk3.own (by omega)⟩, hk3.old⟩
        · have hres : Aside _ := (show Aside _ from hres)
          have hk5' : ¬ (k : Int) = 5 := by omega
          clear hfew
          go_wp2
          go_roundg (s.size + 1 - (j + n))
          case measure => omega
          case rel => exact ⟨j + n, ts ++ [⟨k, t, m, j⟩], rfl, hk3, hres⟩
      · have hres : Aside _ := (show Aside _ from hmany hc)
        have hcI : ((ts.length : Int) == 4096) = true := by have := hk1.few; simp; omega
        clear hmany hfew hc
        go_wp2_with (first
          | (go_at_call 49; refine htk.mono ?_; rintro e w2 ⟨rfl, hm2⟩)
          | (go_at_call 50; refine (giveUp_any j 36 _).mono ?_; rintro e w3 ⟨rfl, rfl⟩))
        refine ⟨rfl, ?_⟩
        rw [hres.out]
        exact ⟨rfl, (Mv.older hk1.old hm2 hk1.rd.there).alloc (by have := hm2.size; have := hk1.rd.there; omega) _⟩
end Go.Proofs.YtifebbdjdllfpaaGreatDoor
