/- Blanks and notes put ahead of tokens, and behind all, change no token but its place. Plain mathematics. -/
import Derived.Test.YtnmdnjdibdmodaaGreatDoorCuts
namespace Go.Proofs.YtnmdnjdibdmodaaGreatDoor
set_option linter.unusedSimpArgs false
set_option linter.unusedVariables false

/-- Where what belongs to a token ends: where the next one begins, or the text ends. -/
def chunkEnd (l : List UInt8) : List Lx.Tok → Nat
  | [] => l.length
  | u :: _ => u.place
def build (l : List UInt8) (p : Nat → List UInt8) : Nat → List Lx.Tok → List UInt8
  | _, [] => []
  | j, t :: rest => p j ++ ((l.take (chunkEnd l rest)).drop t.place ++ build l p (j + 1) rest)
def kinds (t : Lx.Tok) : Nat × List UInt8 × Nat := (t.kind, t.text, t.num)
/-- Blanks and notes that are shut, whatever stands behind. -/
structure Pad (p : List UInt8) : Prop where
  shut : ∀ Y, Lx.skipF false (p ++ Y) = p.length + Lx.skipF false Y
  all : ∀ b, Lx.skipF b p = p.length
  head : ∀ c, p.head? = some c → Lx.isBlank c = true ∨ c = 35
theorem pad_nil : Pad [] := ⟨fun Y => by simp, fun b => by cases b <;> rfl, fun c h => by simp at h⟩

theorem skip_app : ∀ (b : Bool) (g : List UInt8) (x : UInt8) (r : List UInt8), Lx.skipF b (g ++ x :: r) = g.length → ∀ Y, Lx.skipF b (g ++ Y) = g.length + Lx.skipF false Y
  | true, [], x, r, h, Y => by
    simp only [List.nil_append, Lx.skipF, List.length_nil] at h
    split at h <;> omega
  | false, [], x, r, h, Y => by simp
  | true, c :: g, x, r, h, Y => by
    simp only [List.cons_append, Lx.skipF, List.length_cons] at h ⊢
    split
    · rename_i hc; rw [if_pos hc] at h; rw [skip_app false g x r (by omega) Y]; omega
    · rename_i hc; rw [if_neg hc] at h; rw [skip_app true g x r (by omega) Y]; omega
  | false, c :: g, x, r, h, Y => by
    simp only [List.cons_append, Lx.skipF, List.length_cons] at h ⊢
    split
    · rename_i hc; rw [if_pos hc] at h; rw [skip_app false g x r (by omega) Y]; omega
    · rename_i hc
      rw [if_neg hc] at h
      split
      · rename_i h35; rw [if_pos h35] at h; rw [skip_app true g x r (by omega) Y]; omega
      · rename_i h35; rw [if_neg h35] at h; omega
theorem skip_app_end : ∀ (b : Bool) (g : List UInt8), Lx.skipF b g = g.length → ∀ Y, (∀ b, Lx.skipF b Y = Y.length) → Lx.skipF b (g ++ Y) = g.length + Y.length
  | b, [], _, Y, hY => by simp [hY b]
  | true, c :: g, h, Y, hY => by
    simp only [List.cons_append, Lx.skipF, List.length_cons] at h ⊢
    split
    · rename_i hc; rw [if_pos hc] at h; rw [skip_app_end false g (by omega) Y hY]; omega
    · rename_i hc; rw [if_neg hc] at h; rw [skip_app_end true g (by omega) Y hY]; omega
  | false, c :: g, h, Y, hY => by
    simp only [List.cons_append, Lx.skipF, List.length_cons] at h ⊢
    split
    · rename_i hc; rw [if_pos hc] at h; rw [skip_app_end false g (by omega) Y hY]; omega
    · rename_i hc
      rw [if_neg hc] at h
      split
      · rename_i h35; rw [if_pos h35] at h; rw [skip_app_end true g (by omega) Y hY]; omega
      · rename_i h35; rw [if_neg h35] at h; omega
/-- A gap g that may stand where the text L stands: it is gone over whole, whatever comes behind. -/
structure Fits (g L : List UInt8) : Prop where
  tok : ∀ x r, L.drop (Lx.skipF false L) = x :: r → ∀ Y, Lx.skipF false (g ++ Y) = g.length + Lx.skipF false Y
  fin : L.drop (Lx.skipF false L) = [] → ∀ Y, (∀ b, Lx.skipF b Y = Y.length) → Lx.skipF false (g ++ Y) = g.length + Y.length
theorem fits_nil (L : List UInt8) : Fits [] L := ⟨fun x r _ Y => by simp, fun _ Y hY => by simp [hY false]⟩
theorem fits_gap (L : List UInt8) : Fits (L.take (Lx.skipF false L)) L := by
  have hle := Lx.skip_le false L
  have hlen : (L.take (Lx.skipF false L)).length = Lx.skipF false L := by simp; omega
  refine ⟨fun x r hd Y => ?_, fun hd Y hY => ?_⟩
  · refine skip_app false (L.take (Lx.skipF false L)) x r ?_ Y
    rw [← hd, List.take_append_drop, hlen]
  · refine skip_app_end false (L.take (Lx.skipF false L)) ?_ Y hY
    rw [skip_take false L _ (Nat.le_refl _), hlen]
theorem first_tok {dot : Bool} {L : List UInt8} {i c : Nat} {ts : List Lx.Tok} (h : Lx.lexGo dot L i c = .inl ts) : ∃ u rest, ts = u :: rest ∧ u.place = i + Lx.skipF false L ∧ c < 4096 ∧
    ((L.drop (Lx.skipF false L) = [] ∧ rest = [] ∧ u = ⟨5, [], 0, i + Lx.skipF false L⟩) ∨
     ∃ x r k t m n, L.drop (Lx.skipF false L) = x :: r ∧ Lx.tokR dot (x :: r) = Lx.R.ok k t m n ∧ u = ⟨k, t, m, i + Lx.skipF false L⟩ ∧ Lx.lexGo dot (L.drop (Lx.skipF false L + n)) (i + Lx.skipF false L + n) (c + 1) = .inl rest) := by
  rcases hd : L.drop (Lx.skipF false L) with _ | ⟨x, r⟩
  · rw [Lx.lexGo_end hd] at h
    split at h
    · rename_i hc
      simp only [Sum.inl.injEq] at h
      exact ⟨_, [], h.symm, rfl, hc, Or.inl ⟨rfl, rfl, rfl⟩⟩
    · simp at h
  · rcases ht : Lx.tokR dot (x :: r) with ⟨k, t, m, n⟩ | ⟨o, e⟩
    · rw [Lx.lexGo_ok hd ht (tok_kinds ht).2.1] at h
      split at h
      · rename_i hc
        rcases hg : Lx.lexGo dot (L.drop (Lx.skipF false L + n)) (i + Lx.skipF false L + n) (c + 1) with ts' | y
        · rw [hg] at h
          simp only [Lx.Out.pre, List.cons_append, List.nil_append, Sum.inl.injEq] at h
          exact ⟨_, ts', h.symm, rfl, hc, Or.inr ⟨x, r, k, t, m, n, rfl, ht, rfl, hg⟩⟩
        · rw [hg] at h; simp [Lx.Out.pre] at h
      · simp at h
    · rw [Lx.lexGo_bad hd ht] at h; simp at h
theorem blanks (dot : Bool) (l : List UInt8) (p : Nat → List UInt8) (hp : ∀ j, Pad (p j)) : ∀ (N i c : Nat) (ts : List Lx.Tok) (j : Nat) (g : List UInt8) (i' : Nat), l.length - i < N → i ≤ l.length →
    Lx.lexGo dot (l.drop i) i c = .inl ts → Fits g (l.drop i) → ∃ ts', Lx.lexGo dot (g ++ build l p j ts) i' c = .inl ts' ∧ ts'.map kinds = ts.map kinds := by
  intro N
  induction N with
  | zero => intro i c ts j g i' hN; omega
  | succ N ih =>
    intro i c ts j g i' hN hi h hg
    obtain ⟨u, rest, rfl, hpl, hc, hcase⟩ := first_tok h
    have hkl := Lx.skip_le false (l.drop i)
    simp only [List.length_drop] at hkl
    rcases hcase with ⟨hd, rfl, rfl⟩ | ⟨x, r, k, t, m, n, hd, ht, rfl, hrest⟩
    · have hq : i + Lx.skipF false (l.drop i) = l.length := by
        have := congrArg List.length hd
        simp at this; omega
      have e : build l p j [⟨5, [], 0, i + Lx.skipF false (l.drop i)⟩] = p j := by
        simp only [build, chunkEnd]
        rw [hq, List.take_length, List.drop_length]; simp
      rw [e]
      have hs := hg.fin hd (p j) (hp j).all
      rw [Lx.lexGo_end (by rw [hs]; exact List.drop_eq_nil_of_le (by simp)), if_pos hc]
      exact ⟨_, rfl, rfl⟩
    · have hkn := tok_kinds ht
      have hlen := congrArg List.length hd
      simp at hlen
      rw [List.drop_drop, ← Nat.add_assoc] at hrest
      obtain ⟨u1, rest1, rfl, hpl1, hc1, hcase1⟩ := first_tok hrest
      generalize hq : i + Lx.skipF false (l.drop i) = q at *
      generalize hk2 : Lx.skipF false (l.drop (q + n)) = k2 at *
      have hk2l := Lx.skip_le false (l.drop (q + n))
      rw [hk2] at hk2l
      simp only [List.length_drop] at hk2l
      have hdq : l.drop q = x :: r := by rw [← hq, ← List.drop_drop]; exact hd
      have hchunk : (l.take (chunkEnd l (u1 :: rest1))).drop q = (x :: r).take n ++ (l.drop (q + n)).take k2 := by
        simp only [chunkEnd, hpl1]
        rw [List.drop_take, hdq, show q + n + k2 - q = n + k2 by omega, List.take_add, ← hdq, List.drop_drop]
      have e : build l p j (⟨k, t, m, q⟩ :: u1 :: rest1) = p j ++ ((x :: r).take n ++ ((l.drop (q + n)).take k2 ++ build l p (j + 1) (u1 :: rest1))) := by
        rw [build, hchunk, List.append_assoc]
      rw [e]
      generalize hB1 : build l p (j + 1) (u1 :: rest1) = B1 at *
      obtain ⟨n', hn'⟩ : ∃ n', n = n' + 1 := ⟨n - 1, by omega⟩
      have htk : (x :: r).take n = x :: r.take n' := by rw [hn']; rfl
      have hxb : Lx.isBlank x = false ∧ x ≠ 35 := by
        have := Lx.skip_head false (l.drop i) x (by rw [hd]; rfl)
        exact this
      have hs0 : Lx.skipF false ((x :: r).take n ++ ((l.drop (q + n)).take k2 ++ B1)) = 0 := Lx.skip_none (fun y hy => by rw [htk] at hy; simp at hy; subst hy; exact hxb)
      have hs : Lx.skipF false (g ++ (p j ++ ((x :: r).take n ++ ((l.drop (q + n)).take k2 ++ B1)))) = g.length + (p j).length := by
        rw [hg.tok x r hd, (hp j).shut, hs0]; omega
      have hdrop : (g ++ (p j ++ ((x :: r).take n ++ ((l.drop (q + n)).take k2 ++ B1)))).drop (g.length + (p j).length) = x :: (r.take n' ++ ((l.drop (q + n)).take k2 ++ B1)) := by
        rw [← List.append_assoc, List.drop_append_of_le_length (by simp), List.drop_eq_nil_of_le (by simp), List.nil_append, htk]; rfl
      have hltn : ((x :: r).take n).length = n := by simp; omega
      have hy : x :: (r.take n' ++ ((l.drop (q + n)).take k2 ++ B1)) = (x :: r).take n ++ ((l.drop (q + n)).take k2 ++ B1) := by rw [htk]; rfl
      have htok : Lx.tokR dot (x :: (r.take n' ++ ((l.drop (q + n)).take k2 ++ B1))) = Lx.R.ok k t m n := by
        rw [hy]
        refine tok_local ht ?_ ?_
        · rw [List.take_append_of_le_length (by omega), List.take_take, Nat.min_self]
        · rw [List.getElem?_append_right (by omega), hltn, Nat.sub_self]
          have ha : (x :: r)[n]? = (l.drop (q + n))[0]? := by rw [← hdq, List.getElem?_drop, List.getElem?_drop]; simp
          rw [ha]
          by_cases hk0 : k2 = 0
          · rw [hk0] at hpl1 hcase1 ⊢
            simp only [List.take_zero, List.nil_append, Nat.add_zero, List.drop_zero] at hpl1 hcase1 ⊢
            rw [← hB1, build]
            rcases hpj : p (j + 1) with _ | ⟨y, pr⟩
            · rw [List.nil_append, hpl1]
              rcases hcase1 with ⟨hd1, rfl, _⟩ | ⟨x1, r1, k1, t1, m1, n1, hd1, ht1, _, hrest1⟩
              · refine Or.inr (fun z hz => ?_)
                simp only [chunkEnd, List.take_length] at hz
                rw [hd1] at hz; simp [build] at hz
              · obtain ⟨u2, rest2, hr2, hpl2, _⟩ := first_tok hrest1
                have hn1 := (tok_kinds ht1).2.1
                refine Or.inl ?_
                rw [hr2, chunkEnd, List.drop_take, hd1, List.getElem?_append_left (by simp; omega), List.getElem?_take, if_pos (by omega)]
            · refine Or.inr (fun z hz => ?_)
              simp at hz
              exact (hp (j + 1)).head z (by rw [hpj, ← hz]; rfl)
          · refine Or.inl ?_
            rw [List.getElem?_append_left (by simp; omega), List.getElem?_take, if_pos (by omega)]
      have hlast : (g ++ (p j ++ ((x :: r).take n ++ ((l.drop (q + n)).take k2 ++ B1)))).drop (g.length + (p j).length + n) = (l.drop (q + n)).take k2 ++ B1 := by
        rw [← List.drop_drop, hdrop, hy, List.drop_append_of_le_length (by omega), List.drop_eq_nil_of_le (by omega), List.nil_append]
      obtain ⟨ts', h1, h2⟩ := ih (q + n) (c + 1) (u1 :: rest1) (j + 1) ((l.drop (q + n)).take k2) (i' + (g.length + (p j).length) + n) (by omega) (by omega) hrest (by have := fits_gap (l.drop (q + n)); rw [hk2] at this; exact this)
      rw [Lx.lexGo_ok (by rw [hs]; exact hdrop) htok hkn.2.1, if_pos hc, hs, hlast, ← hB1, h1]
      exact ⟨_, rfl, by simp [h2, kinds]⟩
end Go.Proofs.YtnmdnjdibdmodaaGreatDoor
