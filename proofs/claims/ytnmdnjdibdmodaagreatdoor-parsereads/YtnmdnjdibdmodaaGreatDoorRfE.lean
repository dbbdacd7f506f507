import Derived.Test.YtnmdnjdibdmodaaGreatDoorRfD
import Derived.Test.YtnmdnjdibdmodaaGreatDoorPsE
import Derived.Test.YtnmdnjdibdmodaaGreatDoorRfA
import Derived.Test.YtnmdnjdibdmodaaGreatDoorParseLaws
/- The document's function: its box, and what turns in it. -/
namespace Go.Proofs.YtnmdnjdibdmodaaGreatDoor
open Go.RowKit
set_option linter.unusedSimpArgs false
set_option linter.unusedVariables false

/-- What the reading of a function answers. -/
def FP (b ga ca : Nat) (ts : List Lx.Tok) (q : Px.P Px.Fn) (S : RSt) (w : World) (r : Ending) (w' : World) : Prop :=
  ∃ (nm : Lx.B) (on : Bool) (a1 : Option Addr) (n1 c1 : Nat) (y : Lx.B) (a2 : Option Addr) (n2 c2 pl : Nat), r = .returned (fV nm on (.slice a1 n1 c1) y (.slice a2 n2 c2) pl) ∧ RS b ga ca ts (st (lift q S)) w' ∧ Fr b w w' ∧
    ∀ f l', lift q S = .inl (f, l') → IsFn (From w.heap.size) w' f (fL nm on (.slice a1 n1 c1) y (.slice a2 n2 c2) pl)
/-- How the document's reading of a function stands: w0 is where it began. -/
structure RF (b ga ca : Nat) (ts : List Lx.Tok) (gf : Nat) (w0 : World) (S : RSt) (nm : Lx.B) (on : Bool) (ao : Option Addr) (n cap : Nat) (row : List Value) (y : Lx.B) (bs : Value) (pl : Nat) (M2 : List Px.St → Prop) (w : World) : Prop where
  rs : RS b ga ca ts S w
  box : w.heap[gf]? = some (fnObj nm on (.slice ao n cap) y bs pl)
  out : w.heap[w0.heap.size]? = some zeroF
  fr : Fr b w0 w
  own : w.ownsRow (gf + 1) 64 3 (.slice ao n cap) n row
  v2 : ∀ xs, M2 xs → IsSts (From (gf + 1)) w xs bs
  lo : b < w0.heap.size ∧ ga < w0.heap.size ∧ w0.heap.size < gf
theorem flat_len (ps : List Px.Sl) : (ps.flatMap slCells).length = ps.length * 3 := by
  induction ps with
  | nil => rfl
  | cons a r ih => simp only [List.flatMap_cons, List.length_append, ih, List.length_cons, slCells, List.length_nil]; omega
section
variable {b ga ca : Nat} {ts : List Lx.Tok} {gf : Nat} {w0 : World} {S S' : RSt} {nm : Lx.B} {on : Bool} {ao : Option Addr} {n cap : Nat} {row : List Value} {y y' : Lx.B} {bs bs' : Value} {pl : Nat} {M2 M2' : List Px.St → Prop} {w w' : World}
theorem RF.lts (h : RF b ga ca ts gf w0 S nm on ao n cap row y bs pl M2 w) : gf < w.heap.size ∧ w0.heap.size < w.heap.size ∧ b < w.heap.size ∧ ga < w.heap.size ∧ gf ≠ b ∧ gf ≠ ga ∧ w0.heap.size ≠ b ∧ w0.heap.size ≠ ga ∧ w0.heap.size ≠ gf ∧ gf ≠ w0.heap.size := by
  obtain ⟨l1, l2, l3⟩ := h.lo
  have h1 := (Array.getElem?_eq_some_iff.1 h.box).1
  have h2 := (Array.getElem?_eq_some_iff.1 h.out).1
  omega
theorem RF.call (h : RF b ga ca ts gf w0 S nm on ao n cap row y bs pl M2 w) (f : Fr b w w') (hr : RS b ga ca ts S' w') : RF b ga ca ts gf w0 S' nm on ao n cap row y bs pl M2 w' := by
  obtain ⟨q1, q2, q3, q4, q5, q6, q7, q8, q9, q10⟩ := h.lts
  obtain ⟨l1, l2, l3⟩ := h.lo
  exact ⟨hr, (f.block gf q1 q5).trans h.box, (f.block _ q2 q7).trans h.out, h.fr.trans f, owns_fo h.own f.fo (by omega), fun xs hx => (h.v2 xs hx).since' (f.sinceB (fun hh => by have : gf + 1 ≤ b := hh; omega)), h.lo⟩
theorem RF.set {j : Nat} {v : Value} (h : RF b ga ca ts gf w0 S nm on ao n cap row y bs pl M2 w)
    (hset : w.heap[gf]? = some (fnObj nm on (.slice ao n cap) y bs pl) → (w.setCell ⟨gf, j, none⟩ v).heap[gf]? = some (fnObj nm on (.slice ao n cap) y' bs' pl)) (h2 : ∀ xs, M2' xs → IsSts (From (gf + 1)) w xs bs') : RF b ga ca ts gf w0 S nm on ao n cap row y' bs' pl M2' (w.setCell ⟨gf, j, none⟩ v) := by
  obtain ⟨q1, q2, q3, q4, q5, q6, q7, q8, q9, q10⟩ := h.lts
  obtain ⟨l1, l2, l3⟩ := h.lo
  have hsn : ∀ B : Nat → Prop, ¬ B gf → Since B w (w.setCell ⟨gf, j, none⟩ v) := fun B hB => ⟨by simp [World.setCell], fun i hi _ => Below.heap_setCell _ _ _ _ (fun e => hB (by rw [← (show i = gf from e)]; exact hi))⟩
  exact ⟨h.rs.other j v q5 q6, hset h.box, (Below.heap_setCell _ _ _ _ q9).trans h.out, h.fr.fresh (by omega) j v, ownsRow_setCell_below h.own (a := ⟨gf, j, none⟩) (by show gf < gf + 1; omega) v, fun xs hx => (h2 xs hx).since' (hsn _ (fun hh => by have : gf + 1 ≤ gf := hh; omega)), h.lo⟩
/-- One parameter more. -/
theorem RF.app {w5 : World} {g cap5 : Nat} {cs : List Value} (h : RF b ga ca ts gf w0 S nm on ao n cap row y (.slice none 0 0) pl (· = []) w) (hG : Grew w w5 (.slice ao n cap) g)
    (hown5 : w5.ownsRow (gf + 1) 64 3 (.slice (some ⟨g, 0, none⟩) (n + 1) cap5) (n + 1) (row ++ cs)) {w6 : World} (h6 : w6 = w5.setCell ⟨gf, 2, none⟩ (.slice (some ⟨g, 0, none⟩) (n + 1) cap5)) :
    RF b ga ca ts gf w0 S nm on (some ⟨g, 0, none⟩) (n + 1) cap5 (row ++ cs) y (.slice none 0 0) pl (· = []) w6 := by
  obtain ⟨q1, q2, q3, q4, q5, q6, q7, q8, q9, q10⟩ := h.lts
  obtain ⟨l1, l2, l3⟩ := h.lo
  have far : ∀ j, j ≤ gf → some j ≠ (Value.slice ao n cap).ownBlock := fun j hj e => by have := (h.own.lt j e.symm).1; omega
  have hoth : ∀ j, j ≠ gf → w6.heap[j]? = w5.heap[j]? := fun j hj => by rw [h6]; exact Below.heap_setCell _ _ _ _ hj
  have hsz : w6.heap.size = w5.heap.size := by rw [h6]; simp [World.setCell]
  have hgs := hG.size
  have hold : ∀ j, j < gf → w6.heap[j]? = w.heap[j]? := fun j hj => (hoth j (by omega)).trans (hG.block j (by omega) (far j (by omega)))
  have hb5 : w5.heap[gf]? = w.heap[gf]? := hG.block gf q1 (far gf (Nat.le_refl _))
  refine ⟨h.rs.keep (hold b (by omega)) (hold ga (by omega)) (by omega), ?_, (hold _ l3).trans h.out, ?_, ?_, fun xs hh => by rw [hh]; exact IsSts.nil' _ _, h.lo⟩
  · rw [h6]
    simp [World.setCell, Array.getElem?_modify, hb5, h.box]
  · refine ⟨?_, ?_, ?_, by have := h.fr.size; omega, fun j h1 h2 => (hold j (by omega)).trans (h.fr.block j h1 h2)⟩
    · rw [h6]; exact hG.os.trans h.fr.os
    · rw [h6]; exact hG.tape.trans h.fr.tape
    · rw [h6]; exact hG.output.trans h.fr.output
  · rw [h6]
    exact ownsRow_setCell_below hown5 (a := ⟨gf, 2, none⟩) (by show gf < gf + 1; omega) _
/-- A function is handed on: stored into the answer's box. -/
theorem RF.ret {q : Px.P Px.Fn} {S0 : RSt} {a2 : Option Addr} {n2 c2 : Nat} (h : RF b ga ca ts gf w0 S nm on ao n cap row y (.slice a2 n2 c2) pl M2 w) (hst : st (lift q S0) = S)
    (hv : ∀ f l', lift q S0 = .inl (f, l') → ∃ ps xs, row = ps.flatMap slCells ∧ M2 xs ∧ f = ⟨nm, on, ps, y, xs, pl⟩) : FP b ga ca ts q S0 w0 (.returned (fV nm on (.slice ao n cap) y (.slice a2 n2 c2) pl)) (fS w w0.heap.size nm on (.slice ao n cap) y (.slice a2 n2 c2) pl) := by
  obtain ⟨q1, q2, q3, q4, q5, q6, q7, q8, q9, q10⟩ := h.lts
  obtain ⟨l1, l2, l3⟩ := h.lo
  refine ⟨nm, on, ao, n, cap, y, a2, n2, c2, pl, rfl, ?_, ?_, fun f l' hs => ?_⟩
  · rw [hst]
    exact h.rs.keep (w7_other (fun e => q7 e.symm) _ _ _ _ _ _ _) (w7_other (fun e => q8 e.symm) _ _ _ _ _ _ _) (by rw [w7_size]; exact Nat.le_refl _)
  · exact (((((((h.fr.fresh (Nat.le_refl _) 0 _).fresh (Nat.le_refl _) 1 _).fresh (Nat.le_refl _) 2 _).fresh (Nat.le_refl _) 3 _).fresh (Nat.le_refl _) 4 _).fresh (Nat.le_refl _) 5 _).fresh (Nat.le_refl _) 6 _)
  · obtain ⟨ps, xs, hrow, m2, rfl⟩ := hv f l' hs
    have hn : ps.length = n := by
      have h1 := h.own.1
      rw [hrow, flat_len] at h1
      omega
    have hh : IsFn (From (gf + 1)) w ⟨nm, on, ps, y, xs, pl⟩ (fL nm on (.slice ao n cap) y (.slice a2 n2 c2) pl) := by
      refine ⟨_, _, rfl, ?_, h.v2 xs m2⟩
      have := owns_slrow (B := From (gf + 1)) h.own (fun j hj _ => hj)
      rw [hrow] at this
      show SlRow _ _ _ _ _ _
      rw [hn]; exact this
    exact (hh.since (Since.set7' (fun hk => by have : gf + 1 ≤ w0.heap.size := hk; omega) _ _ _ _ _ _ _)).base (from_mono (by omega))
end
/-- The parameters' reading. -/
def prmR (S : RSt) : Px.R (List Px.Sl) := lift (fun l2 => Px.items Px.slot (l2.length + 1) 0 [] l2) S
theorem fn_st (on : Bool) (S : RSt) : st (lift (Px.function on) S) = st (lift (Px.block 24) (st (lift (Px.typ 4) (needS [58] (st (prmR (needS [40] (st (lift Px.name S))))))))) := by
  rcases S with l | f
  · simp only [lift, Px.function, prmR, needS]
    rcases Px.name l with ⟨u, l1⟩ | f
    · simp only [Px.bind, st, lift]
      rcases Px.need [40] l1 with ⟨v, l2⟩ | f
      · simp only [Px.bind, st, lift]
        rcases Px.items Px.slot (l2.length + 1) 0 [] l2 with ⟨ps, l3⟩ | f
        · simp only [Px.bind, st, lift]
          rcases Px.need [58] l3 with ⟨v, l4⟩ | f
          · simp only [Px.bind, st, lift]
            rcases Px.typ 4 l4 with ⟨y, l5⟩ | f
            · simp only [Px.bind, st, lift]
              rcases Px.block 24 l5 with ⟨bs, l6⟩ | f <;> rfl
            · rfl
          · rfl
        · rfl
      · rfl
    · rfl
  · rfl
theorem fn_val {on : Bool} {S : RSt} {g : Px.Fn} {l' : List Lx.Tok} (h : lift (Px.function on) S = .inl (g, l')) : ∃ u l1 ps l3 y l5 bs l6, lift Px.name S = .inl (u, l1) ∧ prmR (needS [40] (st (lift Px.name S))) = .inl (ps, l3) ∧
    lift (Px.typ 4) (needS [58] (st (prmR (needS [40] (st (lift Px.name S)))))) = .inl (y, l5) ∧ lift (Px.block 24) (st (lift (Px.typ 4) (needS [58] (st (prmR (needS [40] (st (lift Px.name S)))))))) = .inl (bs, l6) ∧ g = ⟨u.text, on, ps, y, bs, u.place⟩ := by
  rcases S with l | f
  · revert h
    simp only [lift, Px.function, prmR, needS]
    rcases Px.name l with ⟨u, l1⟩ | f
    · simp only [Px.bind, st, lift]
      rcases Px.need [40] l1 with ⟨v, l2⟩ | f
      · simp only [Px.bind, st, lift]
        rcases hI : Px.items Px.slot (l2.length + 1) 0 [] l2 with ⟨ps, l3⟩ | f
        · simp only [Px.bind, st, lift]
          rcases Px.need [58] l3 with ⟨v, l4⟩ | f
          · simp only [Px.bind, st, lift]
            rcases hT : Px.typ 4 l4 with ⟨y, l5⟩ | f
            · simp only [Px.bind, st, lift]
              rcases hB : Px.block 24 l5 with ⟨bs, l6⟩ | f
              · intro h
                simp only [Px.bind, Sum.inl.injEq, Prod.mk.injEq] at h
                exact ⟨u, l1, ps, l3, y, l5, bs, l6, rfl, rfl, rfl, rfl, h.1.symm⟩
              · intro h; simp [Px.bind] at h
            · intro h; simp [Px.bind] at h
          · intro h; simp [Px.bind] at h
        · intro h; simp [Px.bind] at h
      · intro h; simp [Px.bind] at h
    · intro h; simp [Px.bind] at h
  · simp [lift] at h
end Go.Proofs.YtnmdnjdibdmodaaGreatDoor
/- The document's function, walked. -/
namespace Go.Proofs.YtnmdnjdibdmodaaGreatDoor
open Go.RowKit
set_option linter.unusedSimpArgs false
set_option linter.unusedVariables false

/-- Where the loop over a function's parameters is. -/
def FnAt (res : Px.R (List Px.Sl)) (f c : Nat) (S : RSt) (row : List Value) : Prop :=
  (∃ acc l, S = .inl l ∧ l.length < f ∧ c = acc.length ∧ c + l.length ≤ 4096 ∧ row = acc.flatMap slCells ∧ res = Px.items Px.slot f c acc l) ∨ ∃ fl, S = .inr fl ∧ res = .inr fl
abbrev tokO (k : Nat) (t : Lx.B) (m p : Nat) : Obj := .cells #[.int .i64 k, .string ⟨t.toArray⟩, .int .i64 m, .int .i64 p] 39
theorem fault_of {α : Type} {X : Px.R α} {f : Nat × Nat} (h : st X = .inr f) : X = .inr f := st_inr h
set_option maxRecDepth 100000 in
set_option maxHeartbeats 16000000 in
theorem rfn_any (b ga ca : Nat) (ts : List Lx.Tok) (on : Bool) (S : RSt) (w : World) (h : RS b ga ca ts S w) :
    Calls Tryz.prog 25 #[.pointer (some ⟨b, 0, none⟩), .bool on] w fun r w' => FP b ga ca ts (Px.function on) S w r w' := by
  obtain ⟨i0, hi0, hz0, hz1, hz2⟩ := info_parts slotInfo
  have hblk : ∀ (S : RSt) (w : World), RS b ga ca ts S w → Calls Tryz.prog 41 #[.pointer (some ⟨b, 0, none⟩), .int .i64 1] w fun r w' => BP b ga ca ts (Px.block 24) S w r w' := fun S w h => rblock_any b ga ca ts 24 1 (by decide) S w h
  have hbl := (h.at).choose_spec.choose_spec.choose_spec.1.there
  have hgl := (h.at).choose_spec.choose_spec.choose_spec.1.gl
  have hb0 : Below w.heap.size w (w.alloc zeroF) := (Below.refl _ _).alloc (Nat.le_refl _) _
  have ho0 : (w.alloc zeroF).heap[w.heap.size]? = some zeroF := heap_new w _
  have hR0 := h.below hb0
  have hf0 : Fr b w (w.alloc zeroF) := Fr.of_below hb0
  have hsz0 : w.heap.size < (w.alloc zeroF).heap.size := by simp
  have hneb : w.heap.size ≠ b := by omega
  have hfst : Aside (_ = _) := fn_st on S
  go_enter Tryz.func25, Tryz.ntmps25
  go_wp2_with fail
  generalize w.alloc zeroF = wz at *
  clear hb0 h
  refine (rname_any b ga ca ts S wz hR0).mono ?_
  rintro e w1 ⟨tk, nm, tm, tp, rfl, hR1, hg1, hnm⟩
  replace hnm : Aside (∀ u l', lift Px.name S = .inl (u, l') → u = ⟨tk, nm, tm, tp⟩) := hnm
  go_upto_region 2 with fail
  have hbx : Below w1.heap.size w1 (w1.alloc (tokO tk nm tm tp)) := (Below.refl _ _).alloc (Nat.le_refl _) _
  have d1 : (w1.alloc (tokO tk nm tm tp)).cell? ⟨w1.heap.size, 1, none⟩ = some (.string ⟨nm.toArray⟩) := by simp
  have d3 : (w1.alloc (tokO tk nm tm tp)).cell? ⟨w1.heap.size, 3, none⟩ = some (.int .i64 tp) := by simp
  have d4 : w1.heap.size < (w1.alloc (tokO tk nm tm tp)).heap.size := by simp
  have hs1 := hg1.size
  have hR2 := hR1.below hbx
  have hf2 : Fr b w (w1.alloc (tokO tk nm tm tp)) := (hf0.trans hg1).trans (Fr.of_below hbx)
  have ho2 : (w1.alloc (tokO tk nm tm tp)).heap[w.heap.size]? = some zeroF := (hbx.block _ (by omega)).trans ((hg1.block _ hsz0 hneb).trans ho0)
  have hsz2 : w.heap.size < (w1.alloc (tokO tk nm tm tp)).heap.size := by omega
  generalize w1.alloc (tokO tk nm tm tp) = w2 at *
  clear hR0 hf0 ho0 hR1 hg1 hbx
  generalize w1.heap.size = gt at *
  have hbA : Below w2.heap.size w2 (w2.alloc (fnObj nm on (.slice none 0 0) [] (.slice none 0 0) tp)) := (Below.refl _ _).alloc (Nat.le_refl _) _
  have hv0 : RF b ga ca ts w2.heap.size w (st (lift Px.name S)) nm on none 0 0 [] [] (.slice none 0 0) tp (· = []) (w2.alloc (fnObj nm on (.slice none 0 0) [] (.slice none 0 0) tp)) :=
    ⟨hR2.below hbA, heap_new w2 _, (hbA.block _ hsz2).trans ho2, hf2.trans (Fr.of_below hbA), ⟨rfl, Or.inl ⟨rfl, rfl⟩⟩, fun xs hx => by rw [hx]; exact IsSts.nil' _ _, ⟨hbl, hgl, hsz2⟩⟩
  go_wp2_with fail
  generalize w2.alloc (fnObj nm on (.slice none 0 0) [] (.slice none 0 0) tp) = v0 at *
  clear hR2 hf2 ho2 hsz2 hbA d1 d3 d4 hs1 hsz0
  generalize w2.heap.size = gf at *
  refine (need_any b ga ca ts _ [40] v0 hv0.rs).mono ?_
  rintro e v1 ⟨rfl, hRz, hgz⟩
  have hv1 := hv0.call hgz hRz
  clear hv0 hRz hgz
  obtain ⟨S1, hS1⟩ : ∃ S1, Aside (S1 = needS [40] (st (lift Px.name S))) := ⟨_, rfl⟩
  rw [← hS1.out] at hv1
  obtain ⟨res, hres⟩ : ∃ res, Aside (res = prmR S1) := ⟨_, rfl⟩
  obtain ⟨F, hat⟩ : ∃ F, Aside (FnAt res F 0 S1 []) := by
    have hR := hv1.rs
    rcases S1 with l1 | fl
    · exact ⟨l1.length + 1, Or.inl ⟨[], l1, rfl, by omega, rfl, by have := hR.few; omega, rfl, hres.out⟩⟩
    · exact ⟨0, Or.inr ⟨fl, rfl, hres.out⟩⟩
  go_wp2_with fail
  go_loopg [7] F (fun g cnt wr => ∃ (c : Nat) (S' : RSt) (ao : Option Addr) (an cap : Nat) (row : List Value), cnt = .int .i64 c ∧ c ≤ 4096 ∧ an ≤ c ∧ RF b ga ca ts gf w S' nm on ao an cap row [] (.slice none 0 0) tp (· = []) wr ∧ Aside (FnAt res g c S' row))
  case atStart => exact ⟨0, S1, none, 0, 0, [], rfl, by omega, by omega, hv1, hat⟩
  case round =>
    clear hat hv1
    obtain ⟨c, S', ao, an, cap, row, rfl, hc, hanc, hT, hat⟩ := hrel
    obtain ⟨N, pp, er, hr, hcase⟩ := hT.rs.at
    obtain ⟨c0, c1, c2, c3, f1, f2, f3⟩ := hr.cells
    have hbt := hr.there
    clear hr
    rcases hcase with ⟨rfl, l', rfl⟩ | ⟨h0, rfl⟩
    · obtain ⟨acc, hlf, rfl, hcl, hrow, hch⟩ : ∃ acc, l'.length < gk ∧ c = acc.length ∧ c + l'.length ≤ 4096 ∧ row = acc.flatMap slCells ∧ res = Px.items Px.slot gk c acc l' := by
        rcases hat.out with ⟨acc, l2, h1, h2, h3, h4, h5, h6⟩ | ⟨fl, h1, _⟩
        · simp at h1; subst h1; exact ⟨acc, h2, h3, h4, h5, h6⟩
        · simp at h1
      obtain ⟨F', rfl⟩ : ∃ F', gk = F' + 1 := ⟨gk - 1, by omega⟩
      go_wp2_with fail
      refine (got_any b ga ca ts (.inl l') 4 [41] wr (by decide) hT.rs).mono ?_
      rintro e wA ⟨rfl, hRA, hgA⟩
      have hTA := hT.call hgA hRA
      clear c0 c1 c2 c3 f1 f2 f3 hT hRA hgA hat
      rcases hse : seesS 4 [41] (.inl l') with _ | _
      case true =>
        have hsee : Px.sees 4 [41] l' = true := hse
        have e1 : gotS 4 [41] (.inl l') = .inl l'.tail := by simp only [gotS]; rw [if_pos hsee]
        rw [e1] at hTA
        have hr9 : Aside (res = .inl (acc, l'.tail)) := by show _ = _; rw [hch]; simp only [Px.items]; rw [if_pos hsee]
        have hps : Aside (prmR (needS [40] (st (lift Px.name S))) = .inl (acc, l'.tail)) := by show _ = _; rw [← hS1.out, ← hres.out, hr9.out]
        clear hch e1 hsee hse hr9 hres hS1
        go_wp2_with fail
        refine (need_any b ga ca ts _ [58] wA hTA.rs).mono ?_
        rintro e wB ⟨rfl, hRz, hgz⟩
        have hTB := hTA.call hgz hRz
        clear hTA hRz hgz
        obtain ⟨S3, hS3⟩ : ∃ S3, Aside (S3 = needS [58] (.inl l'.tail)) := ⟨_, rfl⟩
        rw [← hS3.out] at hTB
        have hst3 : Aside (st (lift (Px.function on) S) = st (lift (Px.block 24) (st (lift (Px.typ 4) S3)))) := by
          show _ = _
          rw [hfst.out, hps.out, hS3.out]; rfl
        obtain ⟨N9, p9, er9, hr9, hcase⟩ := hTB.rs.at
        obtain ⟨c0, c1, c2, c3, f1, f2, f3⟩ := hr9.cells
        have hb9 := hr9.there
        clear hr9
        rcases hcase with ⟨rfl, l4, rfl⟩ | ⟨h0, rfl⟩
        · have hK := kind_any 4 1 b ga ca ts (.inl l4) wB (by decide) (by decide) hTB.rs
          go_wp2_with fail
          refine hK.mono ?_
          rintro e wC ⟨y, rfl, hRz, hgz, hy, _⟩
          have hTC := hTB.call hgz hRz
          replace hy : Aside (∀ u l', lift (Px.typ 4) (.inl l4) = .inl (u, l') → u = y) := hy
          clear hTB hRz hgz hK c0 c1 c2 c3 f1 f2 f3
          obtain ⟨q1, q2, q3, q4, q5, q6, q7, q8, q9, q10⟩ := hTC.lts
          obtain ⟨x0, x1, x2, x3, x4, x5, x6, k0, k1, k2, k3, k4, k5, k6⟩ := cells_of7 hTC.box
          have hTD := hTC.set (j := 3) (v := .string ⟨y.toArray⟩) (y' := y) (bs' := .slice none 0 0) (M2' := (· = [])) (fun hh => by simp [World.setCell, Array.getElem?_modify, hh]) hTC.v2
          clear x0 x1 x2 x4 x5 x6 k0 k1 k2 k4 k5 k6
          go_upto_region 14 with fail
          generalize wC.setCell ⟨gf, 3, none⟩ (.string ⟨y.toArray⟩) = wD at *
          clear hTC x3 k3 q1 q2 q3 q4 q5 q6 q7 q8 q9 q10
          obtain ⟨S5, hS5⟩ : ∃ S5, Aside (S5 = st (lift (Px.typ 4) (.inl l4))) := ⟨_, rfl⟩
          replace hTD : RF b ga ca ts gf w S5 nm on ao an cap row y (.slice none 0 0) tp (· = []) wD := by rw [hS5.out]; exact hTD
          obtain ⟨N9, p9, er9, hr9, hcase⟩ := hTD.rs.at
          obtain ⟨c0, c1, c2, c3, f1, f2, f3⟩ := hr9.cells
          have hb9 := hr9.there
          clear hr9
          rcases hcase with ⟨rfl, l5, rfl⟩ | ⟨h0, rfl⟩
          · obtain ⟨q1, q2, q3, q4, q5, q6, q7, q8, q9, q10⟩ := hTD.lts
            have hB := hblk _ wD hTD.rs
            go_wp2_with fail
            refine hB.mono ?_
            rintro e wE ⟨ao2, an2, ac2, rfl, hRz, hgz, hvz⟩
            have hTE := hTD.call hgz hRz
            have hvs : ∀ xs, (∃ l', lift (Px.block 24) (.inl l5) = .inl (xs, l')) → IsSts (From (gf + 1)) wE xs (.slice ao2 an2 ac2) := fun xs ⟨l', hl'⟩ => (hvz xs l' hl').base' (from_mono (by omega))
            clear hTD hRz hgz hvz hB c0 c1 c2 c3 f1 f2 f3 q1 q2 q3 q4 q5 q6 q7 q8 q9 q10
            obtain ⟨q1, q2, q3, q4, q5, q6, q7, q8, q9, q10⟩ := hTE.lts
            obtain ⟨x0, x1, x2, x3, x4, x5, x6, k0, k1, k2, k3, k4, k5, k6⟩ := cells_of7 hTE.box
            have hTG := hTE.set (j := 5) (v := .slice ao2 an2 ac2) (y' := y) (bs' := .slice ao2 an2 ac2) (M2' := fun xs => ∃ l', lift (Px.block 24) (.inl l5) = .inl (xs, l')) (fun hh => by simp [World.setCell, Array.getElem?_modify, hh]) hvs
            clear x0 x1 x2 x3 x4 x6 k0 k1 k2 k3 k4 k6
            go_upto_region 16 with fail
            generalize wE.setCell ⟨gf, 5, none⟩ (.slice ao2 an2 ac2) = wG at *
            clear hTE x5 k5 hvs q1 q2 q3 q4 q5 q6 q7 q8 q9 q10
            have hend := hTG.ret (q := Px.function on) (S0 := S) (by rw [hst3.out, ← hS5.out]) (fun f l9 hs => by
              obtain ⟨u9, l1, ps, l3, y9, l6, bs, l7, e1, e2, e3, e4, rfl⟩ := fn_val hs
              have hu := hnm.out u9 l1 e1
              subst hu
              rw [hps.out] at e2
              simp only [Sum.inl.injEq, Prod.mk.injEq] at e2
              obtain ⟨e2, _⟩ := e2
              subst e2
              rw [hps.out] at e3 e4
              have e5 : needS [58] (st (.inl (acc, l'.tail) : Px.R (List Px.Sl))) = .inl l4 := hS3.out.symm
              rw [e5] at e3 e4
              rw [← hS5.out] at e4
              have hyy := hy.out y9 l6 e3
              subst hyy
              exact ⟨acc, bs, hrow, ⟨l7, e4⟩, rfl⟩)
            obtain ⟨q1, q2, q3, q4, q5, q6, q7, q8, q9, q10⟩ := hTG.lts
            obtain ⟨y0, y1, y2, y3, y4, y5, y6, _⟩ := cells_of7 hTG.box
            obtain ⟨e0, e1, e2, e3, e4, e5, e6, m0, m1, m2, m3, m4, m5, m6⟩ := cells_of7 hTG.out
            clear hTG
            generalize w.heap.size = gr at *
            go_wp2
            exact bodyPost_ret (v := fV nm on (.slice ao an cap) y (.slice ao2 an2 ac2) tp) (by simp [results, Tryz.results25, go_sem, e0, e1, e2, e3, e4, e5, e6]) rfl hend
          · have her : ((er9 : Int) == 0) = false := by simp; omega
            have hfault : lift (Px.function on) S = .inr (p9, er9) := fault_of (by rw [hst3.out, ← hS5.out]; rfl)
            have hend := hTD.ret (q := Px.function on) (S0 := S) (by rw [hfault]; rfl) (fun f l' hs => by rw [hfault] at hs; simp at hs)
            obtain ⟨q1, q2, q3, q4, q5, q6, q7, q8, q9, q10⟩ := hTD.lts
            obtain ⟨y0, y1, y2, y3, y4, y5, y6, _⟩ := cells_of7 hTD.box
            obtain ⟨e0, e1, e2, e3, e4, e5, e6, m0, m1, m2, m3, m4, m5, m6⟩ := cells_of7 hTD.out
            clear hTD
            generalize w.heap.size = gr at *
            go_wp2
            exact bodyPost_ret (v := fV nm on (.slice ao an cap) y (.slice none 0 0) tp) (by simp [results, Tryz.results25, go_sem, e0, e1, e2, e3, e4, e5, e6]) rfl hend
        · have her : ((er9 : Int) == 0) = false := by simp; omega
          have hfault : lift (Px.function on) S = .inr (p9, er9) := fault_of (by rw [hst3.out]; rfl)
          have hend := hTB.ret (q := Px.function on) (S0 := S) (by rw [hfault]; rfl) (fun f l' hs => by rw [hfault] at hs; simp at hs)
          obtain ⟨q1, q2, q3, q4, q5, q6, q7, q8, q9, q10⟩ := hTB.lts
          obtain ⟨y0, y1, y2, y3, y4, y5, y6, _⟩ := cells_of7 hTB.box
          obtain ⟨e0, e1, e2, e3, e4, e5, e6, m0, m1, m2, m3, m4, m5, m6⟩ := cells_of7 hTB.out
          clear hTB
          generalize w.heap.size = gr at *
          go_wp2
          exact bodyPost_ret (v := fV nm on (.slice ao an cap) [] (.slice none 0 0) tp) (by simp [results, Tryz.results25, go_sem, e0, e1, e2, e3, e4, e5, e6]) rfl hend
      case false =>
        rw [gotS_no hse] at hTA
        have hgd : Px.Good l' := hTA.rs.1
        have hgdl : 1 ≤ l'.length := by
          cases l' with
          | nil => exact absurd hgd (by simp [Px.Good])
          | cons _ _ => simp
        have hrr : Aside (res = Px.bind (Px.sep acc.length l') fun _ l1 => Px.bind (Px.slot l1) fun x l2 => Px.items Px.slot F' (acc.length + 1) (acc ++ [x]) l2) := by
          show _ = _
          rw [hch]; simp only [Px.items]; rw [if_neg (by rw [show Px.sees 4 [41] l' = false from hse]; simp)]
        clear hch hse hfst
        by_cases hz : acc.length = 0
        · have hzI : ¬ (0 : Int) < (acc.length : Int) := by omega
          replace hrr : Aside (res = Px.bind (Px.slot l') fun x l2 => Px.items Px.slot F' (acc.length + 1) (acc ++ [x]) l2) := by
            show _ = _
            rw [hrr.out]; unfold Px.sep; rw [if_pos hz]; rfl
          obtain ⟨N9, p9, er9, hr9, hcase⟩ := hTA.rs.at
          obtain ⟨c0, c1, c2, c3, f1, f2, f3⟩ := hr9.cells
          have hb9 := hr9.there
          clear hr9
          rcases hcase with ⟨rfl, l9, h9⟩ | ⟨h0, h9⟩
          · simp at h9
            have hT := hTA
            clear hTA hz h9 l9
            go_upto_region 10 with fail
            clear c0 c1 c2 c3 f1 f2 f3
            obtain ⟨q1, q2, q3, q4, q5, q6, q7, q8, q9, q10⟩ := hT.lts
            have c6 := (cells_of7 hT.box).2.2.1
            have hRd := hT.rs.drewN 1
            go_wp2_with fail
            refine wpE_begin (S := fun w' => w'.cell? ⟨gf, 2, none⟩ = some (.slice ao an cap)) (N := fun j => decide (j < 6)) (by kernel_rfl) ?_
            have hS0 : wA.drew.cell? ⟨gf, 2, none⟩ = some (.slice ao an cap) := c6
            refine wpE_take (i := 0) (v := .pointer (some ⟨gf, 2, none⟩)) rfl (by kernel_rfl) (by kernel_rfl) (by kernel_rfl) (by kernel_rfl) (fun _ _ _ h => h) rfl (fun w' hS => by have s1 := hS; go_simp) hS0 ?_
            try simp only [Act.put, List.setIfInBounds_toArray, List.set_cons_zero, List.set_cons_succ]
            refine wpE_take (i := 2) (v := .pointer (some ⟨b, 0, none⟩)) rfl (by kernel_rfl) (by kernel_rfl) (by kernel_rfl) (by kernel_rfl) (fun _ _ _ h => h) rfl (fun w' hS => by have s1 := hS; go_simp) hS0 ?_
            try simp only [Act.put, List.setIfInBounds_toArray, List.set_cons_zero, List.set_cons_succ]
            refine wpE_take (i := 1) (v := .slice ao an cap) rfl (by kernel_rfl) (by kernel_rfl) (by kernel_rfl) (by kernel_rfl) (fun _ _ _ h => h) rfl (fun w' hS => by have s1 := hS; go_simp) hS0 ?_
            try simp only [Act.put, List.setIfInBounds_toArray, List.set_cons_zero, List.set_cons_succ]
            refine wpE_one (i := 3) (by kernel_rfl) rfl rfl (fun K hK => ?_)
            go_simp
            refine (slot_any b ga ca ts _ _ hRd).mono ?_
            rintro e w4 ⟨sn, sy, sp, rfl, hR4, hg4, hx4⟩
            have hgQ4 : Fr b wA w4 := (Fr.drewN b wA 1).trans hg4
            have h4 := hT.call hgQ4 hR4
            have y6 := (cells_of7 h4.box).2.2.1
            obtain ⟨l4, _⟩ := h4.lts
            refine hK _ _ (fun _ => y6) ?_
            clear hK K
            try simp only [Act.put, List.setIfInBounds_toArray, List.set_cons_zero, List.set_cons_succ]
            refine wpE_one (i := 4) (by kernel_rfl) rfl rfl (fun K hK => ?_)
            go_simp
            refine hK _ _ (fun _ => (World.cell?_of_block (w := w4) (heap_old l4)).trans y6) ?_
            clear hK K
            try simp only [Act.put, List.setIfInBounds_toArray, List.set_cons_zero, List.set_cons_succ]
            refine wpE_one (i := 5) (by kernel_rfl) rfl rfl (fun K hK => ?_)
            refine wp_append_lies _ (.tmp 40) (.tmp 43) 23 rfl (gf + 1) 64 i0 _ 3 40 Tryz.underlying23 hi0 hz0 hz1 hz2 rfl (by omega) (.slice ao an cap) an row rfl (h4.own.alloc _) ⟨w4.heap.size, 0, none⟩ 1 1 [.string ⟨sn.toArray⟩, .string ⟨sy.toArray⟩, .int .i64 sp] rfl rfl (World.news_of_block (heap_new w4 _)) (by simp [Value.oneCell']) (by omega) (by unfold maxLen; omega) (by omega) (by simp; omega) (w4.heap.size + 1) (by simp) ?_
            intro g cap5 w5 hown5 hgrow hat5 hlt5
            have hG := grewB hgrow hat5
            have far : some gf ≠ (Value.slice ao an cap).ownBlock := fun e => by have := (h4.own.lt gf e.symm).1; omega
            have hb5 : w5.heap[gf]? = w4.heap[gf]? := hG.block gf l4 far
            have z6 : w5.cell? ⟨gf, 2, none⟩ = some (.slice ao an cap) := (World.cell?_of_block (w := w4) hb5).trans y6
            have zf : w5.frozen? ⟨gf, 2, none⟩ = false := (World.frozen?_of_block (w := w4) hb5).trans (by have h9 := h4.box; simp [World.frozen?, h9])
            refine hK _ _ (fun _ => z6) ?_
            clear hK K
            try simp only [Act.put, List.setIfInBounds_toArray, List.set_cons_zero, List.set_cons_succ]
            refine wpE_takeL (i := 6) (v := .pointer (some ⟨gf, 2, none⟩)) rfl (by kernel_rfl) (by kernel_rfl) (by kernel_rfl) rfl (fun _ _ _ h => h) rfl (fun w' => by go_simp) ?_
            try simp only [Act.put, List.setIfInBounds_toArray, List.set_cons_zero, List.set_cons_succ]
            refine wpE_one (i := 7) (by kernel_rfl) rfl rfl (fun K hK => ?_)
            go_simp
            refine hK _ _ (fun h => absurd h (by decide)) (wpE_done (by kernel_rfl) ?_)
            clear hK K
            have h9 := h4.app hG hown5 rfl
            generalize w5.setCell ⟨gf, 2, none⟩ (.slice (some ⟨g, 0, none⟩) (an + 1) cap5) = w7 at *
            clear hT h4 hG hown5 hR4 hg4 hgQ4 hgrow hat5 hlt5 far hb5 z6 zf y6 l4 c6 hRd hS0 q1 q2 q3 q4 q5 q6 q7 q8 q9 q10
            go_wp2
            go_roundg F'
            case measure => omega
            case rel =>
              refine ⟨acc.length + 1, _, some ⟨g, 0, none⟩, an + 1, cap5, _, by go_num, by omega, by omega, h9, ?_⟩
              show FnAt _ _ _ _ _
              have hr2 := hrr.out
              simp only [lift] at hx4 ⊢
              rcases hqr : Px.slot l' with ⟨x, l2⟩ | fl
              · have hb9 := (Px.slot_ok l' hgd).ok x l2 hqr
                have h2 := hb9.less
                have hx := hx4 x l2 hqr
                rw [hqr] at hr2
                exact Or.inl ⟨acc ++ [x], l2, rfl, by omega, by simp, by omega, by rw [hrow, hx]; simp [List.flatMap_append, slCells], hr2⟩
              · rw [hqr] at hr2
                exact Or.inr ⟨fl, rfl, hr2⟩
          · simp at h9
        · have hzI : (0 : Int) < (acc.length : Int) := by omega
          go_wp2_with fail
          refine (need_any b ga ca ts (.inl l') [44] wA hTA.rs).mono ?_
          rintro e wQ ⟨rfl, hRz, hgz⟩
          have hT := hTA.call hgz hRz
          clear hTA hRz hgz
          have hsp : Px.sep acc.length l' = Px.need [44] l' := by unfold Px.sep; rw [if_neg hz]
          obtain ⟨S2, hS2⟩ : ∃ S2, Aside (S2 = needS [44] (.inl l')) := ⟨_, rfl⟩
          rw [← hS2.out] at hT
          obtain ⟨N9, p9, er9, hr9, hcase⟩ := hT.rs.at
          obtain ⟨c0, c1, c2, c3, f1, f2, f3⟩ := hr9.cells
          have hb9 := hr9.there
          clear hr9
          rcases hcase with ⟨rfl, l1, rfl⟩ | ⟨h0, rfl⟩
          · obtain ⟨v9, hnd⟩ := st_inl (X := Px.need [44] l') hS2.out.symm
            have ha := (Px.need_res hgd).ok v9 l1 hnd
            have hg1 := ha.good
            have hl1 := ha.less
            replace hrr : Aside (res = Px.bind (Px.slot l1) fun x l2 => Px.items Px.slot F' (acc.length + 1) (acc ++ [x]) l2) := by
              show _ = _
              rw [hrr.out, hsp, hnd]; rfl
            clear hsp hS2 hnd ha hz
            go_upto_region 10 with fail
            clear c0 c1 c2 c3 f1 f2 f3
            obtain ⟨q1, q2, q3, q4, q5, q6, q7, q8, q9, q10⟩ := hT.lts
            have c6 := (cells_of7 hT.box).2.2.1
            have hRd := hT.rs.drewN 1
            go_wp2_with fail
            refine wpE_begin (S := fun w' => w'.cell? ⟨gf, 2, none⟩ = some (.slice ao an cap)) (N := fun j => decide (j < 6)) (by kernel_rfl) ?_
            have hS0 : wQ.drew.cell? ⟨gf, 2, none⟩ = some (.slice ao an cap) := c6
            refine wpE_take (i := 0) (v := .pointer (some ⟨gf, 2, none⟩)) rfl (by kernel_rfl) (by kernel_rfl) (by kernel_rfl) (by kernel_rfl) (fun _ _ _ h => h) rfl (fun w' hS => by have s1 := hS; go_simp) hS0 ?_
            try simp only [Act.put, List.setIfInBounds_toArray, List.set_cons_zero, List.set_cons_succ]
            refine wpE_take (i := 2) (v := .pointer (some ⟨b, 0, none⟩)) rfl (by kernel_rfl) (by kernel_rfl) (by kernel_rfl) (by kernel_rfl) (fun _ _ _ h => h) rfl (fun w' hS => by have s1 := hS; go_simp) hS0 ?_
            try simp only [Act.put, List.setIfInBounds_toArray, List.set_cons_zero, List.set_cons_succ]
            refine wpE_take (i := 1) (v := .slice ao an cap) rfl (by kernel_rfl) (by kernel_rfl) (by kernel_rfl) (by kernel_rfl) (fun _ _ _ h => h) rfl (fun w' hS => by have s1 := hS; go_simp) hS0 ?_
            try simp only [Act.put, List.setIfInBounds_toArray, List.set_cons_zero, List.set_cons_succ]
            refine wpE_one (i := 3) (by kernel_rfl) rfl rfl (fun K hK => ?_)
            go_simp
            refine (slot_any b ga ca ts _ _ hRd).mono ?_
            rintro e w4 ⟨sn, sy, sp, rfl, hR4, hg4, hx4⟩
            have hgQ4 : Fr b wQ w4 := (Fr.drewN b wQ 1).trans hg4
            have h4 := hT.call hgQ4 hR4
            have y6 := (cells_of7 h4.box).2.2.1
            obtain ⟨l4, _⟩ := h4.lts
            refine hK _ _ (fun _ => y6) ?_
            clear hK K
            try simp only [Act.put, List.setIfInBounds_toArray, List.set_cons_zero, List.set_cons_succ]
            refine wpE_one (i := 4) (by kernel_rfl) rfl rfl (fun K hK => ?_)
            go_simp
            refine hK _ _ (fun _ => (World.cell?_of_block (w := w4) (heap_old l4)).trans y6) ?_
            clear hK K
            try simp only [Act.put, List.setIfInBounds_toArray, List.set_cons_zero, List.set_cons_succ]
            refine wpE_one (i := 5) (by kernel_rfl) rfl rfl (fun K hK => ?_)
            refine wp_append_lies _ (.tmp 40) (.tmp 43) 23 rfl (gf + 1) 64 i0 _ 3 40 Tryz.underlying23 hi0 hz0 hz1 hz2 rfl (by omega) (.slice ao an cap) an row rfl (h4.own.alloc _) ⟨w4.heap.size, 0, none⟩ 1 1 [.string ⟨sn.toArray⟩, .string ⟨sy.toArray⟩, .int .i64 sp] rfl rfl (World.news_of_block (heap_new w4 _)) (by simp [Value.oneCell']) (by omega) (by unfold maxLen; omega) (by omega) (by simp; omega) (w4.heap.size + 1) (by simp) ?_
            intro g cap5 w5 hown5 hgrow hat5 hlt5
            have hG := grewB hgrow hat5
            have far : some gf ≠ (Value.slice ao an cap).ownBlock := fun e => by have := (h4.own.lt gf e.symm).1; omega
            have hb5 : w5.heap[gf]? = w4.heap[gf]? := hG.block gf l4 far
            have z6 : w5.cell? ⟨gf, 2, none⟩ = some (.slice ao an cap) := (World.cell?_of_block (w := w4) hb5).trans y6
            have zf : w5.frozen? ⟨gf, 2, none⟩ = false := (World.frozen?_of_block (w := w4) hb5).trans (by have h9 := h4.box; simp [World.frozen?, h9])
            refine hK _ _ (fun _ => z6) ?_
            clear hK K
            try simp only [Act.put, List.setIfInBounds_toArray, List.set_cons_zero, List.set_cons_succ]
            refine wpE_takeL (i := 6) (v := .pointer (some ⟨gf, 2, none⟩)) rfl (by kernel_rfl) (by kernel_rfl) (by kernel_rfl) rfl (fun _ _ _ h => h) rfl (fun w' => by go_simp) ?_
            try simp only [Act.put, List.setIfInBounds_toArray, List.set_cons_zero, List.set_cons_succ]
            refine wpE_one (i := 7) (by kernel_rfl) rfl rfl (fun K hK => ?_)
            go_simp
            refine hK _ _ (fun h => absurd h (by decide)) (wpE_done (by kernel_rfl) ?_)
            clear hK K
            have h9 := h4.app hG hown5 rfl
            generalize w5.setCell ⟨gf, 2, none⟩ (.slice (some ⟨g, 0, none⟩) (an + 1) cap5) = w7 at *
            clear hT h4 hG hown5 hR4 hg4 hgQ4 hgrow hat5 hlt5 far hb5 z6 zf y6 l4 c6 hRd hS0 q1 q2 q3 q4 q5 q6 q7 q8 q9 q10
            go_wp2
            go_roundg F'
            case measure => omega
            case rel =>
              refine ⟨acc.length + 1, _, some ⟨g, 0, none⟩, an + 1, cap5, _, by go_num, by omega, by omega, h9, ?_⟩
              show FnAt _ _ _ _ _
              have hr2 := hrr.out
              simp only [lift] at hx4 ⊢
              rcases hqr : Px.slot l1 with ⟨x, l2⟩ | fl
              · have hb9 := (Px.slot_ok l1 hg1).ok x l2 hqr
                have h2 := hb9.less
                have hx := hx4 x l2 hqr
                rw [hqr] at hr2
                exact Or.inl ⟨acc ++ [x], l2, rfl, by omega, by simp, by omega, by rw [hrow, hx]; simp [List.flatMap_append, slCells], hr2⟩
              · rw [hqr] at hr2
                exact Or.inr ⟨fl, rfl, hr2⟩
          · have her : ((er9 : Int) == 0) = false := by simp; omega
            have hnd := st_inr (X := Px.need [44] l') hS2.out.symm
            replace hrr : Aside (res = .inr (p9, er9)) := by
              show _ = _
              rw [hrr.out, hsp, hnd]; rfl
            clear hsp hS2 hnd hz
            go_wp2
            go_roundg F'
            case measure => omega
            case rel =>
              refine ⟨acc.length + 1, _, ao, an, cap, row, by go_num, by omega, by omega, hT, ?_⟩
              show FnAt _ _ _ _ _
              exact Or.inr ⟨_, rfl, hrr.out⟩
    · have her : ((er : Int) == 0) = false := by simp; omega
      have hrr : Aside (res = .inr (pp, er)) := by
        show _ = _
        rcases hat.out with ⟨acc, l2, h1, _⟩ | ⟨fl, h1, h2⟩
        · simp at h1
        · simp at h1; rw [h2, h1]
      have hfault : lift (Px.function on) S = .inr (pp, er) := fault_of (by rw [hfst.out, ← hS1.out, ← hres.out, hrr.out]; rfl)
      clear hat hres hS1 hrr hfst
      go_wp2_with fail
      refine (need_any b ga ca ts _ [58] wr hT.rs).mono ?_
      rintro e wB ⟨rfl, hRz, hgz⟩
      have hTB := hT.call hgz hRz
      replace hTB : RF b ga ca ts gf w (.inr (pp, er)) nm on ao an cap row [] (.slice none 0 0) tp (· = []) wB := hTB
      clear hT hRz hgz c0 c1 c2 c3 f1 f2 f3
      obtain ⟨N9, p9, er9, hr9, hcase⟩ := hTB.rs.at
      obtain ⟨c0, c1, c2, c3, f1, f2, f3⟩ := hr9.cells
      have hb9 := hr9.there
      clear hr9
      rcases hcase with ⟨rfl, l9, h9⟩ | ⟨h9, h10⟩
      · simp at h9
      · simp at h10
        obtain ⟨rfl, rfl⟩ := h10
        have hend := hTB.ret (q := Px.function on) (S0 := S) (by rw [hfault]; rfl) (fun f l' hs => by rw [hfault] at hs; simp at hs)
        obtain ⟨q1, q2, q3, q4, q5, q6, q7, q8, q9, q10⟩ := hTB.lts
        obtain ⟨y0, y1, y2, y3, y4, y5, y6, _⟩ := cells_of7 hTB.box
        obtain ⟨e0, e1, e2, e3, e4, e5, e6, m0, m1, m2, m3, m4, m5, m6⟩ := cells_of7 hTB.out
        clear hTB
        generalize w.heap.size = gr at *
        go_wp2
        exact bodyPost_ret (v := fV nm on (.slice ao an cap) [] (.slice none 0 0) tp) (by simp [results, Tryz.results25, go_sem, e0, e1, e2, e3, e4, e5, e6]) rfl hend
end Go.Proofs.YtnmdnjdibdmodaaGreatDoor
/- A program's box, in the document's reading: one state, one function more. -/
namespace Go.Proofs.YtnmdnjdibdmodaaGreatDoor
open Go.RowKit
set_option linter.unusedSimpArgs false
set_option linter.unusedVariables false

/-- A state more. -/
theorem rbox_state {b ga n gq g cap : Nat} {p : Px.Pr} {w w4 w5 : World} {ss fs : Value} {rf : List Value} {s : Px.Sl} (hb : b < gq) (hga : ga < gq) (hn : n ≤ gq) (hnw : n ≤ w.heap.size) (h1 : w.heap[gq]? = some (prO p.version ss fs)) (h2 : w.ownsRow (gq + 1) 64 3 ss p.states.length (p.states.flatMap slCells)) (h3 : w.ownsRow (gq + 1) 46 7 fs p.fns.length rf) (h4 : AllFn (fun k => gq + 1 ≤ k ∧ fs.ownBlock ≠ some k ∧ ss.ownBlock ≠ some k) w p.fns rf)
    (fo4 : Fo b w.heap.size w w4) (hG : Grew w4 w5 ss g) (hown5 : w5.ownsRow (gq + 1) 64 3 (.slice (some ⟨g, 0, none⟩) (p.states.length + 1) cap) (p.states.length + 1) (p.states.flatMap slCells ++ slCells s)) :
    PPrBox gq { p with states := p.states ++ [s] } (w5.setCell ⟨gq, 1, none⟩ (.slice (some ⟨g, 0, none⟩) (p.states.length + 1) cap)) ∧ ((∀ k, k < gq → (w5.setCell ⟨gq, 1, none⟩ (.slice (some ⟨g, 0, none⟩) (p.states.length + 1) cap)).heap[k]? = w4.heap[k]?) ∧ w4.heap.size ≤ (w5.setCell ⟨gq, 1, none⟩ (.slice (some ⟨g, 0, none⟩) (p.states.length + 1) cap)).heap.size) ∧ Fo b n w (w5.setCell ⟨gq, 1, none⟩ (.slice (some ⟨g, 0, none⟩) (p.states.length + 1) cap)) := by
  have hl : gq < w.heap.size := (Array.getElem?_eq_some_iff.1 h1).1
  have h14 := (fo4.block gq hl (by omega)).trans h1
  have h24 := owns_fo h2 fo4 (by omega)
  have h34 := owns_fo h3 fo4 (by omega)
  have h44 := h4.since (fo4.sinceB (fun hh => by omega))
  have hz4 := fo4.size
  have hz5 := hG.size
  have far : ∀ k, k ≤ gq → w5.heap[k]? = w4.heap[k]? := fun k hk => hG.block k (by omega) (fun e => by have := (h24.lt k e.symm).1; omega)
  have hgq := (hown5.lt g rfl).1
  have oth : ∀ k, k ≠ gq → (w5.setCell ⟨gq, 1, none⟩ (.slice (some ⟨g, 0, none⟩) (p.states.length + 1) cap)).heap[k]? = w5.heap[k]? := fun k hk => Below.heap_setCell _ _ _ _ hk
  have hsz : (w5.setCell ⟨gq, 1, none⟩ (.slice (some ⟨g, 0, none⟩) (p.states.length + 1) cap)).heap.size = w5.heap.size := by simp [World.setCell]
  have hblk : (w5.setCell ⟨gq, 1, none⟩ (.slice (some ⟨g, 0, none⟩) (p.states.length + 1) cap)).heap[gq]? = some (prO p.version (.slice (some ⟨g, 0, none⟩) (p.states.length + 1) cap) fs) := by
    have := (far gq (Nat.le_refl _)).trans h14
    simp [World.setCell, Array.getElem?_modify, this]
  have hown6 := ownsRow_setCell_below hown5 (a := ⟨gq, 1, none⟩) (by show gq < gq + 1; omega) (.slice (some ⟨g, 0, none⟩) (p.states.length + 1) cap)
  have hq : (w5.setCell ⟨gq, 1, none⟩ (.slice (some ⟨g, 0, none⟩) (p.states.length + 1) cap)).os = w5.os ∧ (w5.setCell ⟨gq, 1, none⟩ (.slice (some ⟨g, 0, none⟩) (p.states.length + 1) cap)).tape = w5.tape ∧ (w5.setCell ⟨gq, 1, none⟩ (.slice (some ⟨g, 0, none⟩) (p.states.length + 1) cap)).output = w5.output := ⟨rfl, rfl, rfl⟩
  generalize w5.setCell ⟨gq, 1, none⟩ (.slice (some ⟨g, 0, none⟩) (p.states.length + 1) cap) = w6 at *
  have hfs : ∀ k, fs.ownBlock = some k → ss.ownBlock ≠ some k := fun k hk hs => by
    obtain ⟨c1, e1⟩ := owns_type h34 hk
    obtain ⟨c2, e2⟩ := owns_type h24 hs
    rw [e1] at e2; simp at e2
  have hne : ∀ k, gq + 1 ≤ k ∧ fs.ownBlock ≠ some k ∧ ss.ownBlock ≠ some k → k < w4.heap.size → k ≠ g := by
    intro k hk hlt he
    subst he
    rcases hG.place with h | h
    · exact hk.2.2 h
    · omega
  refine ⟨⟨_, fs, rf, hblk, by simpa using hown6, owns_far h34 (fun k hk => (oth k (by have := (h34.lt k hk).1; omega)).trans (hG.block k (h34.lt k hk).2 (fun e => hfs k hk e.symm))), ?_⟩, ?_, ⟨hq.1.trans (hG.os.trans fo4.os), hq.2.1.trans (hG.tape.trans fo4.tape), hq.2.2.trans (hG.output.trans fo4.output), by omega, fun k hk hkb => (oth k (by omega)).trans ((far k (by omega)).trans (fo4.block k (by omega) hkb))⟩⟩
  · have hlow : ∀ k, (gq + 1 ≤ k ∧ fs.ownBlock ≠ some k ∧ ss.ownBlock ≠ some k) → k < w4.heap.size → (gq + 1 ≤ k ∧ fs.ownBlock ≠ some k ∧ (Value.slice (some ⟨g, 0, none⟩) (p.states.length + 1) cap).ownBlock ≠ some k) ∧ ss.ownBlock ≠ some k := fun k h1 h2 => ⟨⟨h1.1, h1.2.1, fun e => hne k h1 h2 (by simpa [Value.ownBlock] using e.symm)⟩, h1.2.2⟩
    exact ((h44.plow hlow).since ⟨by omega, fun k hk hl => (oth k (by have := hk.1.1; omega)).trans (hG.block k hl (fun e => hk.2 e.symm))⟩).base (fun k hk => hk.1)
  · exact ⟨fun k hk => (oth k (by omega)).trans (far k (by omega)), by omega⟩
/-- A function more. -/
theorem rbox_fn {b ga n gq g cap : Nat} {p : Px.Pr} {w w4 w5 : World} {ss fs : Value} {rf cs : List Value} (hb : b < gq) (hga : ga < gq) (hn : n ≤ gq) (hnw : n ≤ w.heap.size) (h1 : w.heap[gq]? = some (prO p.version ss fs)) (h2 : w.ownsRow (gq + 1) 64 3 ss p.states.length (p.states.flatMap slCells)) (h3 : w.ownsRow (gq + 1) 46 7 fs p.fns.length rf) (h4 : AllFn (fun k => gq + 1 ≤ k ∧ fs.ownBlock ≠ some k ∧ ss.ownBlock ≠ some k) w p.fns rf)
    (fo4 : Fo b w.heap.size w w4) (hG : Grew w4 w5 fs g) (hown5 : w5.ownsRow (gq + 1) 46 7 (.slice (some ⟨g, 0, none⟩) (p.fns.length + 1) cap) (p.fns.length + 1) (rf ++ cs)) :
    (∀ s, IsFn (From w.heap.size) w4 s cs → PPrBox gq { p with fns := p.fns ++ [s] } (w5.setCell ⟨gq, 2, none⟩ (.slice (some ⟨g, 0, none⟩) (p.fns.length + 1) cap))) ∧ ((∀ k, k < gq → (w5.setCell ⟨gq, 2, none⟩ (.slice (some ⟨g, 0, none⟩) (p.fns.length + 1) cap)).heap[k]? = w4.heap[k]?) ∧ w4.heap.size ≤ (w5.setCell ⟨gq, 2, none⟩ (.slice (some ⟨g, 0, none⟩) (p.fns.length + 1) cap)).heap.size) ∧ Fo b n w (w5.setCell ⟨gq, 2, none⟩ (.slice (some ⟨g, 0, none⟩) (p.fns.length + 1) cap)) := by
  have hl : gq < w.heap.size := (Array.getElem?_eq_some_iff.1 h1).1
  have h14 := (fo4.block gq hl (by omega)).trans h1
  have h24 := owns_fo h2 fo4 (by omega)
  have h34 := owns_fo h3 fo4 (by omega)
  have h44 := h4.since (fo4.sinceB (fun hh => by omega))
  have hz4 := fo4.size
  have hz5 := hG.size
  have far : ∀ k, k ≤ gq → w5.heap[k]? = w4.heap[k]? := fun k hk => hG.block k (by omega) (fun e => by have := (h34.lt k e.symm).1; omega)
  have hgq := (hown5.lt g rfl).1
  have oth : ∀ k, k ≠ gq → (w5.setCell ⟨gq, 2, none⟩ (.slice (some ⟨g, 0, none⟩) (p.fns.length + 1) cap)).heap[k]? = w5.heap[k]? := fun k hk => Below.heap_setCell _ _ _ _ hk
  have hsz : (w5.setCell ⟨gq, 2, none⟩ (.slice (some ⟨g, 0, none⟩) (p.fns.length + 1) cap)).heap.size = w5.heap.size := by simp [World.setCell]
  have hblk : (w5.setCell ⟨gq, 2, none⟩ (.slice (some ⟨g, 0, none⟩) (p.fns.length + 1) cap)).heap[gq]? = some (prO p.version ss (.slice (some ⟨g, 0, none⟩) (p.fns.length + 1) cap)) := by
    have := (far gq (Nat.le_refl _)).trans h14
    simp [World.setCell, Array.getElem?_modify, this]
  have hown6 := ownsRow_setCell_below hown5 (a := ⟨gq, 2, none⟩) (by show gq < gq + 1; omega) (.slice (some ⟨g, 0, none⟩) (p.fns.length + 1) cap)
  have hq : (w5.setCell ⟨gq, 2, none⟩ (.slice (some ⟨g, 0, none⟩) (p.fns.length + 1) cap)).os = w5.os ∧ (w5.setCell ⟨gq, 2, none⟩ (.slice (some ⟨g, 0, none⟩) (p.fns.length + 1) cap)).tape = w5.tape ∧ (w5.setCell ⟨gq, 2, none⟩ (.slice (some ⟨g, 0, none⟩) (p.fns.length + 1) cap)).output = w5.output := ⟨rfl, rfl, rfl⟩
  generalize w5.setCell ⟨gq, 2, none⟩ (.slice (some ⟨g, 0, none⟩) (p.fns.length + 1) cap) = w6 at *
  have hfs : ∀ k, ss.ownBlock = some k → fs.ownBlock ≠ some k := fun k hk hs => by
    obtain ⟨c1, e1⟩ := owns_type h24 hk
    obtain ⟨c2, e2⟩ := owns_type h34 hs
    rw [e1] at e2; simp at e2
  have hne : ∀ k, gq + 1 ≤ k ∧ fs.ownBlock ≠ some k ∧ ss.ownBlock ≠ some k → k < w4.heap.size → k ≠ g := by
    intro k hk hlt he
    subst he
    rcases hG.place with h | h
    · exact hk.2.1 h
    · omega
  have hlow : ∀ k, (gq + 1 ≤ k ∧ fs.ownBlock ≠ some k ∧ ss.ownBlock ≠ some k) → k < w4.heap.size → (gq + 1 ≤ k ∧ (Value.slice (some ⟨g, 0, none⟩) (p.fns.length + 1) cap).ownBlock ≠ some k ∧ ss.ownBlock ≠ some k) ∧ fs.ownBlock ≠ some k := fun k h1 h2 => ⟨⟨h1.1, fun e => hne k h1 h2 (by simpa [Value.ownBlock] using e.symm), h1.2.2⟩, h1.2.1⟩
  have hsn : Since (fun k => (gq + 1 ≤ k ∧ (Value.slice (some ⟨g, 0, none⟩) (p.fns.length + 1) cap).ownBlock ≠ some k ∧ ss.ownBlock ≠ some k) ∧ fs.ownBlock ≠ some k) w4 w6 := ⟨by omega, fun k hk hl => (oth k (by have := hk.1.1; omega)).trans (hG.block k hl (fun e => hk.2 e.symm))⟩
  refine ⟨fun s hx => ⟨ss, _, rf ++ cs, hblk, owns_far h24 (fun k hk => (oth k (by have := (h24.lt k hk).1; omega)).trans (hG.block k (h24.lt k hk).2 (fun e => hfs k hk e.symm))), by simpa using hown6, ?_⟩, ?_, ⟨hq.1.trans (hG.os.trans fo4.os), hq.2.1.trans (hG.tape.trans fo4.tape), hq.2.2.trans (hG.output.trans fo4.output), by omega, fun k hk hkb => (oth k (by omega)).trans ((far k (by omega)).trans (fo4.block k (by omega) hkb))⟩⟩
  · have hx4 : IsFn (fun k => gq + 1 ≤ k ∧ fs.ownBlock ≠ some k ∧ ss.ownBlock ≠ some k) w4 s cs := hx.plow (fun k hk _ => ⟨by have : w.heap.size ≤ k := hk; omega, fun e => by have := (h3.lt k e).2; have : w.heap.size ≤ k := hk; omega, fun e => by have := (h2.lt k e).2; have : w.heap.size ≤ k := hk; omega⟩)
    exact (((h44.plow hlow).since hsn).base (fun k hk => hk.1)).snoc (((hx4.plow hlow).since hsn).base (fun k hk => hk.1))
  · exact ⟨fun k hk => (oth k (by omega)).trans (far k (by omega)), by omega⟩
end Go.Proofs.YtnmdnjdibdmodaaGreatDoor
/- The document's Parse: how it stands in memory. -/
namespace Go.Proofs.YtnmdnjdibdmodaaGreatDoor
open Go.RowKit
set_option linter.unusedSimpArgs false
set_option linter.unusedVariables false

abbrev rdO (ga n ca : Nat) : Obj := .cells #[.slice (some ⟨ga, 0, none⟩) n ca, .int .i64 0, .int .i64 0, .int .i64 0] 59
/-- How the document's Parse stands: w0 is where it began. -/
structure RP (b ga ca : Nat) (ts : List Lx.Tok) (w0 : World) (S : RSt) (w : World) : Prop where
  rs : RS b ga ca ts S w
  out : w.heap[w0.heap.size]? = some zeroP
  be : Below w0.heap.size w0 w
  lo : w0.heap.size < ga ∧ ga < b
section
variable {b ga ca : Nat} {ts : List Lx.Tok} {w0 : World} {S S' : RSt} {w w' : World}
theorem below_fr {n : Nat} {w1 w2 : World} (h : Below n w w1) (f : Fr b w1 w2) (hb : n ≤ b) (hn : n ≤ w1.heap.size) : Below n w w2 := h.trans ⟨f.os, f.tape, f.output, by have := f.size; omega, fun k hk => f.block k (by omega) (by omega)⟩
theorem RP.lts (h : RP b ga ca ts w0 S w) : w0.heap.size < w.heap.size ∧ b < w.heap.size ∧ ga < w.heap.size ∧ w0.heap.size ≠ b ∧ b ≠ w0.heap.size ∧ w0.heap.size < b ∧ w0.heap.size ≠ ga := by
  obtain ⟨l1, l2⟩ := h.lo
  have h1 := (Array.getElem?_eq_some_iff.1 h.out).1
  have h2 := (h.rs.at).choose_spec.choose_spec.choose_spec.1.there
  omega
theorem RP.call (h : RP b ga ca ts w0 S w) (f : Fr b w w') (hr : RS b ga ca ts S' w') : RP b ga ca ts w0 S' w' := by
  obtain ⟨q1, q2, q3, q4, q5, q6, q7⟩ := h.lts
  exact ⟨hr, (f.block _ q1 q4).trans h.out, below_fr h.be f (by omega) h.be.size, h.lo⟩
theorem RP.below (h : RP b ga ca ts w0 S w) (f : Below w.heap.size w w') : RP b ga ca ts w0 S w' := h.call (Fr.of_below f) (h.rs.below f)
/-- What lies up to gq is as it was. -/
theorem RP.keep {gq : Nat} (h : RP b ga ca ts w0 S w) (hgq : b < gq) (hold : ∀ k, k < gq → w'.heap[k]? = w.heap[k]?) (hs : w.heap.size ≤ w'.heap.size) (ho : w'.os = w.os ∧ w'.tape = w.tape ∧ w'.output = w.output) : RP b ga ca ts w0 S w' := by
  obtain ⟨q1, q2, q3, q4, q5, q6, q7⟩ := h.lts
  obtain ⟨l1, l2⟩ := h.lo
  exact ⟨h.rs.keep (hold b hgq) (hold ga (by omega)) hs, (hold _ (by omega)).trans h.out, h.be.trans ⟨ho.1, ho.2.1, ho.2.2, by have := h.be.size; omega, fun k hk => hold k (by omega)⟩, h.lo⟩
end
theorem rp_new {w wz w1 : World} {ga ca : Nat} {ts : List Lx.Tok} (hz : wz = w.alloc zeroP) (hb1 : Below wz.heap.size wz w1) (hga : wz.heap.size ≤ ga) (hgl : ga < w1.heap.size) (hrow : TokRow w1 ga ts) (hgood : Px.Good ts) (hfew : ts.length ≤ 4096) (hpos : 0 < ts.length) :
    RP w1.heap.size ga ca ts w (.inl ts) (w1.alloc (rdO ga ts.length ca)) := by
  have hsz : wz.heap.size = w.heap.size + 1 := by rw [hz]; simp
  have hb2 : Below w1.heap.size w1 (w1.alloc (rdO ga ts.length ca)) := (Below.refl _ _).alloc (Nat.le_refl _) _
  have hs1 := hb1.size
  refine ⟨⟨hgood, 0, by simp, ⟨heap_new w1 _, ?_, by simp; omega, by omega, hpos, hfew⟩⟩, ?_, ?_, ⟨by omega, by omega⟩⟩
  · exact hrow.below hb2 hgl
  · rw [hb2.block _ (by omega), hb1.block _ (by omega), hz]
    exact heap_new w _
  · have h0 : Below w.heap.size w wz := by rw [hz]; exact (Below.refl _ _).alloc (Nat.le_refl _) _
    exact (h0.trans (hb1.mono (by omega))).trans (hb2.mono (by omega))
/-- Where the loop over a program's parts is. -/
def PrAt (gq : Nat) (res : Px.R Px.Pr) (f : Nat) (S : RSt) (w : World) : Prop :=
  (∃ p l, S = .inl l ∧ l.length < f ∧ p.states.length + p.fns.length + l.length ≤ 4096 ∧ PPrBox gq p w ∧ res = Px.parts f p l) ∨ ∃ fl, S = .inr fl ∧ res = .inr fl
/-- What Parse answers of tokens. -/
def fin (r : Px.R Px.Pr) : Px.Pr ⊕ (Nat × Nat) := match r with | .inl (p, _) => .inl p | .inr x => .inr x
theorem RP.bad {b ga ca : Nat} {ts : List Lx.Tok} {w0 w : World} {S : RSt} {a er : Nat} {r : Px.R Px.Pr} (h : RP b ga ca ts w0 S w) (hr : r = .inr (a, er)) : ParsePost (fin r) w0 (.returned (.tuple #[zeroPr, .int .i64 a, .int .i64 er])) (w3 w w0.heap.size (.int .i64 0) (.slice none 0 0) (.slice none 0 0)) := by
  rw [hr]
  exact ⟨rfl, below_set3 h.be (Nat.le_refl _) _ _ _⟩
theorem RP.good {b ga ca gq : Nat} {ts l : List Lx.Tok} {w0 w : World} {S : RSt} {p : Px.Pr} {r : Px.R Px.Pr} {ss fs : Value} {rf : List Value} (h : RP b ga ca ts w0 S w) (hr : r = .inl (p, l)) (hgq : b < gq) (h2 : w.ownsRow (gq + 1) 64 3 ss p.states.length (p.states.flatMap slCells)) (h3 : w.ownsRow (gq + 1) 46 7 fs p.fns.length rf) (h4 : AllFn (fun k => gq + 1 ≤ k ∧ fs.ownBlock ≠ some k ∧ ss.ownBlock ≠ some k) w p.fns rf) :
    ParsePost (fin r) w0 (.returned (.tuple #[pV p.version ss fs, .int .i64 0, .int .i64 0])) (w3 w w0.heap.size (.int .i64 p.version) ss fs) := by
  obtain ⟨l1, l2⟩ := h.lo
  rw [hr]
  exact ⟨⟨_, rfl, ((PPrBox.pr (B := From (gq + 1)) h2 h3 h4 (fun k hk => hk)).since (Since.set3' (fun hh => by have : gq + 1 ≤ w0.heap.size := hh; omega) _ _ _)).base (from_mono (by omega))⟩, below_set3 h.be (Nat.le_refl _) _ _ _⟩
theorem numS_bad {t : Lx.Tok} {r : List Lx.Tok} (h : ¬ t.kind = 2) : Px.number (t :: r) = .inr (t.place, 31) := by
  simp only [Px.number]; rw [if_neg h]; rfl
theorem numS_ok {t : Lx.Tok} {r : List Lx.Tok} (h : t.kind = 2) : Px.number (t :: r) = .inl (t.num, r) := by
  simp only [Px.number]; rw [if_pos h]
end Go.Proofs.YtnmdnjdibdmodaaGreatDoor
/- The document's Parse, walked: no version. -/
namespace Go.Proofs.YtnmdnjdibdmodaaGreatDoor
open Go.RowKit
set_option linter.unusedSimpArgs false
set_option linter.unusedVariables false

set_option maxRecDepth 100000 in
set_option maxHeartbeats 16000000 in
theorem rpr_nov (s : ByteArray) (w : World) (hm : s.size ≤ maxLen) (ts : List Lx.Tok) (hl : Lx.lex true s.data.toList = .inl ts)
    (hs : Px.sees 1 [118, 101, 114, 115, 105, 111, 110] ts = false) :
    Calls Tryz.prog 10 #[.string s] w fun e w' => ParsePost (fin (Px.program ts)) w e w' := by
  have hL := rlex_any s (w.alloc zeroP) hm
  rw [hl] at hL
  replace hL : Calls Tryz.prog 20 #[.string s] (w.alloc zeroP) fun e w' => (∃ v, e = .returned (.tuple #[v, .int .i64 0, .int .i64 0]) ∧ w'.ownsRow (w.alloc zeroP).heap.size 39 4 v ts.length (rowOf ts)) ∧ Below (w.alloc zeroP).heap.size (w.alloc zeroP) w' := hL
  have hgood := lex_good hl
  have hfew := lex_few hl
  have hpos := (lex_nonempty hl).1
  obtain ⟨res, hres⟩ : ∃ res, Aside (res = Px.program ts) := ⟨_, rfl⟩
  rw [← hres.out]
  have hnew : ∀ w1 ga ca, Below (w.alloc zeroP).heap.size (w.alloc zeroP) w1 → (w.alloc zeroP).heap.size ≤ ga → ga < w1.heap.size → TokRow w1 ga ts → RP w1.heap.size ga ca ts w (.inl ts) (w1.alloc (rdO ga ts.length ca)) := fun w1 ga ca h1 h2 h3 h4 => rp_new rfl h1 h2 h3 h4 hgood hfew hpos
  clear hl
  go_enter Tryz.func10, Tryz.ntmps10
  go_wp2_with fail
  refine hL.mono ?_
  rintro e w1 ⟨⟨v, rfl, hown⟩, hb1⟩
  obtain ⟨ga, ca, rfl, hga, hgl, hcap, hrow⟩ := owns_toks hown hpos
  have hv0 := hnew w1 ga ca hb1 hga hgl hrow
  clear hL hown hb1 hga hrow hnew hcap
  go_upto_region 5 with fail
  generalize w1.alloc (rdO ga ts.length ca) = v0 at *
  clear hgl
  generalize w1.heap.size = b at *
  have hs1 : seesS 1 [118, 101, 114, 115, 105, 111, 110] (.inl ts) = false := hs
  obtain ⟨pp, er, hpe⟩ : ∃ pp er, Aside (failS 31 (.inl ts) = .inr (pp, er)) := ⟨_, _, rfl⟩
  have hrr : Aside (res = .inr (pp, er)) := by
    show _ = _
    rw [hres.out]
    simp only [Px.program, Px.needK]
    rw [if_neg (by rw [hs]; simp)]
    have h9 := hpe.out
    simp only [failS] at h9
    simp at h9
    simp only [Px.fail, Px.bind, h9.1, h9.2]
  clear hres
  go_wp2_with fail
  refine (got_any b ga ca ts _ 1 [118, 101, 114, 115, 105, 111, 110] v0 (by decide) hv0.rs).mono ?_
  rintro e v1 ⟨rfl, hRz, hgz⟩
  rw [gotS_no hs1] at hRz
  rw [hs1]
  have hv1 := hv0.call hgz hRz
  clear hv0 hRz hgz
  go_wp2_with fail
  refine (fail_any b ga ca ts _ 31 v1 (by decide) hv1.rs).mono ?_
  rintro e v2 ⟨rfl, hRz, hgz⟩
  rw [hpe.out] at hRz
  have hv2 := hv1.call hgz hRz
  clear hv1 hRz hgz hs hs1 hpe
  go_upto_region 8 with fail
  have hv3 := hv2.below (w' := v2.alloc zeroP) ((Below.refl _ _).alloc (Nat.le_refl _) _)
  generalize v2.alloc zeroP = v3 at *
  clear hv2
  obtain ⟨N9, p9, er9, hr9, hcase⟩ := hv3.rs.at
  obtain ⟨c0, c1, c2, c3, f1, f2, f3⟩ := hr9.cells
  clear hr9
  rcases hcase with ⟨_, l9, h9⟩ | ⟨h0, h9⟩
  · simp at h9
  simp at h9
  obtain ⟨h91, h92⟩ := h9
  subst h91 h92
  have her : ((er : Int) == 0) = false := by simp; omega
  obtain ⟨q1, q2, q3, q4, q5, q6, q7⟩ := hv3.lts
  go_quiet (fail)
  go_wp2_with fail
  have hv4 := hv3.below (w' := v3.drewN nq) ⟨rfl, rfl, rfl, Nat.le_refl _, fun _ _ => rfl⟩
  generalize v3.drewN nq = v4 at *
  refine (fail_any b ga ca ts _ 31 v4 (by decide) hv4.rs).mono ?_
  rintro e v5 ⟨rfl, hRz, hgz⟩
  have hv5 : RP b ga ca ts w (.inr (pp, er)) v5 := hv4.call hgz hRz
  clear hv3 hv4 hRz hgz c0 c1 c2 c3 f1 f2 f3 h0 her q1 q2 q3 q4 q5 q6 q7
  go_wp2_with fail
  refine (need_any b ga ca ts _ [59] v5 hv5.rs).mono ?_
  rintro e wF ⟨rfl, hRz, hgz⟩
  have hTF : RP b ga ca ts w (.inr (pp, er)) wF := hv5.call hgz hRz
  clear hv5 hRz hgz
  go_wp2_with fail
  go_loopg [] 1 (fun g wr => RP b ga ca ts w (.inr (pp, er)) wr)
  case atStart => exact hTF
  case round =>
    clear hTF
    obtain ⟨N9, p9, er9, hr9, hcase⟩ := hrel.rs.at
    obtain ⟨c0, c1, c2, c3, f1, f2, f3⟩ := hr9.cells
    clear hr9
    rcases hcase with ⟨_, l9, h9⟩ | ⟨h0, h9⟩
    · simp at h9
    simp at h9
    obtain ⟨h91, h92⟩ := h9
    subst h91 h92
    have her : ((er : Int) == 0) = false := by simp; omega
    have her2 : ((er : Int) != 0) = true := by simp; omega
    obtain ⟨q1, q2, q3, q4, q5, q6, q7⟩ := hrel.lts
    go_wp2_with fail
    go_quiet (fail)
    have hQ := hrel.below (w' := wr.drewN nq) ⟨rfl, rfl, rfl, Nat.le_refl _, fun _ _ => rfl⟩
    go_upto_region 22 with fail
    generalize wr.drewN nq = wq at *
    clear hrel c0 c1 c2 c3 f1 f2 f3 q1 q2 q3 q4 q5 q6 q7
    obtain ⟨N9, p9, er9, hr9, hcase⟩ := hQ.rs.at
    obtain ⟨c0, c1, c2, c3, f1, f2, f3⟩ := hr9.cells
    clear hr9
    rcases hcase with ⟨_, l9, h9⟩ | ⟨_, h9⟩
    · simp at h9
    simp at h9
    obtain ⟨h91, h92⟩ := h9
    subst h91 h92
    obtain ⟨q1, q2, q3, q4, q5, q6, q7⟩ := hQ.lts
    obtain ⟨e0, e1, e2, m0, m1, m2⟩ := cells_of3 hQ.out
    have hend : ParsePost (fin res) w (.returned (.tuple #[zeroPr, .int .i64 pp, .int .i64 er])) (w3 wq w.heap.size (.int .i64 0) (.slice none 0 0) (.slice none 0 0)).drew := by
      have h9 := hQ.bad hrr.out
      rw [hrr.out] at h9 ⊢
      exact ⟨h9.1, ⟨h9.2.os, h9.2.tape, h9.2.output, h9.2.size, fun k hk => h9.2.block k hk⟩⟩
    clear hQ hrr
    go_wp2_with fail
    go_region
    all_goals
      go_wp2
      exact bodyPost_ret (v := .tuple #[zeroPr, .int .i64 pp, .int .i64 er]) (by simp [results, Tryz.results10, go_sem, e0, e1, e2]) rfl hend
end Go.Proofs.YtnmdnjdibdmodaaGreatDoor
/- The document's Parse, walked: no number behind version. -/
namespace Go.Proofs.YtnmdnjdibdmodaaGreatDoor
open Go.RowKit
set_option linter.unusedSimpArgs false
set_option linter.unusedVariables false

set_option maxRecDepth 100000 in
set_option maxHeartbeats 16000000 in
theorem rpr_non (s : ByteArray) (w : World) (hm : s.size ≤ maxLen) (ts : List Lx.Tok) (hl : Lx.lex true s.data.toList = .inl ts)
    (hs : Px.sees 1 [118, 101, 114, 115, 105, 111, 110] ts = true) (hn : ∀ u rr, ts.tail = u :: rr → ¬ u.kind = 2) :
    Calls Tryz.prog 10 #[.string s] w fun e w' => ParsePost (fin (Px.program ts)) w e w' := by
  have hL := rlex_any s (w.alloc zeroP) hm
  rw [hl] at hL
  replace hL : Calls Tryz.prog 20 #[.string s] (w.alloc zeroP) fun e w' => (∃ v, e = .returned (.tuple #[v, .int .i64 0, .int .i64 0]) ∧ w'.ownsRow (w.alloc zeroP).heap.size 39 4 v ts.length (rowOf ts)) ∧ Below (w.alloc zeroP).heap.size (w.alloc zeroP) w' := hL
  have hgood := lex_good hl
  have hfew := lex_few hl
  have hpos := (lex_nonempty hl).1
  obtain ⟨res, hres⟩ : ∃ res, Aside (res = Px.program ts) := ⟨_, rfl⟩
  rw [← hres.out]
  have hnew : ∀ w1 ga ca, Below (w.alloc zeroP).heap.size (w.alloc zeroP) w1 → (w.alloc zeroP).heap.size ≤ ga → ga < w1.heap.size → TokRow w1 ga ts → RP w1.heap.size ga ca ts w (.inl ts) (w1.alloc (rdO ga ts.length ca)) := fun w1 ga ca h1 h2 h3 h4 => rp_new rfl h1 h2 h3 h4 hgood hfew hpos
  clear hl
  go_enter Tryz.func10, Tryz.ntmps10
  go_wp2_with fail
  refine hL.mono ?_
  rintro e w1 ⟨⟨v, rfl, hown⟩, hb1⟩
  obtain ⟨ga, ca, rfl, hga, hgl, hcap, hrow⟩ := owns_toks hown hpos
  have hv0 := hnew w1 ga ca hb1 hga hgl hrow
  clear hL hown hb1 hga hrow hnew hcap
  go_upto_region 5 with fail
  generalize w1.alloc (rdO ga ts.length ca) = v0 at *
  clear hgl
  generalize w1.heap.size = b at *
  obtain ⟨t0, r0, rfl, hk0, hx0⟩ := Px.sees_head hs
  have hs1 : seesS 1 [118, 101, 114, 115, 105, 111, 110] (.inl (t0 :: r0)) = true := hs
  have e1 : gotS 1 [118, 101, 114, 115, 105, 111, 110] (.inl (t0 :: r0)) = .inl r0 := by simp only [gotS]; rw [if_pos hs]; rfl
  have hg0 : Px.Good r0 := hgood.tail (by omega)
  obtain ⟨u, rr, rfl⟩ : ∃ u rr, r0 = u :: rr := by
    cases r0 with
    | nil => exact absurd hg0 (by simp [Px.Good])
    | cons u rr => exact ⟨u, rr, rfl⟩
  replace hres : Aside (res = Px.bind (Px.number (u :: rr)) fun v l2 => Px.bind (Px.need [59] l2) fun _ l3 => Px.parts (l3.length + 1) ⟨v, [], []⟩ l3) := by
    show _ = _
    rw [hres.out]
    simp only [Px.program, Px.needK]
    rw [if_pos hs]; rfl
  go_wp2_with fail
  refine (got_any b ga ca _ _ 1 [118, 101, 114, 115, 105, 111, 110] v0 (by decide) hv0.rs).mono ?_
  rintro e v1 ⟨rfl, hRz, hgz⟩
  rw [e1] at hRz
  rw [hs1]
  have hv1 := hv0.call hgz hRz
  clear hv0 hRz hgz hs1 e1 hs hx0 hgood hpos
  have hk2 := hn u rr rfl
  clear hn
  generalize t0 :: u :: rr = ts at *
  go_upto_region 8 with fail
  have hv2 := hv1.below (w' := v1.alloc zeroP) ((Below.refl _ _).alloc (Nat.le_refl _) _)
  have hgq : b < v1.heap.size := hv1.lts.2.1
  have hpb : (v1.alloc zeroP).heap[v1.heap.size]? = some zeroP := heap_new v1 _
  have hgql : v1.heap.size < (v1.alloc zeroP).heap.size := by simp
  generalize v1.alloc zeroP = v2 at *
  clear hv1
  generalize v1.heap.size = gq at *
  obtain ⟨_, Nl, hNl, hr1⟩ := hv2.rs
  obtain ⟨hu, hN2, hlt⟩ := drop_head hNl
  have hltI : (Nl : Int) < (ts.length : Int) := by omega
  obtain ⟨c0, c1, c2, c3, f1, f2, f3⟩ := hr1.cells
  obtain ⟨x0, x1, x2, x3⟩ := hr1.row Nl u hu
  obtain ⟨q1, q2, q3, q4, q5, q6, q7⟩ := hv2.lts
  have hkI : ((u.kind : Int) == 2) = false := by simp; omega
  obtain ⟨pp, er, hpe⟩ : ∃ pp er, Aside (failS 31 (.inl (u :: rr)) = .inr (pp, er)) := ⟨_, _, rfl⟩
  have hrr : Aside (res = .inr (pp, er)) := by
    show _ = _
    rw [hres.out, numS_bad hk2]
    have h9 := hpe.out
    simp only [failS, Px.place] at h9
    simp at h9
    simp only [Px.bind, h9.1, h9.2]
  clear hres hr1 hNl hN2 hu hk2
  go_quiet (fail)
  go_wp2_with fail
  have hv4 := hv2.below (w' := v2.drewN nq) ⟨rfl, rfl, rfl, Nat.le_refl _, fun _ _ => rfl⟩
  generalize v2.drewN nq = v4 at *
  refine (fail_any b ga ca ts _ 31 v4 (by decide) hv4.rs).mono ?_
  rintro e v5 ⟨rfl, hRz, hgz⟩
  rw [hpe.out] at hRz
  have hv5 : RP b ga ca ts w (.inr (pp, er)) v5 := hv4.call hgz hRz
  clear hv2 hv4 hRz hgz c0 c1 c2 c3 f1 f2 f3 x0 x1 x2 x3 hpe hkI hlt hltI hpb hgql hgq q1 q2 q3 q4 q5 q6 q7
  go_wp2_with fail
  refine (need_any b ga ca ts _ [59] v5 hv5.rs).mono ?_
  rintro e wF ⟨rfl, hRz, hgz⟩
  have hTF : RP b ga ca ts w (.inr (pp, er)) wF := hv5.call hgz hRz
  clear hv5 hRz hgz
  go_wp2_with fail
  go_loopg [] 1 (fun g wr => RP b ga ca ts w (.inr (pp, er)) wr)
  case atStart => exact hTF
  case round =>
    clear hTF
    obtain ⟨N9, p9, er9, hr9, hcase⟩ := hrel.rs.at
    obtain ⟨c0, c1, c2, c3, f1, f2, f3⟩ := hr9.cells
    clear hr9
    rcases hcase with ⟨_, l9, h9⟩ | ⟨h0, h9⟩
    · simp at h9
    simp at h9
    obtain ⟨h91, h92⟩ := h9
    subst h91 h92
    have her : ((er : Int) == 0) = false := by simp; omega
    have her2 : ((er : Int) != 0) = true := by simp; omega
    obtain ⟨q1, q2, q3, q4, q5, q6, q7⟩ := hrel.lts
    go_wp2_with fail
    go_quiet (fail)
    have hQ := hrel.below (w' := wr.drewN nq) ⟨rfl, rfl, rfl, Nat.le_refl _, fun _ _ => rfl⟩
    go_upto_region 22 with fail
    generalize wr.drewN nq = wq at *
    clear hrel c0 c1 c2 c3 f1 f2 f3 q1 q2 q3 q4 q5 q6 q7
    obtain ⟨N9, p9, er9, hr9, hcase⟩ := hQ.rs.at
    obtain ⟨c0, c1, c2, c3, f1, f2, f3⟩ := hr9.cells
    clear hr9
    rcases hcase with ⟨_, l9, h9⟩ | ⟨_, h9⟩
    · simp at h9
    simp at h9
    obtain ⟨h91, h92⟩ := h9
    subst h91 h92
    obtain ⟨q1, q2, q3, q4, q5, q6, q7⟩ := hQ.lts
    obtain ⟨e0, e1, e2, m0, m1, m2⟩ := cells_of3 hQ.out
    have hend : ParsePost (fin res) w (.returned (.tuple #[zeroPr, .int .i64 pp, .int .i64 er])) (w3 wq w.heap.size (.int .i64 0) (.slice none 0 0) (.slice none 0 0)).drew := by
      have h9 := hQ.bad hrr.out
      rw [hrr.out] at h9 ⊢
      exact ⟨h9.1, ⟨h9.2.os, h9.2.tape, h9.2.output, h9.2.size, fun k hk => h9.2.block k hk⟩⟩
    clear hQ hrr
    go_wp2_with fail
    go_region
    all_goals
      go_wp2
      exact bodyPost_ret (v := .tuple #[zeroPr, .int .i64 pp, .int .i64 er]) (by simp [results, Tryz.results10, go_sem, e0, e1, e2]) rfl hend
end Go.Proofs.YtnmdnjdibdmodaaGreatDoor
/- The document's Parse, walked: a version and its number. -/
namespace Go.Proofs.YtnmdnjdibdmodaaGreatDoor
open Go.RowKit
set_option linter.unusedSimpArgs false
set_option linter.unusedVariables false

set_option maxRecDepth 100000 in
set_option maxHeartbeats 16000000 in
theorem rpr_all (s : ByteArray) (w : World) (hm : s.size ≤ maxLen) (ts : List Lx.Tok) (hl : Lx.lex true s.data.toList = .inl ts)
    (hs : Px.sees 1 [118, 101, 114, 115, 105, 111, 110] ts = true) (u : Lx.Tok) (rr : List Lx.Tok) (htl : ts.tail = u :: rr) (hk2 : u.kind = 2) :
    Calls Tryz.prog 10 #[.string s] w fun e w' => ParsePost (fin (Px.program ts)) w e w' := by
  have hL := rlex_any s (w.alloc zeroP) hm
  rw [hl] at hL
  replace hL : Calls Tryz.prog 20 #[.string s] (w.alloc zeroP) fun e w' => (∃ v, e = .returned (.tuple #[v, .int .i64 0, .int .i64 0]) ∧ w'.ownsRow (w.alloc zeroP).heap.size 39 4 v ts.length (rowOf ts)) ∧ Below (w.alloc zeroP).heap.size (w.alloc zeroP) w' := hL
  have hgood := lex_good hl
  have hfew := lex_few hl
  have hpos := (lex_nonempty hl).1
  obtain ⟨res, hres⟩ : ∃ res, Aside (res = Px.program ts) := ⟨_, rfl⟩
  rw [← hres.out]
  have hnew : ∀ w1 ga ca, Below (w.alloc zeroP).heap.size (w.alloc zeroP) w1 → (w.alloc zeroP).heap.size ≤ ga → ga < w1.heap.size → TokRow w1 ga ts → RP w1.heap.size ga ca ts w (.inl ts) (w1.alloc (rdO ga ts.length ca)) := fun w1 ga ca h1 h2 h3 h4 => rp_new rfl h1 h2 h3 h4 hgood hfew hpos
  clear hl
  go_enter Tryz.func10, Tryz.ntmps10
  go_wp2_with fail
  refine hL.mono ?_
  rintro e w1 ⟨⟨v, rfl, hown⟩, hb1⟩
  obtain ⟨ga, ca, rfl, hga, hgl, hcap, hrow⟩ := owns_toks hown hpos
  have hv0 := hnew w1 ga ca hb1 hga hgl hrow
  clear hL hown hb1 hga hrow hnew hcap
  go_upto_region 5 with fail
  generalize w1.alloc (rdO ga ts.length ca) = v0 at *
  clear hgl
  generalize w1.heap.size = b at *
  obtain ⟨si0, shi0, shz0, shz1, shz2⟩ := info_parts slotInfo
  obtain ⟨fi0, fhi0, fhz0, fhz1, fhz2⟩ := info_parts fnInfo

  obtain ⟨t0, r0, rfl, hk0, hx0⟩ := Px.sees_head hs
  have hs1 : seesS 1 [118, 101, 114, 115, 105, 111, 110] (.inl (t0 :: r0)) = true := hs
  have e1 : gotS 1 [118, 101, 114, 115, 105, 111, 110] (.inl (t0 :: r0)) = .inl r0 := by simp only [gotS]; rw [if_pos hs]; rfl
  have hg0 : Px.Good r0 := hgood.tail (by omega)
  obtain rfl : r0 = u :: rr := htl
  replace hres : Aside (res = Px.bind (Px.number (u :: rr)) fun v l2 => Px.bind (Px.need [59] l2) fun _ l3 => Px.parts (l3.length + 1) ⟨v, [], []⟩ l3) := by
    show _ = _
    rw [hres.out]
    simp only [Px.program, Px.needK]
    rw [if_pos hs]; rfl
  go_wp2_with fail
  refine (got_any b ga ca _ _ 1 [118, 101, 114, 115, 105, 111, 110] v0 (by decide) hv0.rs).mono ?_
  rintro e v1 ⟨rfl, hRz, hgz⟩
  rw [e1] at hRz
  rw [hs1]
  have hv1 := hv0.call hgz hRz
  clear hv0 hRz hgz hs1 e1 hs hx0 hgood hpos
  generalize t0 :: u :: rr = ts at *
  go_upto_region 8 with fail
  have hv2 := hv1.below (w' := v1.alloc zeroP) ((Below.refl _ _).alloc (Nat.le_refl _) _)
  have hgq : b < v1.heap.size := hv1.lts.2.1
  have hpb : (v1.alloc zeroP).heap[v1.heap.size]? = some zeroP := heap_new v1 _
  have hgql : v1.heap.size < (v1.alloc zeroP).heap.size := by simp
  generalize v1.alloc zeroP = v2 at *
  clear hv1
  generalize v1.heap.size = gq at *
  obtain ⟨_, Nl, hNl, hr1⟩ := hv2.rs
  obtain ⟨hu, hN2, hlt⟩ := drop_head hNl
  have hltI : (Nl : Int) < (ts.length : Int) := by omega
  obtain ⟨c0, c1, c2, c3, f1, f2, f3⟩ := hr1.cells
  obtain ⟨x0, x1, x2, x3⟩ := hr1.row Nl u hu
  obtain ⟨q1, q2, q3, q4, q5, q6, q7⟩ := hv2.lts
  have hkI : ((u.kind : Int) == 2) = true := by rw [hk2]; rfl
  replace hres : Aside (res = Px.bind (Px.need [59] rr) fun _ l3 => Px.parts (l3.length + 1) ⟨u.num, [], []⟩ l3) := by
    show _ = _
    rw [hres.out, numS_ok hk2]; rfl
  have hgd : Px.Good (u :: rr) := hv2.rs.1
  have hg2r : Px.Good rr := hgd.tail (by omega)
  have hlt2 : Nl + 1 < ts.length := by
    rcases Nat.lt_or_ge (Nl + 1) ts.length with h | h
    · exact h
    · rw [List.drop_eq_nil_of_le h] at hN2; subst hN2; exact absurd hg2r (by simp [Px.Good])
  obtain ⟨p0, p1, p2, k0, k1, k2⟩ := cells_of3 hpb
  have hnbq : gq ≠ b := by omega
  have hnqb : b ≠ gq := by omega
  have hngq : ga ≠ gq := by have := hv2.lo.2; omega
  go_quiet (fail)
  go_upto_region 9 with fail
  have hv3 := hv2.below (w' := v2.drewN nq) ⟨rfl, rfl, rfl, Nat.le_refl _, fun _ _ => rfl⟩
  have hpb3 : (v2.drewN nq).heap[gq]? = some zeroP := hpb
  have hgl3 : gq < (v2.drewN nq).heap.size := hgql
  generalize v2.drewN nq = v3 at *
  clear hv2 hpb hgql c0 c1 c2 c3 f1 f2 f3 x0 x1 x2 x3 p0 p1 p2 k0 k1 k2 q1 q2 q3 q4 q5 q6 q7 hr1 hNl hu hN2 hlt hltI hlt2
  obtain ⟨_, Nl, hNl, hr1⟩ := hv3.rs
  obtain ⟨hu, hN2, hlt⟩ := drop_head hNl
  have hltI : (Nl : Int) < (ts.length : Int) := by omega
  have hlt2 : Nl + 1 < ts.length := by
    rcases Nat.lt_or_ge (Nl + 1) ts.length with h | h
    · exact h
    · rw [List.drop_eq_nil_of_le h] at hN2; subst hN2; exact absurd hg2r (by simp [Px.Good])
  obtain ⟨c0, c1, c2, c3, f1, f2, f3⟩ := hr1.cells
  obtain ⟨x0, x1, x2, x3⟩ := hr1.row Nl u hu
  obtain ⟨q1, q2, q3, q4, q5, q6, q7⟩ := hv3.lts
  obtain ⟨p0, p1, p2, k0, k1, k2⟩ := cells_of3 hpb3
  have hoth : ∀ k, k ≠ gq → ((v3.setCell ⟨gq, 0, none⟩ (.int .i64 u.num)).drew).heap[k]? = v3.heap[k]? := fun k hk => Below.heap_setCell _ _ _ _ hk
  have hv4 : RP b ga ca ts w (.inl (u :: rr)) ((v3.setCell ⟨gq, 0, none⟩ (.int .i64 u.num)).drew) := hv3.keep (gq := gq) hgq (fun k hk => hoth k (by omega)) (by simp [World.setCell]) ⟨rfl, rfl, rfl⟩
  have hp4 : ((v3.setCell ⟨gq, 0, none⟩ (.int .i64 u.num)).drew).heap[gq]? = some (prO u.num (.slice none 0 0) (.slice none 0 0)) := by
    show (v3.setCell ⟨gq, 0, none⟩ (.int .i64 u.num)).heap[gq]? = _
    simp [World.setCell, Array.getElem?_modify, hpb3]
  go_region
  generalize (v3.setCell ⟨gq, 0, none⟩ (.int .i64 u.num)).drew = v4 at *
  clear hv3 hpb3 hgl3 c0 c1 c2 c3 f1 f2 f3 x0 x1 x2 x3 p0 p1 p2 k0 k1 k2 q1 q2 q3 q4 q5 q6 q7 hr1 hNl hu hN2 hlt hltI hlt2 hoth
  obtain ⟨_, Nl, hNl, hr1⟩ := hv4.rs
  obtain ⟨hu, hN2, hlt⟩ := drop_head hNl
  have hltI : (Nl : Int) < (ts.length : Int) := by omega
  have hlt2 : Nl + 1 < ts.length := by
    rcases Nat.lt_or_ge (Nl + 1) ts.length with h | h
    · exact h
    · rw [List.drop_eq_nil_of_le h] at hN2; subst hN2; exact absurd hg2r (by simp [Px.Good])
  obtain ⟨c0, c1, c2, c3, f1, f2, f3⟩ := hr1.cells
  obtain ⟨q1, q2, q3, q4, q5, q6, q7⟩ := hv4.lts
  have hv5 : RP b ga ca ts w (.inl rr) (v4.setCell ⟨b, 1, none⟩ (.int .i64 ((Nl : Int) + 1))) := hv4.call (Fr.set 1 _) ⟨hg2r, Nl + 1, hN2, hr1.fr (Fr.set 1 _) ((set_blk hr1.blk).1 _) hlt2⟩
  have hp5 : (v4.setCell ⟨b, 1, none⟩ (.int .i64 ((Nl : Int) + 1))).heap[gq]? = some (prO u.num (.slice none 0 0) (.slice none 0 0)) := (Below.heap_setCell _ _ _ _ hnbq).trans hp4
  clear hr1
  go_wp2_with fail
  generalize v4.setCell ⟨b, 1, none⟩ (.int .i64 ((Nl : Int) + 1)) = v5 at *
  clear hv4 hp4 c0 c1 c2 c3 f1 f2 f3 q1 q2 q3 q4 q5 q6 q7 hNl hu hN2 hlt hltI hlt2
  have i5 : PPrBox gq ⟨u.num, [], []⟩ v5 := ⟨_, _, [], hp5, ⟨rfl, Or.inl ⟨rfl, rfl⟩⟩, ⟨rfl, Or.inl ⟨rfl, rfl⟩⟩, rfl⟩
  clear hp5
  refine (need_any b ga ca ts _ [59] v5 hv5.rs).mono ?_
  rintro e v6 ⟨rfl, hRz, hgz⟩
  have hv6 := hv5.call hgz hRz
  have i6 := i5.fo hgz.fo hgq
  clear hv5 i5 hRz hgz hkI hk2
  obtain ⟨F, hat⟩ : ∃ F, Aside (PrAt gq res F (needS [59] (.inl rr)) v6) := by
    have hR := hv6.rs
    have hr2 := hres.out
    simp only [needS, lift] at hR ⊢
    rcases hnd : Px.need [59] rr with ⟨y, l3⟩ | fl
    · rw [hnd] at hr2 hR
      exact ⟨l3.length + 1, Or.inl ⟨⟨u.num, [], []⟩, l3, rfl, by omega, by have := RS.few hR; simpa using this, i6, hr2⟩⟩
    · rw [hnd] at hr2
      exact ⟨0, Or.inr ⟨fl, rfl, hr2⟩⟩
  clear hres i6
  generalize needS [59] (.inl rr) = S3 at *
  go_wp2_with fail
  go_loopg [] F (fun g wr => ∃ S' : RSt, RP b ga ca ts w S' wr ∧ Aside (PrAt gq res g S' wr))
  case atStart => exact ⟨S3, hv6, hat⟩
  case round =>
    clear hv6 hat
    obtain ⟨S', hR, hat⟩ := hrel
    rcases S' with l' | ⟨pp, er⟩
    case inr =>
      have hrr : Aside (res = .inr (pp, er)) := by
        show _ = _
        rcases hat.out with ⟨p, l2, h1, _⟩ | ⟨fl, h1, h2⟩
        · simp at h1
        · simp at h1; rw [h2, ← h1]
      clear hat
      obtain ⟨N9, p9, er9, hr9, hcase⟩ := hR.rs.at
      obtain ⟨c0, c1, c2, c3, f1, f2, f3⟩ := hr9.cells
      clear hr9
      rcases hcase with ⟨_, l9, h9⟩ | ⟨h0, h9⟩
      · simp at h9
      simp at h9
      obtain ⟨h91, h92⟩ := h9
      subst h91 h92
      have her : ((er : Int) == 0) = false := by simp; omega
      have her2 : ((er : Int) != 0) = true := by simp; omega
      obtain ⟨q1, q2, q3, q4, q5, q6, q7⟩ := hR.lts
      go_wp2_with fail
      go_quiet (fail)
      have hQ := hR.below (w' := wr.drewN nq) ⟨rfl, rfl, rfl, Nat.le_refl _, fun _ _ => rfl⟩
      go_upto_region 22 with fail
      generalize wr.drewN nq = wq at *
      clear hR c0 c1 c2 c3 f1 f2 f3 q1 q2 q3 q4 q5 q6 q7
      obtain ⟨N9, p9, er9, hr9, hcase⟩ := hQ.rs.at
      obtain ⟨c0, c1, c2, c3, f1, f2, f3⟩ := hr9.cells
      clear hr9
      rcases hcase with ⟨_, l9, h9⟩ | ⟨_, h9⟩
      · simp at h9
      simp at h9
      obtain ⟨h91, h92⟩ := h9
      subst h91 h92
      obtain ⟨q1, q2, q3, q4, q5, q6, q7⟩ := hQ.lts
      obtain ⟨e0, e1, e2, m0, m1, m2⟩ := cells_of3 hQ.out
      have hend : ParsePost (fin res) w (.returned (.tuple #[zeroPr, .int .i64 pp, .int .i64 er])) (w3 wq w.heap.size (.int .i64 0) (.slice none 0 0) (.slice none 0 0)).drew := by
        have h9 := hQ.bad hrr.out
        rw [hrr.out] at h9 ⊢
        exact ⟨h9.1, ⟨h9.2.os, h9.2.tape, h9.2.output, h9.2.size, fun k hk => h9.2.block k hk⟩⟩
      clear hQ hrr
      go_wp2_with fail
      go_region
      all_goals
        go_wp2
        exact bodyPost_ret (v := .tuple #[zeroPr, .int .i64 pp, .int .i64 er]) (by simp [results, Tryz.results10, go_sem, e0, e1, e2]) rfl hend
    case inl =>
      obtain ⟨p, hlf, hcnt, i6, hch⟩ : ∃ p, l'.length < gk ∧ p.states.length + p.fns.length + l'.length ≤ 4096 ∧ PPrBox gq p wr ∧ res = Px.parts gk p l' := by
        rcases hat.out with ⟨p, l2, h1, h2, h3, h4, h5⟩ | ⟨fl, h1, _⟩
        · simp at h1; subst h1; exact ⟨p, h2, h3, h4, h5⟩
        · simp at h1
      obtain ⟨F', rfl⟩ : ∃ F', gk = F' + 1 := ⟨gk - 1, by omega⟩
      have hgd : Px.Good l' := hR.rs.1
      obtain ⟨t, r, rfl⟩ : ∃ t r, l' = t :: r := by
        cases l' with
        | nil => exact absurd hgd (by simp [Px.Good])
        | cons t r => exact ⟨t, r, rfl⟩
      rw [parts_as] at hch
      obtain ⟨_, Nl, hNl, hr1⟩ := hR.rs
      obtain ⟨hu, hN2, hlt⟩ := drop_head hNl
      have hltI : (Nl : Int) < (ts.length : Int) := by omega
      obtain ⟨c0, c1, c2, c3, f1, f2, f3⟩ := hr1.cells
      obtain ⟨x0, x1, x2, x3⟩ := hr1.row Nl t hu
      obtain ⟨q1, q2, q3, q4, q5, q6, q7⟩ := hR.lts
      simp only [List.length_cons] at hlf hcnt
      clear hr1 hNl hu hN2 hat
      by_cases hk : t.kind = 5
      · have hkI : ((t.kind : Int) != 5) = false := by simp; omega
        have hr9 : Aside (res = .inl (p, t :: r)) := by show _ = _; rw [hch, if_pos hk]
        clear hk hch
        go_wp2_with fail
        go_quiet (fail)
        have hQ := hR.below (w' := wr.drewN nq) ⟨rfl, rfl, rfl, Nat.le_refl _, fun _ _ => rfl⟩
        have iQ := i6.fo (w' := wr.drewN nq) (Fo.of_below (b := b) ⟨rfl, rfl, rfl, Nat.le_refl _, fun _ _ => rfl⟩) hgq
        go_upto_region 22 with fail
        generalize wr.drewN nq = wq at *
        clear hR i6 c0 c1 c2 c3 f1 f2 f3 x0 x1 x2 x3 q1 q2 q3 q4 q5 q6 q7 hlt hltI hkI
        obtain ⟨_, Nl, hNl, hr1⟩ := hQ.rs
        obtain ⟨c0, c1, c2, c3, f1, f2, f3⟩ := hr1.cells
        clear hr1 hNl
        obtain ⟨q1, q2, q3, q4, q5, q6, q7⟩ := hQ.lts
        obtain ⟨ss, fs, rf, x1, x2, x3, x4⟩ := iQ.box
        obtain ⟨sa, sc, rfl⟩ := slice_of x2
        obtain ⟨fa, fc, rfl⟩ := slice_of x3
        have hend := hQ.good hr9.out hgq x2 x3 x4
        have hlq : gq < wq.heap.size := (Array.getElem?_eq_some_iff.1 x1).1
        obtain ⟨y0, y1, y2, _⟩ := cells_of3 x1
        obtain ⟨e0, e1, e2, m0, m1, m2⟩ := cells_of3 hQ.out
        have hne1 : gq ≠ w.heap.size := by omega
        have hne2 : w.heap.size ≠ gq := by omega
        clear hQ iQ x1 x2 x3 x4 hr9
        go_wp2
        exact bodyPost_ret (v := .tuple #[pV p.version (.slice sa p.states.length sc) (.slice fa p.fns.length fc), .int .i64 0, .int .i64 0]) (by simp [results, Tryz.results10, go_sem, e0, e1, e2]) rfl hend
      · have hkI : ((t.kind : Int) != 5) = true := by simp; omega
        have hgr : Px.Good r := hgd.tail hk
        have hrr : Aside (res = Px.bind (itemR p (t :: r)) fun p' l' => Px.parts F' p' l') := by show _ = _; rw [hch, if_neg hk]
        clear hk hch
        go_wp2_with fail
        go_quiet (fail)
        have hQ := hR.below (w' := wr.drewN nq) ⟨rfl, rfl, rfl, Nat.le_refl _, fun _ _ => rfl⟩
        have iQ := i6.fo (w' := wr.drewN nq) (Fo.of_below (b := b) ⟨rfl, rfl, rfl, Nat.le_refl _, fun _ _ => rfl⟩) hgq
        go_upto_region 14 with fail
        generalize wr.drewN nq = wq at *
        clear hR i6 c0 c1 c2 c3 f1 f2 f3 x0 x1 x2 x3 q1 q2 q3 q4 q5 q6 q7 hlt hltI hkI
        go_wp2_with fail
        refine (got_any b ga ca ts _ 1 [115, 116, 97, 116, 101] wq (by decide) hQ.rs).mono ?_
        rintro e wA ⟨rfl, hRz, hgz⟩
        have hT := hQ.call hgz hRz
        have i6 := iQ.fo hgz.fo hgq
        clear hQ iQ hRz hgz
        rcases hs1 : seesS 1 [115, 116, 97, 116, 101] (.inl (t :: r)) with _ | _
        case true =>
          have hsee : Px.sees 1 [115, 116, 97, 116, 101] (t :: r) = true := hs1
          have e1 : gotS 1 [115, 116, 97, 116, 101] (.inl (t :: r)) = .inl r := by simp only [gotS]; rw [if_pos hsee]; rfl
          rw [e1] at hT
          replace hrr : Aside (res = Px.bind (Px.slot r) fun s l1 => Px.bind (Px.need [59] l1) fun _ l2 => Px.parts F' { p with states := p.states ++ [s] } l2) := by
            show _ = _
            rw [hrr.out]; unfold itemR; rw [if_pos hsee]; simp only [bind_assoc, pbind_inl, List.tail_cons]
          clear e1 hsee hs1
          obtain ⟨q1, q2, q3, q4, q5, q6, q7⟩ := hT.lts
          have hgab := hT.lo.2
          obtain ⟨ss, fs, rf, x1, x2, x3, x4⟩ := i6.box
          obtain ⟨sa, sc, rfl⟩ := slice_of x2
          obtain ⟨fa, fc, rfl⟩ := slice_of x3
          have hlq : gq < wA.heap.size := (Array.getElem?_eq_some_iff.1 x1).1
          have c6 := (cells_of3 x1).2.1
          have hRd := hT.rs.drewN 1
          go_wp2_with fail
          refine wpE_begin (S := fun w' => w'.cell? ⟨gq, 1, none⟩ = some (.slice sa p.states.length sc)) (N := fun j => decide (j < 6)) (by kernel_rfl) ?_
          have hS0 : wA.drew.cell? ⟨gq, 1, none⟩ = some (.slice sa p.states.length sc) := c6
          refine wpE_take (i := 0) (v := .pointer (some ⟨gq, 1, none⟩)) rfl (by kernel_rfl) (by kernel_rfl) (by kernel_rfl) (by kernel_rfl) (fun _ _ _ h => h) rfl (fun w' hS => by have s1 := hS; go_simp) hS0 ?_
          try simp only [Act.put, List.setIfInBounds_toArray, List.set_cons_zero, List.set_cons_succ]
          refine wpE_take (i := 2) (v := .pointer (some ⟨b, 0, none⟩)) rfl (by kernel_rfl) (by kernel_rfl) (by kernel_rfl) (by kernel_rfl) (fun _ _ _ h => h) rfl (fun w' hS => by have s1 := hS; go_simp) hS0 ?_
          try simp only [Act.put, List.setIfInBounds_toArray, List.set_cons_zero, List.set_cons_succ]
          refine wpE_take (i := 1) (v := .slice sa p.states.length sc) rfl (by kernel_rfl) (by kernel_rfl) (by kernel_rfl) (by kernel_rfl) (fun _ _ _ h => h) rfl (fun w' hS => by have s1 := hS; go_simp) hS0 ?_
          try simp only [Act.put, List.setIfInBounds_toArray, List.set_cons_zero, List.set_cons_succ]
          refine wpE_one (i := 3) (by kernel_rfl) rfl rfl (fun K hK => ?_)
          go_simp
          refine (slot_any b ga ca ts _ _ hRd).mono ?_
          rintro e w4 ⟨sn, sy, sp, rfl, hR4, hg4, hx4⟩
          have hgQ4 : Fr b wA w4 := (Fr.drewN b wA 1).trans hg4
          have h4 := hT.call hgQ4 hR4
          have y1 := (hgQ4.block gq hlq (by omega)).trans x1
          have own4 := owns_fo x2 hgQ4.fo (by omega)
          have y6 := (cells_of3 y1).2.1
          have l4 : gq < w4.heap.size := by have := hgQ4.size; omega
          refine hK _ _ (fun _ => y6) ?_
          clear hK K
          try simp only [Act.put, List.setIfInBounds_toArray, List.set_cons_zero, List.set_cons_succ]
          refine wpE_one (i := 4) (by kernel_rfl) rfl rfl (fun K hK => ?_)
          go_simp
          refine hK _ _ (fun _ => (World.cell?_of_block (w := w4) (heap_old l4)).trans y6) ?_
          clear hK K
          try simp only [Act.put, List.setIfInBounds_toArray, List.set_cons_zero, List.set_cons_succ]
          refine wpE_one (i := 5) (by kernel_rfl) rfl rfl (fun K hK => ?_)
          refine wp_append_lies _ (.tmp 94) (.tmp 97) 23 rfl (gq + 1) 64 si0 _ 3 40 Tryz.underlying23 shi0 shz0 shz1 shz2 rfl (by omega) (.slice sa p.states.length sc) p.states.length (p.states.flatMap slCells) rfl (own4.alloc _) ⟨w4.heap.size, 0, none⟩ 1 1 [.string ⟨sn.toArray⟩, .string ⟨sy.toArray⟩, .int .i64 sp] rfl rfl (World.news_of_block (heap_new w4 _)) (by simp [Value.oneCell']) (by omega) (by unfold maxLen; omega) (by omega) (by simp; omega) (w4.heap.size + 1) (by simp) ?_
          intro g cap5 w5 hown5 hgrow hat5 hlt5
          have hG := grewB hgrow hat5
          have far : some gq ≠ (Value.slice sa p.states.length sc).ownBlock := fun e => by have := (own4.lt gq e.symm).1; omega
          have hb5 : w5.heap[gq]? = w4.heap[gq]? := hG.block gq l4 far
          have z6 : w5.cell? ⟨gq, 1, none⟩ = some (.slice sa p.states.length sc) := (World.cell?_of_block (w := w4) hb5).trans y6
          have zf : w5.frozen? ⟨gq, 1, none⟩ = false := (World.frozen?_of_block (w := w4) hb5).trans (by simp [World.frozen?, y1])
          refine hK _ _ (fun _ => z6) ?_
          clear hK K
          try simp only [Act.put, List.setIfInBounds_toArray, List.set_cons_zero, List.set_cons_succ]
          refine wpE_takeL (i := 6) (v := .pointer (some ⟨gq, 1, none⟩)) rfl (by kernel_rfl) (by kernel_rfl) (by kernel_rfl) rfl (fun _ _ _ h => h) rfl (fun w' => by go_simp) ?_
          try simp only [Act.put, List.setIfInBounds_toArray, List.set_cons_zero, List.set_cons_succ]
          refine wpE_one (i := 7) (by kernel_rfl) rfl rfl (fun K hK => ?_)
          go_simp
          refine hK _ _ (fun h => absurd h (by decide)) (wpE_done (by kernel_rfl) ?_)
          clear hK K

          obtain ⟨hbx, ⟨hold, hs6⟩, hfo⟩ := rbox_state (n := w.heap.size) (s := (⟨sn, sy, sp⟩ : Px.Sl)) hgq (by omega : ga < gq) (by omega) (by omega) x1 x2 x3 x4 hgQ4.fo hG hown5
          have ho6 : (w5.setCell ⟨gq, 1, none⟩ (.slice (some ⟨g, 0, none⟩) (p.states.length + 1) cap5)).os = w4.os ∧ (w5.setCell ⟨gq, 1, none⟩ (.slice (some ⟨g, 0, none⟩) (p.states.length + 1) cap5)).tape = w4.tape ∧ (w5.setCell ⟨gq, 1, none⟩ (.slice (some ⟨g, 0, none⟩) (p.states.length + 1) cap5)).output = w4.output := ⟨hG.os, hG.tape, hG.output⟩
          have h9 := h4.keep hgq hold hs6 ho6
          generalize w5.setCell ⟨gq, 1, none⟩ (.slice (some ⟨g, 0, none⟩) (p.states.length + 1) cap5) = wE at *
          clear hT i6 x1 x2 x3 x4 h4 hG hown5 hR4 hg4 hgQ4 hgrow hat5 hlt5 far hb5 z6 zf y6 y1 own4 l4 c6 hRd hS0 hold hs6 ho6 hfo hlq q1 q2 q3 q4 q5 q6 q7
          go_wp2_with fail
          refine (need_any b ga ca ts _ [59] wE h9.rs).mono ?_
          rintro e wG ⟨rfl, hRz, hgz⟩
          have hG9 := h9.call hgz hRz
          have iG := hbx.fo hgz.fo hgq
          clear h9 hbx hRz hgz
          go_wp2
          go_roundg F'
          case measure => omega
          case rel =>
            refine ⟨_, hG9, ?_⟩
            show PrAt _ _ _ _ _
            have hr2 := hrr.out
            simp only [lift] at hx4 ⊢
            rcases hq : Px.slot r with ⟨x, l1⟩ | fl
            · have ha := (Px.slot_ok r hgr).ok x l1 hq
              have hx := hx4 x l1 hq
              have h1 := ha.less
              rw [hq] at hr2
              simp only [st, needS, lift, Px.bind] at hr2 ⊢
              rcases hnd : Px.need [59] l1 with ⟨y, l2⟩ | fl
              · have hb := (Px.need_res ha.good).ok y l2 hnd
                have h2 := hb.less
                rw [hnd] at hr2
                refine Or.inl ⟨{ p with states := p.states ++ [x] }, l2, rfl, by omega, by simp; omega, ?_, hr2⟩
                rw [hx]; exact iG
              · rw [hnd] at hr2
                exact Or.inr ⟨fl, rfl, hr2⟩
            · rw [hq] at hr2
              exact Or.inr ⟨fl, rfl, hr2⟩
        case false =>
          rw [gotS_no hs1] at hT
          replace hrr : Aside (res = Px.bind (if Px.sees 1 [102, 110] (t :: r) then Px.bind (Px.function false r) fun g l1 => .inl ({ p with fns := p.fns ++ [g] }, l1) else if Px.sees 1 [111, 110] (t :: r) then Px.bind (Px.function true r) fun g l1 => .inl ({ p with fns := p.fns ++ [g] }, l1) else Px.fail 31 (t :: r)) fun p' l' => Px.parts F' p' l') := by
            show _ = _
            rw [hrr.out]; unfold itemR; rw [if_neg (by rw [show Px.sees 1 [115, 116, 97, 116, 101] (t :: r) = false from hs1]; simp)]; rfl
          clear hs1
          have hQ := hT
          have iQ := i6
          clear hT i6
          generalize wA = wq2 at *
          go_wp2_with fail
          refine (got_any b ga ca ts _ 1 [102, 110] wq2 (by decide) hQ.rs).mono ?_
          rintro e wA ⟨rfl, hRz, hgz⟩
          have hT := hQ.call hgz hRz
          have i6 := iQ.fo hgz.fo hgq
          clear hQ iQ hRz hgz
          rcases hs1 : seesS 1 [102, 110] (.inl (t :: r)) with _ | _
          case true =>
            have hsee : Px.sees 1 [102, 110] (t :: r) = true := hs1
            have e1 : gotS 1 [102, 110] (.inl (t :: r)) = .inl r := by simp only [gotS]; rw [if_pos hsee]; rfl
            rw [e1] at hT
            replace hrr : Aside (res = Px.bind (Px.function false r) fun g l1 => Px.parts F' { p with fns := p.fns ++ [g] } l1) := by
              show _ = _
              rw [hrr.out, if_pos hsee]; simp only [bind_assoc, pbind_inl]
            clear e1 hsee hs1
            obtain ⟨q1, q2, q3, q4, q5, q6, q7⟩ := hT.lts
            have hgab := hT.lo.2
            obtain ⟨ss, fs, rf, x1, x2, x3, x4⟩ := i6.box
            obtain ⟨sa, sc, rfl⟩ := slice_of x2
            obtain ⟨fa, fc, rfl⟩ := slice_of x3
            have hlq : gq < wA.heap.size := (Array.getElem?_eq_some_iff.1 x1).1
            have c6 := (cells_of3 x1).2.2.1
            have hRd := hT.rs.drewN 1
            go_wp2_with fail
            refine wpE_begin (S := fun w' => w'.cell? ⟨gq, 2, none⟩ = some (.slice fa p.fns.length fc)) (N := fun j => decide (j < 6)) (by kernel_rfl) ?_
            have hS0 : wA.drew.cell? ⟨gq, 2, none⟩ = some (.slice fa p.fns.length fc) := c6
            refine wpE_take (i := 0) (v := .pointer (some ⟨gq, 2, none⟩)) rfl (by kernel_rfl) (by kernel_rfl) (by kernel_rfl) (by kernel_rfl) (fun _ _ _ h => h) rfl (fun w' hS => by have s1 := hS; go_simp) hS0 ?_
            try simp only [Act.put, List.setIfInBounds_toArray, List.set_cons_zero, List.set_cons_succ]
            refine wpE_take (i := 2) (v := .pointer (some ⟨b, 0, none⟩)) rfl (by kernel_rfl) (by kernel_rfl) (by kernel_rfl) (by kernel_rfl) (fun _ _ _ h => h) rfl (fun w' hS => by have s1 := hS; go_simp) hS0 ?_
            try simp only [Act.put, List.setIfInBounds_toArray, List.set_cons_zero, List.set_cons_succ]
            refine wpE_take (i := 1) (v := .slice fa p.fns.length fc) rfl (by kernel_rfl) (by kernel_rfl) (by kernel_rfl) (by kernel_rfl) (fun _ _ _ h => h) rfl (fun w' hS => by have s1 := hS; go_simp) hS0 ?_
            try simp only [Act.put, List.setIfInBounds_toArray, List.set_cons_zero, List.set_cons_succ]
            refine wpE_one (i := 3) (by kernel_rfl) rfl rfl (fun K hK => ?_)
            go_simp
            refine (rfn_any b ga ca ts false _ _ hRd).mono ?_
            rintro e w4 ⟨nm, on2, a1, n1, c1, y, a2, n2, c2, pl, rfl, hR4, hg4, hx4⟩
            have hgQ4 : Fr b wA w4 := (Fr.drewN b wA 1).trans hg4
            have h4 := hT.call hgQ4 hR4
            have y1 := (hgQ4.block gq hlq (by omega)).trans x1
            have own4 := owns_fo x3 hgQ4.fo (by omega)
            have y6 := (cells_of3 y1).2.2.1
            have l4 : gq < w4.heap.size := by have := hgQ4.size; omega
            refine hK _ _ (fun _ => y6) ?_
            clear hK K
            try simp only [Act.put, List.setIfInBounds_toArray, List.set_cons_zero, List.set_cons_succ]
            refine wpE_one (i := 4) (by kernel_rfl) rfl rfl (fun K hK => ?_)
            go_simp
            refine hK _ _ (fun _ => (World.cell?_of_block (w := w4) (heap_old l4)).trans y6) ?_
            clear hK K
            try simp only [Act.put, List.setIfInBounds_toArray, List.set_cons_zero, List.set_cons_succ]
            refine wpE_one (i := 5) (by kernel_rfl) rfl rfl (fun K hK => ?_)
            refine wp_append_lies _ (.tmp 105) (.tmp 108) 24 rfl (gq + 1) 46 fi0 _ 7 120 Tryz.underlying24 fhi0 fhz0 fhz1 fhz2 rfl (by omega) (.slice fa p.fns.length fc) p.fns.length rf rfl (own4.alloc _) ⟨w4.heap.size, 0, none⟩ 1 1 (fL nm on2 (.slice a1 n1 c1) y (.slice a2 n2 c2) pl) rfl rfl (World.news_of_block (heap_new w4 _)) (by simp [Value.oneCell']) (by omega) (by unfold maxLen; omega) (by omega) (by simp; omega) (w4.heap.size + 1) (by simp) ?_
            intro g cap5 w5 hown5 hgrow hat5 hlt5
            have hG := grewB hgrow hat5
            have far : some gq ≠ (Value.slice fa p.fns.length fc).ownBlock := fun e => by have := (own4.lt gq e.symm).1; omega
            have hb5 : w5.heap[gq]? = w4.heap[gq]? := hG.block gq l4 far
            have z6 : w5.cell? ⟨gq, 2, none⟩ = some (.slice fa p.fns.length fc) := (World.cell?_of_block (w := w4) hb5).trans y6
            have zf : w5.frozen? ⟨gq, 2, none⟩ = false := (World.frozen?_of_block (w := w4) hb5).trans (by simp [World.frozen?, y1])
            refine hK _ _ (fun _ => z6) ?_
            clear hK K
            try simp only [Act.put, List.setIfInBounds_toArray, List.set_cons_zero, List.set_cons_succ]
            refine wpE_takeL (i := 6) (v := .pointer (some ⟨gq, 2, none⟩)) rfl (by kernel_rfl) (by kernel_rfl) (by kernel_rfl) rfl (fun _ _ _ h => h) rfl (fun w' => by go_simp) ?_
            try simp only [Act.put, List.setIfInBounds_toArray, List.set_cons_zero, List.set_cons_succ]
            refine wpE_one (i := 7) (by kernel_rfl) rfl rfl (fun K hK => ?_)
            go_simp
            refine hK _ _ (fun h => absurd h (by decide)) (wpE_done (by kernel_rfl) ?_)
            clear hK K

            obtain ⟨hbx, ⟨hold, hs6⟩, hfo⟩ := rbox_fn (n := w.heap.size) (cs := fL nm on2 (.slice a1 n1 c1) y (.slice a2 n2 c2) pl) hgq (by omega : ga < gq) (by omega) (by omega) x1 x2 x3 x4 hgQ4.fo hG hown5
            have ho6 : (w5.setCell ⟨gq, 2, none⟩ (.slice (some ⟨g, 0, none⟩) (p.fns.length + 1) cap5)).os = w4.os ∧ (w5.setCell ⟨gq, 2, none⟩ (.slice (some ⟨g, 0, none⟩) (p.fns.length + 1) cap5)).tape = w4.tape ∧ (w5.setCell ⟨gq, 2, none⟩ (.slice (some ⟨g, 0, none⟩) (p.fns.length + 1) cap5)).output = w4.output := ⟨hG.os, hG.tape, hG.output⟩
            have h9 := h4.keep hgq hold hs6 ho6
            generalize w5.setCell ⟨gq, 2, none⟩ (.slice (some ⟨g, 0, none⟩) (p.fns.length + 1) cap5) = wE at *
            clear hT i6 x1 x2 x3 x4 h4 hG hown5 hR4 hg4 hgQ4 hgrow hat5 hlt5 far hb5 z6 zf y6 y1 own4 l4 c6 hRd hS0 hold hs6 ho6 hfo hlq q1 q2 q3 q4 q5 q6 q7
            go_wp2
            go_roundg F'
            case measure => omega
            case rel =>
              refine ⟨_, h9, ?_⟩
              show PrAt _ _ _ _ _
              have hr2 := hrr.out
              simp only [lift] at hx4 ⊢
              rcases hq : Px.function false r with ⟨x, l1⟩ | fl
              · have ha := (Px.function_ok false r hgr).ok x l1 hq
                have h1 := ha.less
                rw [hq] at hr2
                exact Or.inl ⟨{ p with fns := p.fns ++ [x] }, l1, rfl, by omega, by simp; omega, hbx x (hx4 x l1 hq), hr2⟩
              · rw [hq] at hr2
                exact Or.inr ⟨fl, rfl, hr2⟩
          case false =>
            rw [gotS_no hs1] at hT
            replace hrr : Aside (res = Px.bind (if Px.sees 1 [111, 110] (t :: r) then Px.bind (Px.function true r) fun g l1 => .inl ({ p with fns := p.fns ++ [g] }, l1) else Px.fail 31 (t :: r)) fun p' l' => Px.parts F' p' l') := by
              show _ = _
              rw [hrr.out, if_neg (by rw [show Px.sees 1 [102, 110] (t :: r) = false from hs1]; simp)]
            clear hs1
            have hQ := hT
            have iQ := i6
            clear hT i6
            generalize wA = wq3 at *
            go_wp2_with fail
            refine (got_any b ga ca ts _ 1 [111, 110] wq3 (by decide) hQ.rs).mono ?_
            rintro e wA ⟨rfl, hRz, hgz⟩
            have hT := hQ.call hgz hRz
            have i6 := iQ.fo hgz.fo hgq
            clear hQ iQ hRz hgz
            rcases hs1 : seesS 1 [111, 110] (.inl (t :: r)) with _ | _
            case true =>
              have hsee : Px.sees 1 [111, 110] (t :: r) = true := hs1
              have e1 : gotS 1 [111, 110] (.inl (t :: r)) = .inl r := by simp only [gotS]; rw [if_pos hsee]; rfl
              rw [e1] at hT
              replace hrr : Aside (res = Px.bind (Px.function true r) fun g l1 => Px.parts F' { p with fns := p.fns ++ [g] } l1) := by
                show _ = _
                rw [hrr.out, if_pos hsee]; simp only [bind_assoc, pbind_inl]
              clear e1 hsee hs1
              obtain ⟨q1, q2, q3, q4, q5, q6, q7⟩ := hT.lts
              have hgab := hT.lo.2
              obtain ⟨ss, fs, rf, x1, x2, x3, x4⟩ := i6.box
              obtain ⟨sa, sc, rfl⟩ := slice_of x2
              obtain ⟨fa, fc, rfl⟩ := slice_of x3
              have hlq : gq < wA.heap.size := (Array.getElem?_eq_some_iff.1 x1).1
              have c6 := (cells_of3 x1).2.2.1
              have hRd := hT.rs.drewN 1
              go_wp2_with fail
              refine wpE_begin (S := fun w' => w'.cell? ⟨gq, 2, none⟩ = some (.slice fa p.fns.length fc)) (N := fun j => decide (j < 6)) (by kernel_rfl) ?_
              have hS0 : wA.drew.cell? ⟨gq, 2, none⟩ = some (.slice fa p.fns.length fc) := c6
              refine wpE_take (i := 0) (v := .pointer (some ⟨gq, 2, none⟩)) rfl (by kernel_rfl) (by kernel_rfl) (by kernel_rfl) (by kernel_rfl) (fun _ _ _ h => h) rfl (fun w' hS => by have s1 := hS; go_simp) hS0 ?_
              try simp only [Act.put, List.setIfInBounds_toArray, List.set_cons_zero, List.set_cons_succ]
              refine wpE_take (i := 2) (v := .pointer (some ⟨b, 0, none⟩)) rfl (by kernel_rfl) (by kernel_rfl) (by kernel_rfl) (by kernel_rfl) (fun _ _ _ h => h) rfl (fun w' hS => by have s1 := hS; go_simp) hS0 ?_
              try simp only [Act.put, List.setIfInBounds_toArray, List.set_cons_zero, List.set_cons_succ]
              refine wpE_take (i := 1) (v := .slice fa p.fns.length fc) rfl (by kernel_rfl) (by kernel_rfl) (by kernel_rfl) (by kernel_rfl) (fun _ _ _ h => h) rfl (fun w' hS => by have s1 := hS; go_simp) hS0 ?_
              try simp only [Act.put, List.setIfInBounds_toArray, List.set_cons_zero, List.set_cons_succ]
              refine wpE_one (i := 3) (by kernel_rfl) rfl rfl (fun K hK => ?_)
              go_simp
              refine (rfn_any b ga ca ts true _ _ hRd).mono ?_
              rintro e w4 ⟨nm, on2, a1, n1, c1, y, a2, n2, c2, pl, rfl, hR4, hg4, hx4⟩
              have hgQ4 : Fr b wA w4 := (Fr.drewN b wA 1).trans hg4
              have h4 := hT.call hgQ4 hR4
              have y1 := (hgQ4.block gq hlq (by omega)).trans x1
              have own4 := owns_fo x3 hgQ4.fo (by omega)
              have y6 := (cells_of3 y1).2.2.1
              have l4 : gq < w4.heap.size := by have := hgQ4.size; omega
              refine hK _ _ (fun _ => y6) ?_
              clear hK K
              try simp only [Act.put, List.setIfInBounds_toArray, List.set_cons_zero, List.set_cons_succ]
              refine wpE_one (i := 4) (by kernel_rfl) rfl rfl (fun K hK => ?_)
              go_simp
              refine hK _ _ (fun _ => (World.cell?_of_block (w := w4) (heap_old l4)).trans y6) ?_
              clear hK K
              try simp only [Act.put, List.setIfInBounds_toArray, List.set_cons_zero, List.set_cons_succ]
              refine wpE_one (i := 5) (by kernel_rfl) rfl rfl (fun K hK => ?_)
              refine wp_append_lies _ (.tmp 114) (.tmp 117) 24 rfl (gq + 1) 46 fi0 _ 7 120 Tryz.underlying24 fhi0 fhz0 fhz1 fhz2 rfl (by omega) (.slice fa p.fns.length fc) p.fns.length rf rfl (own4.alloc _) ⟨w4.heap.size, 0, none⟩ 1 1 (fL nm on2 (.slice a1 n1 c1) y (.slice a2 n2 c2) pl) rfl rfl (World.news_of_block (heap_new w4 _)) (by simp [Value.oneCell']) (by omega) (by unfold maxLen; omega) (by omega) (by simp; omega) (w4.heap.size + 1) (by simp) ?_
              intro g cap5 w5 hown5 hgrow hat5 hlt5
              have hG := grewB hgrow hat5
              have far : some gq ≠ (Value.slice fa p.fns.length fc).ownBlock := fun e => by have := (own4.lt gq e.symm).1; omega
              have hb5 : w5.heap[gq]? = w4.heap[gq]? := hG.block gq l4 far
              have z6 : w5.cell? ⟨gq, 2, none⟩ = some (.slice fa p.fns.length fc) := (World.cell?_of_block (w := w4) hb5).trans y6
              have zf : w5.frozen? ⟨gq, 2, none⟩ = false := (World.frozen?_of_block (w := w4) hb5).trans (by simp [World.frozen?, y1])
              refine hK _ _ (fun _ => z6) ?_
              clear hK K
              try simp only [Act.put, List.setIfInBounds_toArray, List.set_cons_zero, List.set_cons_succ]
              refine wpE_takeL (i := 6) (v := .pointer (some ⟨gq, 2, none⟩)) rfl (by kernel_rfl) (by kernel_rfl) (by kernel_rfl) rfl (fun _ _ _ h => h) rfl (fun w' => by go_simp) ?_
              try simp only [Act.put, List.setIfInBounds_toArray, List.set_cons_zero, List.set_cons_succ]
              refine wpE_one (i := 7) (by kernel_rfl) rfl rfl (fun K hK => ?_)
              go_simp
              refine hK _ _ (fun h => absurd h (by decide)) (wpE_done (by kernel_rfl) ?_)
              clear hK K

              obtain ⟨hbx, ⟨hold, hs6⟩, hfo⟩ := rbox_fn (n := w.heap.size) (cs := fL nm on2 (.slice a1 n1 c1) y (.slice a2 n2 c2) pl) hgq (by omega : ga < gq) (by omega) (by omega) x1 x2 x3 x4 hgQ4.fo hG hown5
              have ho6 : (w5.setCell ⟨gq, 2, none⟩ (.slice (some ⟨g, 0, none⟩) (p.fns.length + 1) cap5)).os = w4.os ∧ (w5.setCell ⟨gq, 2, none⟩ (.slice (some ⟨g, 0, none⟩) (p.fns.length + 1) cap5)).tape = w4.tape ∧ (w5.setCell ⟨gq, 2, none⟩ (.slice (some ⟨g, 0, none⟩) (p.fns.length + 1) cap5)).output = w4.output := ⟨hG.os, hG.tape, hG.output⟩
              have h9 := h4.keep hgq hold hs6 ho6
              generalize w5.setCell ⟨gq, 2, none⟩ (.slice (some ⟨g, 0, none⟩) (p.fns.length + 1) cap5) = wE at *
              clear hT i6 x1 x2 x3 x4 h4 hG hown5 hR4 hg4 hgQ4 hgrow hat5 hlt5 far hb5 z6 zf y6 y1 own4 l4 c6 hRd hS0 hold hs6 ho6 hfo hlq q1 q2 q3 q4 q5 q6 q7
              go_wp2
              go_roundg F'
              case measure => omega
              case rel =>
                refine ⟨_, h9, ?_⟩
                show PrAt _ _ _ _ _
                have hr2 := hrr.out
                simp only [lift] at hx4 ⊢
                rcases hq : Px.function true r with ⟨x, l1⟩ | fl
                · have ha := (Px.function_ok true r hgr).ok x l1 hq
                  have h1 := ha.less
                  rw [hq] at hr2
                  exact Or.inl ⟨{ p with fns := p.fns ++ [x] }, l1, rfl, by omega, by simp; omega, hbx x (hx4 x l1 hq), hr2⟩
                · rw [hq] at hr2
                  exact Or.inr ⟨fl, rfl, hr2⟩
            case false =>
              rw [gotS_no hs1] at hT
              replace hrr : Aside (res = .inr (t.place, 31)) := by
                show _ = _
                rw [hrr.out, if_neg (by rw [show Px.sees 1 [111, 110] (t :: r) = false from hs1]; simp)]; rfl
              clear hs1 i6
              go_wp2_with fail
              refine (fail_any b ga ca ts _ 31 wA (by decide) hT.rs).mono ?_
              rintro e wG ⟨rfl, hRz, hgz⟩
              have hG9 := hT.call hgz hRz
              clear hT hRz hgz
              go_wp2
              go_roundg F'
              case measure => omega
              case rel =>
                refine ⟨_, hG9, ?_⟩
                show PrAt _ _ _ _ _
                exact Or.inr ⟨_, rfl, hrr.out⟩
end Go.Proofs.YtnmdnjdibdmodaaGreatDoor
/- The document's Parse answers what the plain mathematics says, of every text. -/
namespace Go.Proofs.YtnmdnjdibdmodaaGreatDoor
open Go.RowKit
set_option linter.unusedSimpArgs false
set_option linter.unusedVariables false

set_option maxRecDepth 100000 in
set_option maxHeartbeats 8000000 in
theorem rpr_lex (s : ByteArray) (w : World) (hm : s.size ≤ maxLen) (a er : Nat) (hl : Lx.lex true s.data.toList = .inr (a, er)) (h0 : er ≠ 0) :
    Calls Tryz.prog 10 #[.string s] w fun e w' => e = .returned (.tuple #[zeroPr, .int .i64 a, .int .i64 er]) ∧ Below w.heap.size w w' := by
  have hL := rlex_any s (w.alloc zeroP) hm
  rw [hl] at hL
  replace hL : Calls Tryz.prog 20 #[.string s] (w.alloc zeroP) fun e w' => e = .returned (.tuple #[.slice none 0 0, .int .i64 a, .int .i64 er]) ∧ Below (w.alloc zeroP).heap.size (w.alloc zeroP) w' := hL
  have herI : ((er : Int) != 0) = true := by simp; omega
  have hbz : Below w.heap.size w (w.alloc zeroP) := (Below.refl _ _).alloc (Nat.le_refl _) _
  have hoz : (w.alloc zeroP).heap[w.heap.size]? = some zeroP := heap_new w _
  have hsz : w.heap.size < (w.alloc zeroP).heap.size := by simp
  clear hl
  go_enter Tryz.func10, Tryz.ntmps10
  go_wp2_with fail
  generalize w.alloc zeroP = wz at *
  refine hL.mono ?_
  rintro e w1 ⟨rfl, hb1⟩
  have ho := (hb1.block _ hsz).trans hoz
  have hB : Below w.heap.size w w1 := hbz.trans (hb1.mono (by omega))
  have hl1 : w.heap.size < w1.heap.size := by have := hb1.size; omega
  obtain ⟨e0, e1, e2, m0, m1, m2⟩ := cells_of3 ho
  have hend : Below w.heap.size w (w3 w1 w.heap.size (.int .i64 0) (.slice none 0 0) (.slice none 0 0)) := below_set3 hB (Nat.le_refl _) _ _ _
  clear hL hb1 hbz hoz hB ho
  go_wp2
  exact bodyPost_ret (v := .tuple #[zeroPr, .int .i64 a, .int .i64 er]) (by simp [results, Tryz.results10, go_sem, e0, e1, e2]) rfl ⟨rfl, hend⟩
/-- The document's Parse answers what the plain mathematics says. -/
theorem rparse_any (s : ByteArray) (w : World) (hm : s.size ≤ maxLen) : Calls Tryz.prog 10 #[.string s] w fun e w' => ParsePost (Px.parse s.data.toList) w e w' := by
  rcases hl : Lx.lex true s.data.toList with ts | ⟨a, er⟩
  · have hp : Px.parse s.data.toList = fin (Px.program ts) := by unfold Px.parse fin; rw [hl]; rfl
    rw [hp]
    rcases hs : Px.sees 1 [118, 101, 114, 115, 105, 111, 110] ts with _ | _
    · exact rpr_nov s w hm ts hl hs
    · by_cases hn : ∀ u rr, ts.tail = u :: rr → ¬ u.kind = 2
      · exact rpr_non s w hm ts hl hs hn
      · obtain ⟨u, rr, ht, hk⟩ : ∃ u rr, ts.tail = u :: rr ∧ u.kind = 2 := by
          rcases hts : ts.tail with _ | ⟨u, rr⟩
          · exact absurd (fun u rr h => by rw [hts] at h; simp at h) hn
          · by_cases hk : u.kind = 2
            · exact ⟨u, rr, rfl, hk⟩
            · exact absurd (fun u2 rr2 h => by rw [hts] at h; simp at h; rw [← h.1]; exact hk) hn
        exact rpr_all s w hm ts hl hs u rr ht hk
  · have hp : Px.parse s.data.toList = .inr (a, er) := by unfold Px.parse; rw [hl]
    have h0 : er ≠ 0 := by
      rcases parse_bad_cases hp with h | ⟨ts, h, _⟩
      · exact h.2.1
      · rw [hl] at h; simp at h
    rw [hp]
    exact rpr_lex s w hm a er hl h0
end Go.Proofs.YtnmdnjdibdmodaaGreatDoor
/- ParseReads, walked. -/
namespace Go.Proofs.YtnmdnjdibdmodaaGreatDoor
open Go.RowKit
set_option linter.unusedSimpArgs false
set_option linter.unusedVariables false

/-- The three answers of Parse. -/
def outP (res : Px.Pr ⊕ (Nat × Nat)) : Px.Pr × Nat × Nat := match res with | .inl p => (p, 0, 0) | .inr (a, er) => (⟨0, [], []⟩, a, er)
theorem post_any {res : Px.Pr ⊕ (Nat × Nat)} {w w' : World} {e : Ending} {p : Px.Pr} {a er : Nat} (ho : outP res = (p, a, er)) (h : ParsePost res w e w') : ∃ (sa : Option Addr) (sn sc : Nat) (fa : Option Addr) (fn fc : Nat), e = .returned (.tuple #[.agg #[.int .i64 p.version, .slice sa sn sc, .slice fa fn fc], .int .i64 a, .int .i64 er]) ∧ IsPr (From w.heap.size) w' p (.agg #[.int .i64 p.version, .slice sa sn sc, .slice fa fn fc]) ∧ Below w.heap.size w w' := by
  rcases res with p' | ⟨a', er'⟩
  · simp only [outP, Prod.mk.injEq] at ho
    obtain ⟨rfl, rfl, rfl⟩ := ho
    obtain ⟨⟨v, rfl, hp⟩, hb⟩ := h
    obtain ⟨sa, sn, sc, fa, fn, fc, rfl⟩ := hp.cells
    exact ⟨sa, sn, sc, fa, fn, fc, rfl, hp, hb⟩
  · simp only [outP, Prod.mk.injEq] at ho
    obtain ⟨rfl, rfl, rfl⟩ := ho
    obtain ⟨rfl, hb⟩ := h
    exact ⟨none, 0, 0, none, 0, 0, rfl, zero_pr _ _, hb⟩
set_option maxRecDepth 100000 in
set_option maxHeartbeats 8000000 in
theorem preads_walk (HP : ParseOk) (s : ByteArray) (w : World) (henv : Env w) (hm : s.size ≤ maxLen) :
    Calls Tryz.prog 3 #[.string s] w fun e w' => e = .returned (.bool true) ∧ Below w.heap.size w w' := by
  have hw := wakes7_any HP w henv
  obtain ⟨p, a, er, hA⟩ : ∃ p a er, Aside (outP (Px.parse s.data.toList) = (p, a, er)) := ⟨_, _, _, rfl⟩
  have hP1 : ∀ w1, Env w1 → Calls Tryz.prog 9 #[.string s] w1 fun e w' => ∃ (sa : Option Addr) (sn sc : Nat) (fa : Option Addr) (fn fc : Nat), e = .returned (.tuple #[.agg #[.int .i64 p.version, .slice sa sn sc, .slice fa fn fc], .int .i64 a, .int .i64 er]) ∧ IsPr (From w1.heap.size) w' p (.agg #[.int .i64 p.version, .slice sa sn sc, .slice fa fn fc]) ∧ Below w1.heap.size w1 w' := fun w1 he => (HP s w1 he hm).mono (fun e w' h => post_any hA.out h)
  have hP2 : ∀ w1, Calls Tryz.prog 10 #[.string s] w1 fun e w' => ∃ (sa : Option Addr) (sn sc : Nat) (fa : Option Addr) (fn fc : Nat), e = .returned (.tuple #[.agg #[.int .i64 p.version, .slice sa sn sc, .slice fa fn fc], .int .i64 a, .int .i64 er]) ∧ IsPr (From w1.heap.size) w' p (.agg #[.int .i64 p.version, .slice sa sn sc, .slice fa fn fc]) ∧ Below w1.heap.size w1 w' := fun w1 => (rparse_any s w1 hm).mono (fun e w' h => post_any hA.out h)
  have hs0 : s = ⟨s.data.toList.toArray⟩ := by simp
  have hR1 : ∀ w1, Calls Tryz.prog 12 #[.string s] w1 fun r w' => r = .returned (.bool (Px.reserved s.data.toList)) ∧ w' = w1 := fun w1 => by
    have h := preserved_any s.data.toList w1
    rw [← hs0] at h
    exact h
  have hR2 : ∀ w1, Calls Tryz.prog 13 #[.string s] w1 fun r w' => r = .returned (.bool (Px.reserved s.data.toList)) ∧ w' = w1 := fun w1 => by
    have h := reserved_any s.data.toList w1
    rw [← hs0] at h
    exact h
  clear hs0 hA
  generalize Px.reserved s.data.toList = rv at *
  go_enter Tryz.func3, Tryz.ntmps3
  go_wp2_with fail
  refine hw.mono ?_
  rintro e w1 ⟨rfl, hb1⟩
  have he1 := henv.below hb1 henv.lt
  clear hw
  have hC1 := hP1 w1 he1
  clear hP1 he1
  go_wp2_with fail
  refine hC1.mono ?_
  rintro e w2 ⟨sa, sn, sc, fa, fn, fc, rfl, hpA, hb2⟩
  clear hC1
  replace hpA : Aside (IsPr (From w1.heap.size) w2 p (.agg #[.int .i64 p.version, .slice sa sn sc, .slice fa fn fc])) := hpA
  go_wp2_with fail
  have hb12 : w.heap.size ≤ w1.heap.size := hb1.size
  have hbw2 : Below w.heap.size w w2 := hb1.trans (hb2.mono hb1.size)
  have hbx : Below w2.heap.size w2 (w2.alloc (.cells #[.int .i64 p.version, .slice sa sn sc, .slice fa fn fc] 26)) := (Below.refl _ _).alloc (Nat.le_refl _) _
  have hb3' : Below w.heap.size w (w2.alloc (.cells #[.int .i64 p.version, .slice sa sn sc, .slice fa fn fc] 26)) := hbw2.alloc hbw2.size _
  have q0 : (w2.alloc (.cells #[.int .i64 p.version, .slice sa sn sc, .slice fa fn fc] 26)).cell? ⟨w2.heap.size, 0, none⟩ = some (.int .i64 p.version) := by simp
  have q1 : (w2.alloc (.cells #[.int .i64 p.version, .slice sa sn sc, .slice fa fn fc] 26)).cell? ⟨w2.heap.size, 1, none⟩ = some (.slice sa sn sc) := by simp
  have q2 : (w2.alloc (.cells #[.int .i64 p.version, .slice sa sn sc, .slice fa fn fc] 26)).cell? ⟨w2.heap.size, 2, none⟩ = some (.slice fa fn fc) := by simp
  have q3 : w2.heap.size < (w2.alloc (.cells #[.int .i64 p.version, .slice sa sn sc, .slice fa fn fc] 26)).heap.size := by simp
  generalize w2.alloc (.cells #[.int .i64 p.version, .slice sa sn sc, .slice fa fn fc] 26) = w3s at *
  have hC2 := hP2 w3s
  clear hP2 hb1 hb2 hbw2
  refine hC2.mono ?_
  rintro e w5 ⟨ta, tn, tc, ga, gn, gc, rfl, hp2, hb5⟩
  clear hC2
  have hb5' : Below w.heap.size w w5 := hb3'.trans (hb5.mono hb3'.size)
  have r0 := (hb5.cell (p := ⟨w2.heap.size, 0, none⟩) q3).trans q0
  have r1 := (hb5.cell (p := ⟨w2.heap.size, 1, none⟩) q3).trans q1
  have r2 := (hb5.cell (p := ⟨w2.heap.size, 2, none⟩) q3).trans q2
  have r3 : w2.heap.size < w5.heap.size := by have := hb5.size; omega
  have hs25 : Since (From w.heap.size) w2 w5 := (Since.of_below hbx).trans (Since.of_below hb5)
  have hPa : IsPr (From w.heap.size) w5 p (.agg #[.int .i64 p.version, .slice sa sn sc, .slice fa fn fc]) := (hpA.out.base (from_mono hb12)).since hs25
  have hPb : IsPr (From w.heap.size) w5 p (.agg #[.int .i64 p.version, .slice ta tn tc, .slice ga gn gc]) := hp2.base (from_mono (by have := hb3'.size; omega))
  have hcall : ∀ w6, Below w5.heap.size w5 w6 → Calls Tryz.prog 11 #[.agg #[.int .i64 p.version, .slice sa sn sc, .slice fa fn fc], .agg #[.int .i64 p.version, .slice ta tn tc, .slice ga gn gc], .bool true] w6 fun r w' => r = .returned (.bool true) ∧ Below w6.heap.size w6 w' :=
    fun w6 h6 => same_any p p _ _ true (From w.heap.size) w6 (hPa.since (Since.of_below h6)) (hPb.since (Since.of_below h6)) (by unfold SameP; rw [if_pos rfl])
  clear hPa hPb hp2 hpA hs25 q0 q1 q2 q3 hbx hb5 hb12
  generalize w2.heap.size = g2 at *
  go_wp2_with fail
  have hb6 : Below w5.heap.size w5 (w5.alloc (.cells #[.int .i64 p.version, .slice ta tn tc, .slice ga gn gc] 26)) := (Below.refl _ _).alloc (Nat.le_refl _) _
  refine (hcall _ hb6).mono ?_
  rintro e w7s ⟨rfl, hb7⟩
  have hbE : Below w.heap.size w w7s := (hb5'.trans (hb6.mono hb5'.size)).trans (hb7.mono (by have := hb5'.size; have := hb6.size; omega))
  clear hcall hb6 hb7
  go_wp2_with fail
  refine (hR1 _).mono ?_
  rintro e w8s ⟨rfl, rfl⟩
  go_wp2_with fail
  refine (hR2 _).mono ?_
  rintro e w9s ⟨rfl, rfl⟩
  go_wp2
  go_ret
  exact ⟨rfl, hbE⟩
end Go.Proofs.YtnmdnjdibdmodaaGreatDoor
