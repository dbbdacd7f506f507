/- Texts between quotes. -/
import Derived.Test.YtifebbdjdllfpaaGreatDoorMark
namespace Go.Proofs.YtifebbdjdllfpaaGreatDoor
open Go.RowKit
set_option linter.unusedSimpArgs false
set_option linter.unusedVariables false

theorem IsB.lt {B b : Nat} {bs : List Value} {w : World} (h : IsB B b bs w) : b < w.heap.size := by
  rcases h with h | h <;> exact h.lt
theorem IsB.below {B b : Nat} {bs : List Value} {w w' : World} (h : IsB B b bs w) (m : Below w.heap.size w w') : IsB B b bs w' := by
  have key : ∀ p, Lib.BuilderAtF 63 5 B b p bs w → Lib.BuilderAtF 63 5 B b p bs w' := by
    intro p hp
    have hlt := hp.lt
    obtain ⟨hB, v, hb, hown, hne⟩ := hp
    exact ⟨hB, v, (m.block b hlt).trans hb, hown.kept (row := none) ⟨m.os, m.tape, m.output, m.size, fun k hk _ => m.block k hk⟩ (by cases hv : v.ownBlock <;> simp), hne⟩
  exact h.elim (fun x => .inl (key _ x)) (fun x => .inr (key _ x))
theorem IsB.set {B b : Nat} {bs : List Value} {w : World} (h : IsB B b bs w) {a : Addr} (ha : a.block < B) (u : Value) : IsB B b bs (w.setCell a u) := by
  have key : ∀ p, Lib.BuilderAtF 63 5 B b p bs w → Lib.BuilderAtF 63 5 B b p bs (w.setCell a u) := by
    intro p hp
    obtain ⟨hB, v, hb, hown, hne⟩ := hp
    refine ⟨hB, v, (Below.heap_setCell _ _ _ _ (by omega)).trans hb, hown.kept (row := some a.block) ⟨rfl, rfl, rfl, by simp [World.setCell], fun k _ hk => Below.heap_setCell _ _ _ _ (fun e => hk (by simp [e]))⟩ (Or.inr ?_), hne⟩
    intro e
    have := (hown.lt _ e).1
    omega
  exact h.elim (fun x => .inl (key _ x)) (fun x => .inr (key _ x))
theorem IsB.mv {B b r j : Nat} {bs : List Value} {w w' : World} (h : IsB B b bs w) (m : Mv r j w w') (hr : r < B) : IsB B b bs w' :=
  (h.set (a := ⟨r, 1, none⟩) hr (.int .i64 (j : Int))).below (by simpa [Mv, World.setCell] using m)

theorem step_world {b i : Nat} {s : ByteArray} {w : World} (h : At b s i w) : Mv b (i + 1) w (w.setCell ⟨b, 1, none⟩ (.int .i64 ((i : Int) + 1))) ∧ ∃ p, Aside (p = i + 1) ∧ At b s p (w.setCell ⟨b, 1, none⟩ (.int .i64 ((i : Int) + 1))) := by
  have hm0 : Mv b (i + 1) w (w.setCell ⟨b, 1, none⟩ (.int .i64 ((i : Int) + 1))) := Mv.of_eq (n := 0) (by rw [show ((i + 1 : Nat) : Int) = (i : Int) + 1 by omega]; rfl)
  exact ⟨hm0, i + 1, rfl, h.move hm0⟩

set_option maxHeartbeats 2000000 in
theorem escaped_ok (b : Nat) (s : ByteArray) (i : Nat) (w : World) (h : At b s i w) (hs : s.size ≤ 16384) (hi : i + 1 < s.size) (he : Lx.isEsc s[i + 1] = true) :
    Calls Tryz.prog 100 #[.pointer (some ⟨b, 0, none⟩)] w fun e w' => e = .returned (.int .u8 s[i + 1].toNat) ∧ Mv b (i + 1) w w' := by
  have hsm : s.size ≤ maxLen := by unfold maxLen; omega
  obtain ⟨hm0, p, hp, hat⟩ := step_world h
  obtain ⟨c0, c1, c2, c3⟩ := h
  have hlt : p < s.size := by have := hp.out; omega
  have he' : Aside (Lx.isEsc s[p] = true) := by have e := hp.out; subst e; exact he
  have hres : Aside (s[i + 1] = s[p]) := by have e := hp.out; subst e; rfl
  go_enter Tryz.func100, Tryz.ntmps100
  go_wp2_with fail
  generalize (w.setCell ⟨b, 1, none⟩ (.int .i64 ((i : Int) + 1))) = w1 at *
  obtain ⟨t0, t1, t2, t3⟩ := hat
  have hat : At b s p w1 := ⟨t0, t1, t2, t3⟩
  clear c0 c1 c2 he
  go_quiet (first
    | (go_at_call 70; exact Calls.quiet_of (ended_no b s p _ (hat.drewN _) hsm hlt))
    | (go_at_call 122; refine Calls.quiet_of_same (v := .bool true) ?_; have := needs_any s[p]; rw [he'.out] at this; exact this _))
  go_wp2_with fail
  go_quiet (fail)
  go_wp2
  go_ret
  exact ⟨by rw [hres.out]; rfl, hm0.below' (below_drewN (below_drewN (Below.refl _ _) _) _) (Nat.le_refl _)⟩

set_option maxHeartbeats 2000000 in
theorem escaped_bad (b : Nat) (s : ByteArray) (i : Nat) (w : World) (h : At b s i w) (hs : s.size ≤ 16384) (hi : i < s.size) (he : ∀ h : i + 1 < s.size, Lx.isEsc s[i + 1] = false) :
    Calls Tryz.prog 100 #[.pointer (some ⟨b, 0, none⟩)] w fun e w' => e = .panicked (thrown i 30) ∧ ∃ j, Mv b j w w' := by
  have hsm : s.size ≤ maxLen := by unfold maxLen; omega
  obtain ⟨hm0, p, hp, hat⟩ := step_world h
  obtain ⟨c0, c1, c2, c3⟩ := h
  by_cases hlt : p < s.size
  · have he' : Aside (Lx.isEsc s[p] = false) := by have e := hp.out; subst e; exact he hlt
    go_enter Tryz.func100, Tryz.ntmps100
    go_wp2_with fail
    generalize (w.setCell ⟨b, 1, none⟩ (.int .i64 ((i : Int) + 1))) = w1 at *
    obtain ⟨t0, t1, t2, t3⟩ := hat
    have hat : At b s p w1 := ⟨t0, t1, t2, t3⟩
    clear c0 c1 c2 he
    go_quiet (first
      | (go_at_call 70; exact Calls.quiet_of (ended_no b s p _ (hat.drewN _) hsm hlt))
      | (go_at_call 122; refine Calls.quiet_of_same (v := .bool false) ?_; have := needs_any s[p]; rw [he'.out] at this; exact this _))
    go_wp2_with (go_at_call 50; refine (giveUp_any i 30 _).mono ?_; rintro e w2 ⟨rfl, rfl⟩)
    exact ⟨rfl, rfl, _, hm0.below' (below_drewN (Below.refl _ _) _) (Nat.le_refl _)⟩
  · have hend : p = s.size := by have := hp.out; omega
    go_enter Tryz.func100, Tryz.ntmps100
    go_wp2_with fail
    generalize (w.setCell ⟨b, 1, none⟩ (.int .i64 ((i : Int) + 1))) = w1 at *
    clear c0 c1 c2 he
    have hat : At b s s.size w1 := by rw [← hend]; exact hat
    clear hend
    go_quiet ((go_at_call 70; exact Calls.quiet_of (ended_yes b s _ (hat.drewN _) hsm)))
    go_wp2_with (go_at_call 50; refine (giveUp_any i 30 _).mono ?_; rintro e w2 ⟨rfl, rfl⟩)
    exact ⟨rfl, rfl, _, hm0.below' (below_drewN (Below.refl _ _) _) (Nat.le_refl _)⟩

theorem quoteR_cons (c : UInt8) (r : List UInt8) (o : Nat) (acc : List UInt8) : Lx.quoteR (c :: r) o acc =
    if c = 34 then (if acc.length ≤ 256 then Lx.R.ok 3 acc 0 (o + 1) else Lx.R.bad 0 3)
    else if c = 92 then (match r with | [] => Lx.R.bad o 30 | d :: r' => if Lx.isEsc d then Lx.quoteR r' (o + 2) (acc ++ [d]) else Lx.R.bad o 30)
    else if Lx.isPlain c then Lx.quoteR r (o + 1) (acc ++ [c]) else Lx.R.bad o 30 := by
  cases r with
  | nil => simp only [Lx.quoteR]
  | cons d r => simp only [Lx.quoteR]
theorem drop_at (s : ByteArray) (p : Nat) (h : p < s.size) : s.data.toList.drop p = s[p] :: s.data.toList.drop (p + 1) := by
  rw [List.drop_eq_getElem_cons (by simpa using h)]
  congr 1
theorem drop_end (s : ByteArray) : s.data.toList.drop s.size = [] := List.drop_eq_nil_of_le (by simp)

/-- What is answered of one token, by the plain mathematics. -/
def TokPost (res : Lx.R) (b i : Nat) (w : World) (e : Ending) (w' : World) : Prop :=
  match res with
  | .inl (k, t, m, n) => e = .returned (tokV k ⟨t.toArray⟩ m i) ∧ Mv b (i + n) w w'
  | .inr (off, er) => e = .panicked (thrown (i + off) er) ∧ ∃ j, Mv b j w w'
theorem TokPost.ok {res : Lx.R} {b i : Nat} {w : World} {e : Ending} {w' : World} {k : Nat} {t : List UInt8} {m n : Nat} (h : res = Lx.R.ok k t m n) (he : e = .returned (tokV k ⟨t.toArray⟩ m i)) (hm : Mv b (i + n) w w') : TokPost res b i w e w' := by
  subst h; exact ⟨he, hm⟩
theorem TokPost.bad {res : Lx.R} {b i : Nat} {w : World} {e : Ending} {w' : World} {o er : Nat} (h : res = Lx.R.bad o er) (he : e = .panicked (thrown (i + o) er)) (hm : ∃ j, Mv b j w w') : TokPost res b i w e w' := by
  subst h; exact ⟨he, hm⟩

/-- One round of the loop has come to place o: what is read so far. -/
structure Qd (b i : Nat) (s : ByteArray) (w : World) (o : Nat) (acc : List UInt8) (wr : World) : Prop where
  at_ : At b s o wr
  slot : Slot w.heap.size wr
  bld : IsB (w.heap.size + 1) (w.heap.size + 1) (Lib.byteCells acc) wr
  mv : Mv b o w wr
  lo : i ≤ o
  hi : o < s.size
  len : acc.length ≤ o - i
theorem Qd.step {b i : Nat} {s : ByteArray} {w : World} {o p : Nat} {acc : List UInt8} {wr w1 : World} (h : Qd b i s w o acc wr) (hb : b < w.heap.size) (m : Mv b p wr w1) (hp : o ≤ p) (hps : p < s.size) : Qd b i s w p acc w1 :=
  ⟨h.at_.move m, h.slot.mv m (by omega), h.bld.mv m (by omega), h.mv.trans m, by have := h.lo; omega, hps, by have := h.len; omega⟩
theorem Qd.write {b i : Nat} {s : ByteArray} {w : World} {o : Nat} {acc : List UInt8} {c : UInt8} {wr w1 : World} (h : Qd b i s w o acc wr) (hb : b < w.heap.size) (hl : acc.length + 1 ≤ o - i)
    (hbld : IsB (w.heap.size + 1) (w.heap.size + 1) (Lib.byteCells acc ++ [.int .u8 c.toNat]) w1) (m : Below (w.heap.size + 1) wr w1) : Qd b i s w o (acc ++ [c]) w1 :=
  ⟨h.at_.below m (by omega), h.slot.below m (by omega), by simpa [Lib.byteCells] using hbld, h.mv.below' m (by omega), h.lo, h.hi, by simp; omega⟩

set_option maxHeartbeats 4000000 in
theorem quoted_any (b : Nat) (s : ByteArray) (i : Nat) (w : World) (h : At b s i w) (hs : s.size ≤ 16384) (hi : i < s.size) :
    Calls Tryz.prog 76 #[.pointer (some ⟨b, 0, none⟩)] w fun e w' => TokPost (Lx.quoteR (s.data.toList.drop (i + 1)) 1 []) b i w e w' := by
  have hsm : s.size ≤ maxLen := by unfold maxLen; omega
  obtain ⟨c0, c1, c2, c3⟩ := h
  have h : At b s i w := ⟨c0, c1, c2, c3⟩
  obtain ⟨res, hres⟩ : ∃ res, Aside (res = Lx.quoteR (s.data.toList.drop (i + 1)) 1 []) := ⟨_, rfl⟩
  rw [← hres.out]
  go_enter Tryz.func76, Tryz.ntmps76
  go_wp2_with fail
  go_loopg [] (s.size - i) (fun g wr => ∃ o acc, g = s.size - o ∧ Qd b i s w o acc wr ∧ Aside (res = Lx.quoteR (s.data.toList.drop (o + 1)) (o + 1 - i) acc))
  case atStart =>
    have hb1 : Below w.heap.size w ((w.alloc slot0).alloc (.cells #[.pointer none, .slice none 0 0] 63)) := ((Below.refl _ _).alloc (Nat.le_refl _) _).alloc (by simp) _
    have hsl := (Slot.new w).below ((Below.refl (w.alloc slot0).heap.size (w.alloc slot0)).alloc (Nat.le_refl _) (.cells #[.pointer none, .slice none 0 0] 63)) (by simp)
    refine ⟨i, [], rfl, ⟨h.below hb1 c3, hsl, ?_, (Mv.refl h).below' hb1 (Nat.le_refl _), Nat.le_refl _, hi, by simp⟩, ?_⟩
    · refine fresh_builder (Nat.le_refl _) ?_
      show ((w.heap.push _).push _)[w.heap.size + 1]? = _
      rw [Array.getElem?_push, if_pos (by simp)]
    · show _ = _
      rw [hres.out, Nat.add_sub_cancel_left]
  case round =>
    clear hres c0 c1 c2 h
    obtain ⟨o, acc, rfl, hq, hr⟩ := hrel
    obtain ⟨hm0, p, hp, hat⟩ := step_world hq.at_
    obtain ⟨t0, t1, t2, t3⟩ := hq.at_
    have ho : o < s.size := hq.hi
    go_wp2_with fail
    generalize (wr.setCell ⟨b, 1, none⟩ (.int .i64 ((o : Int) + 1))) = w1 at *
    clear t0 t1 t2 t3
    by_cases hlt : p < s.size
    · have hpo := hp.out
      have hq1 : Qd b i s w p acc w1 := by rw [hpo]; exact hq.step c3 hm0 (by omega) (by omega)
      have hr1 : Aside (res = Lx.quoteR (s[p] :: s.data.toList.drop (p + 1)) (p - i) acc) := by
        show _ = _
        have e := hr.out
        rw [← hpo, drop_at s p hlt] at e
        exact e
      have hlo : i < p := by have := hq.lo; omega
      have hgg : Aside (s.size - p < s.size - o) := by show _ < _; omega
      have hlen : Aside (acc.length + 1 ≤ p - i) := by have h1 := hq.len; have h2 := hq.lo; show _ ≤ _; omega
      clear hat hr hq hm0 hpo hp ho
      have hat := hq1.at_
      obtain ⟨t0, t1, t2, t3⟩ := hat
      refine (ended_no b s p _ hq1.at_ hsm hlt).mono ?_
      rintro e w2 ⟨rfl, n2, rfl⟩
      go_wp2_with fail
      go_quiet (fail)
      have hq2 : Qd b i s w p acc ((w1.drewN n2).drewN nq) := hq1.step c3 ((Mv.refl hq1.at_).below' (below_drewN (below_drewN (Below.refl _ _) _) _) (Nat.le_refl _)) (Nat.le_refl _) hlt
      generalize (w1.drewN n2).drewN nq = w3 at *
      clear hq1 t0 t1 t2 t3
      by_cases h34 : s[p] = 34
      · obtain ⟨hm4, p1, hp1, hat4⟩ := step_world hq2.at_
        obtain ⟨t0, t1, t2, t3⟩ := hq2.at_
        have hln := len_any (w.heap.size + 1) (w.heap.size + 1) (Lib.byteCells acc)
        have hal : (Lib.byteCells acc).length = acc.length := by simp [Lib.byteCells]
        rw [hal] at hln
        have hb4 := hq2.bld.mv hm4 (by omega)
        have hsl4 := hq2.slot.mv hm4 (by omega)
        have hmv4 := hq2.mv.trans hm4
        by_cases h256 : acc.length ≤ 256
        · have hrw : Aside (res = Lx.R.ok 3 acc 0 (p - i + 1)) := by
            show _ = _
            rw [hr1.out, quoteR_cons, if_pos h34, if_pos h256]
          clear hr1
          go_wp2_with fail
          generalize (w3.setCell ⟨b, 1, none⟩ (.int .i64 ((p : Int) + 1))) = w4 at *
          have hst := string_any (w.heap.size + 1) (w.heap.size + 1) acc w4 hb4 (by have := hb4.lt; omega)
          have hl4 := hln w4 hb4
          go_wp2_with (first
            | (go_at_call 42; refine hl4.mono ?_; rintro e w5 ⟨rfl, rfl⟩)
            | (go_at_call 25; refine hst.mono ?_; rintro e w6 ⟨rfl, hm6⟩; have hs6 := hsl4.below hm6 (by omega); obtain ⟨x0, x1, x2, x3, d0, d1, d2, d3, f0, f1, f2, f3⟩ := hs6.cells))
          refine bodyPost_ret (v := tokV 3 ⟨acc.toArray⟩ 0 i) (by simp [results, Tryz.results76, go_sem, d0, d1, d2, d3, tokV]) rfl (TokPost.ok hrw.out rfl ?_)
          rw [show i + (p - i + 1) = p + 1 by omega]
          exact (hmv4.below' hm6 (by omega)).set4 (Nat.le_refl _) _ _ _ _
        · have hrw : Aside (res = Lx.R.bad 0 3) := by
            show _ = _
            rw [hr1.out, quoteR_cons, if_pos h34, if_neg h256]
          clear hr1
          go_wp2_with fail
          generalize (w3.setCell ⟨b, 1, none⟩ (.int .i64 ((p : Int) + 1))) = w4 at *
          have hl4 := hln w4 hb4
          go_wp2_with (first
            | (go_at_call 42; refine hl4.mono ?_; rintro e w5 ⟨rfl, rfl⟩)
            | (go_at_call 50; refine (giveUp_any i 3 _).mono ?_; rintro e w5 ⟨rfl, rfl⟩))
          exact ⟨rfl, TokPost.bad hrw.out rfl ⟨_, hmv4⟩⟩
      · by_cases h92 : s[p] = 92
        · by_cases hesc : ∃ h : p + 1 < s.size, Lx.isEsc s[p + 1] = true
          · obtain ⟨hp1, hesc⟩ := hesc
            have hrw : Aside (res = Lx.quoteR (s.data.toList.drop (p + 1 + 1)) (p + 1 + 1 - i) (acc ++ [s[p + 1]])) := by
              show _ = _
              rw [hr1.out, quoteR_cons, if_neg h34, if_pos h92, drop_at s (p + 1) hp1]
              simp only [hesc, if_true]
              rw [show p - i + 2 = p + 1 + 1 - i by omega]
            have hes := escaped_ok b s p w3 hq2.at_ hs hp1 hesc
            have hwb : ∀ w4, Mv b (p + 1) w3 w4 → Calls Tryz.prog 99 #[.pointer (some ⟨w.heap.size + 1, 0, none⟩), .int .u8 s[p + 1].toNat] w4 fun e w' => e = .returned .nilIface ∧ (IsB (w.heap.size + 1) (w.heap.size + 1) (Lib.byteCells acc ++ [.int .u8 s[p + 1].toNat]) w' ∧ Below (w.heap.size + 1) w4 w') := by
              intro w4 hm4
              have hb4 := (hq2.step c3 hm4 (by omega) hp1).bld
              exact writeByte_any (w.heap.size + 1) (w.heap.size + 1) (Lib.byteCells acc) s[p + 1].toNat w4 hb4 (by have h1 := hlen.out; simp [Lib.byteCells]; omega) (by have := hb4.lt; omega)
            have hfin : ∀ w4 w5, Mv b (p + 1) w3 w4 → IsB (w.heap.size + 1) (w.heap.size + 1) (Lib.byteCells acc ++ [.int .u8 s[p + 1].toNat]) w5 → Below (w.heap.size + 1) w4 w5 → Qd b i s w (p + 1) (acc ++ [s[p + 1]]) w5 := by
              intro w4 w5 hm4 hb5 hm5
              exact (hq2.step c3 hm4 (by omega) hp1).write c3 (by have h1 := hlen.out; omega) hb5 hm5
            generalize s[p + 1] = d at *
            clear hr1 hesc
            go_wp2_with (first
              | (go_at_call 100; refine hes.mono ?_; rintro e w4 ⟨rfl, hm4⟩)
              | (go_at_call 99; refine (hwb _ hm4).mono ?_; rintro e w5 ⟨rfl, hb5, hm5⟩))
            go_roundg (s.size - (p + 1))
            case measure => have h1 := hgg.out; omega
            case rel => exact ⟨p + 1, acc ++ [d], rfl, hfin _ _ hm4 hb5 hm5, hrw.out⟩
          · have hno : ∀ h : p + 1 < s.size, Lx.isEsc s[p + 1] = false := by
              intro h
              rcases hx : Lx.isEsc s[p + 1] with _ | _
              · rfl
              · exact absurd ⟨h, hx⟩ hesc
            have hrw : Aside (res = Lx.R.bad (p - i) 30) := by
              show _ = _
              rw [hr1.out, quoteR_cons, if_neg h34, if_pos h92]
              by_cases hp1 : p + 1 < s.size
              · rw [drop_at s (p + 1) hp1]
                simp only [hno hp1, Bool.false_eq_true, if_false]
              · rw [show p + 1 = s.size by omega, drop_end]
            have hes := escaped_bad b s p w3 hq2.at_ hs hlt hno
            clear hr1 hno hesc
            go_wp2_with (go_at_call 100; refine hes.mono ?_; rintro e w4 ⟨rfl, j4, hm4⟩)
            exact ⟨rfl, TokPost.bad hrw.out (by rw [Nat.add_sub_of_le (by omega)]) ⟨_, hq2.mv.trans hm4⟩⟩
        · have k34 : ¬ (s[p].toNat : Int) = 34 := fun a => h34 (UInt8.toNat_inj.1 (by show s[p].toNat = 34; omega))
          have k92 : ¬ (s[p].toNat : Int) = 92 := fun a => h92 (UInt8.toNat_inj.1 (by show s[p].toNat = 92; omega))
          rcases hpl : Lx.isPlain s[p] with _ | _
          · have hrw : Aside (res = Lx.R.bad (p - i) 30) := by
              show _ = _
              rw [hr1.out, quoteR_cons, if_neg h34, if_neg h92, hpl, if_neg (by simp)]
            obtain ⟨t0, t1, t2, t3⟩ := hq2.at_
            clear hr1
            go_wp2_with (first
              | (go_at_call 101; refine (isPlain_any _ _).mono ?_; rw [hpl]; rintro e w4 ⟨rfl, rfl⟩)
              | (go_at_call 50; refine (giveUp_any p 30 _).mono ?_; rintro e w5 ⟨rfl, rfl⟩))
            exact ⟨rfl, TokPost.bad hrw.out (by rw [Nat.add_sub_of_le (by omega)]) ⟨_, hq2.mv⟩⟩
          · have hrw : Aside (res = Lx.quoteR (s.data.toList.drop (p + 1)) (p + 1 - i) (acc ++ [s[p]])) := by
              show _ = _
              rw [hr1.out, quoteR_cons, if_neg h34, if_neg h92, hpl, if_pos rfl, show p - i + 1 = p + 1 - i by omega]
            have hwb := writeByte_any (w.heap.size + 1) (w.heap.size + 1) (Lib.byteCells acc) s[p].toNat w3 hq2.bld (by have h1 := hlen.out; simp [Lib.byteCells]; omega) (by have := hq2.bld.lt; omega)
            clear hr1
            go_wp2_with (first
              | (go_at_call 101; refine (isPlain_any _ _).mono ?_; rw [hpl]; rintro e w4 ⟨rfl, rfl⟩)
              | (go_at_call 99; refine hwb.mono ?_; rintro e w5 ⟨rfl, hb5, hm5⟩))
            go_roundg (s.size - p)
            case measure => exact hgg.out
            case rel => exact ⟨p, acc ++ [s[p]], rfl, hq2.write c3 hlen.out hb5 hm5, hrw.out⟩
    · have hend : p = s.size := by have := hp.out; have := hq.hi; omega
      have hat' : At b s s.size w1 := by rw [← hend]; exact hat
      have hr' : Aside (res = Lx.R.bad 0 30) := by
        show _ = _
        rw [hr.out, show o + 1 = s.size by have := hp.out; omega, drop_end]; rfl
      clear hat hend hlt hr
      refine (ended_yes b s _ hat' hsm).mono ?_
      rintro e w2 ⟨rfl, n2, rfl⟩
      go_wp2_with (go_at_call 50; refine (giveUp_any i 30 _).mono ?_; rintro e w3 ⟨rfl, rfl⟩)
      exact ⟨rfl, TokPost.bad hr'.out rfl ⟨_, (hq.mv.trans hm0).below' (below_drewN (Below.refl _ _) _) (Nat.le_refl _)⟩⟩
end Go.Proofs.YtifebbdjdllfpaaGreatDoor
