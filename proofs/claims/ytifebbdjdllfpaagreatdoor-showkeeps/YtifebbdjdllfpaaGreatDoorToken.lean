/- One token. -/
import Derived.Test.YtifebbdjdllfpaaGreatDoorQuoted
namespace Go.Proofs.YtifebbdjdllfpaaGreatDoor
open Go.RowKit
set_option linter.unusedSimpArgs false
set_option linter.unusedVariables false

theorem bytes_same {a b : ByteArray} (h : a.data.toList = b.data.toList) : a = b := by
  cases a; cases b; simp at h; congr
theorem ext_run (s : ByteArray) (i : Nat) (p : UInt8 → Bool) : s.extract i (i + run s i p) = ⟨((s.data.toList.drop i).takeWhile p).toArray⟩ := bytes_same (by rw [run_text])
theorem name_tok (b : Nat) (s : ByteArray) (i : Nat) (w : World) (h : At b s i w) (hs : s.size ≤ 16384) (hi : i < s.size) :
    Calls Tryz.prog 73 #[.pointer (some ⟨b, 0, none⟩)] w fun e w' => TokPost (Lx.nameR (s.data.toList.drop i)) b i w e w' := by
  by_cases hn : run s i Lx.isPart ≤ 16
  · refine (name_ok b s i w h hs (by omega) hn).mono ?_
    rintro e w' ⟨rfl, hm⟩
    exact TokPost.ok (k := 1) (t := (s.data.toList.drop i).takeWhile Lx.isPart) (m := 0) (by unfold Lx.nameR; exact if_pos hn) (by rw [ext_run]) hm
  · refine (name_bad b s i w h hs (by omega) (by omega)).mono ?_
    rintro e w' ⟨rfl, hm⟩
    exact TokPost.bad (o := 0) (by unfold Lx.nameR; exact if_neg hn) rfl hm
theorem number_tok (b : Nat) (s : ByteArray) (i : Nat) (w : World) (h : At b s i w) (henv : Env w) (hbe : 2 ≠ b) (hs : s.size ≤ 16384) (hi : i < s.size) (hd : Lx.isDigit s[i] = true) :
    Calls Tryz.prog 75 #[.pointer (some ⟨b, 0, none⟩)] w fun e w' => TokPost (Lx.numberR (s.data.toList.drop i)) b i w e w' := by
  have hhead : ((s.data.toList.drop i).takeWhile Lx.isDigit).head? = some s[i] := by
    rw [drop_at s i hi, List.takeWhile_cons_of_pos hd]; rfl
  have hc : (((s.data.toList.drop i).takeWhile Lx.isDigit).head? = some 48 ∧ 1 < ((s.data.toList.drop i).takeWhile Lx.isDigit).length) ↔ (s[i] = 48 ∧ 1 < run s i Lx.isDigit) := by
    rw [hhead]; simp [run]
  by_cases h48 : s[i] = 48 ∧ 1 < run s i Lx.isDigit
  · refine (number_nought b s i w h hs hi h48.1 h48.2).mono ?_
    rintro e w' ⟨rfl, hm⟩
    exact TokPost.bad (o := 0) (by unfold Lx.numberR; exact if_pos (hc.2 h48)) rfl hm
  · by_cases hv : Lx.value ((s.data.toList.drop i).takeWhile Lx.isDigit) ≤ 9223372036854775807
    · refine (number_ok b s i w h hs hi hd h48 hv).mono ?_
      rintro e w' ⟨rfl, hm⟩
      exact TokPost.ok (k := 2) (t := (s.data.toList.drop i).takeWhile Lx.isDigit) (m := Lx.value ((s.data.toList.drop i).takeWhile Lx.isDigit)) (by unfold Lx.numberR; rw [if_neg (fun a => h48 (hc.1 a))]; exact if_pos hv) (by rw [run_text, ext_run]) hm
    · refine (number_long b s i w h henv hbe hs hi hd h48 hv).mono ?_
      rintro e w' ⟨rfl, hm⟩
      exact TokPost.bad (o := 0) (by unfold Lx.numberR; rw [if_neg (fun a => h48 (hc.1 a))]; exact if_neg hv) rfl hm
theorem mark_tok (b : Nat) (s : ByteArray) (i : Nat) (w : World) (h : At b s i w) (hs : s.size ≤ 16384) (hi : i < s.size) :
    Calls Tryz.prog 77 #[.pointer (some ⟨b, 0, none⟩)] w fun e w' => TokPost (Lx.markR dotC (s.data.toList.drop i)) b i w e w' := by
  by_cases hz : msize s i = 0
  · refine (mark_bad b s i w h hs hi hz).mono ?_
    rintro e w' ⟨rfl, hm⟩
    exact TokPost.bad (o := 0) (by unfold Lx.markR; exact if_pos hz) rfl hm
  · refine (mark_ok b s i w h hs hi (by omega)).mono ?_
    rintro e w' ⟨rfl, hm⟩
    refine TokPost.ok (k := 4) (t := (s.data.toList.drop i).take (Lx.markN dotC (s.data.toList.drop i))) (m := 0) (by unfold Lx.markR; exact if_neg hz) ?_ hm
    have : s.extract i (i + msize s i) = ⟨((s.data.toList.drop i).take (Lx.markN dotC (s.data.toList.drop i))).toArray⟩ := bytes_same (by
      rw [ext_list]; show _ = List.take (Lx.markN dotC (s.data.toList.drop i)) (s.data.toList.drop i); rw [List.take_drop]; rfl)
    rw [this]

theorem TokPost.past {res : Lx.R} {b i : Nat} {w w0 : World} {e : Ending} {w' : World} (hb : Below w.heap.size w w0) (h : TokPost res b i w0 e w') : TokPost res b i w e w' := by
  unfold TokPost at h ⊢
  rcases res with ⟨k, t, m, n⟩ | ⟨o, er⟩
  · exact ⟨h.1, h.2.past hb⟩
  · obtain ⟨h1, j, hm⟩ := h
    exact ⟨h1, j, hm.past hb⟩

set_option maxHeartbeats 2000000 in
theorem token_name (b : Nat) (s : ByteArray) (i : Nat) (w : World) (h : At b s i w) (hs : s.size ≤ 16384) (hi : i < s.size) (hl : Lx.isLetter s[i] = true)
    (res : Lx.R) (hcall : ∀ w1, Below w.heap.size w w1 → Calls Tryz.prog 73 #[.pointer (some ⟨b, 0, none⟩)] w1 fun e w' => TokPost res b i w1 e w') :
    Calls Tryz.prog 49 #[.pointer (some ⟨b, 0, none⟩)] w fun e w' => TokPost res b i w e w' := by
  have hsm : s.size ≤ maxLen := by unfold maxLen; omega
  have hb0 : Below w.heap.size w (w.alloc slot0) := (Below.refl _ _).alloc (Nat.le_refl _) _
  have hat := h.below hb0 h.there
  have hsl := Slot.new w
  have hlt := h.there
  go_enter Tryz.func49, Tryz.ntmps49
  go_wp2_with fail
  generalize w.alloc slot0 = w1 at *
  refine (ended_no b s i _ hat hsm hi).mono ?_
  rintro e w2 ⟨rfl, n2, rfl⟩
  obtain ⟨t0, t1, t2, t3⟩ := hat
  go_wp2_with fail
  go_quiet (fail)
  have hsl3 : Slot w.heap.size ((w1.drewN n2).drewN nq) := hsl
  have hb3 : Below w.heap.size w ((w1.drewN n2).drewN nq) := below_drewN (below_drewN hb0 _) _
  generalize (w1.drewN n2).drewN nq = w3 at *
  clear hsl hb0 t0 t1 t2 t3
  have hc3 := hcall w3 hb3
  clear hcall
  rcases res with ⟨k, t, m, n⟩ | ⟨o, er⟩
  · have hc3 : Calls Tryz.prog 73 #[.pointer (some ⟨b, 0, none⟩)] w3 fun e w' => e = .returned (tokV k ⟨t.toArray⟩ m i) ∧ Mv b (i + n) w3 w' := hc3
    go_wp2_with (first
      | (go_at_call 72; refine (isLetter_any _ _).mono ?_; rw [hl]; rintro e w9 ⟨rfl, rfl⟩)
      | (go_at_call 73; refine hc3.mono ?_; rintro e w4 ⟨rfl, hm4⟩; have hs4 := hsl3.mv hm4 (by omega); obtain ⟨x0, x1, x2, x3, d0, d1, d2, d3, f0, f1, f2, f3⟩ := hs4.cells))
    exact bodyPost_ret (v := tokV k ⟨t.toArray⟩ m i) (by simp [results, Tryz.results49, go_sem, d0, d1, d2, d3, tokV]) rfl (TokPost.ok rfl rfl ((hm4.past hb3).set4 (Nat.le_refl _) _ _ _ _))
  · have hc3 : Calls Tryz.prog 73 #[.pointer (some ⟨b, 0, none⟩)] w3 fun e w' => e = .panicked (thrown (i + o) er) ∧ ∃ j, Mv b j w3 w' := hc3
    go_wp2_with (first
      | (go_at_call 72; refine (isLetter_any _ _).mono ?_; rw [hl]; rintro e w9 ⟨rfl, rfl⟩)
      | (go_at_call 73; refine hc3.mono ?_; rintro e w4 ⟨rfl, j4, hm4⟩))
    exact ⟨rfl, TokPost.bad rfl rfl ⟨_, hm4.past hb3⟩⟩
set_option maxHeartbeats 2000000 in
theorem token_number (b : Nat) (s : ByteArray) (i : Nat) (w : World) (h : At b s i w) (hs : s.size ≤ 16384) (hi : i < s.size) (hl : Lx.isLetter s[i] = false) (hd : Lx.isDigit s[i] = true)
    (res : Lx.R) (hcall : ∀ w1, Below w.heap.size w w1 → Calls Tryz.prog 75 #[.pointer (some ⟨b, 0, none⟩)] w1 fun e w' => TokPost res b i w1 e w') :
    Calls Tryz.prog 49 #[.pointer (some ⟨b, 0, none⟩)] w fun e w' => TokPost res b i w e w' := by
  have hsm : s.size ≤ maxLen := by unfold maxLen; omega
  have hb0 : Below w.heap.size w (w.alloc slot0) := (Below.refl _ _).alloc (Nat.le_refl _) _
  have hat := h.below hb0 h.there
  have hsl := Slot.new w
  have hlt := h.there
  go_enter Tryz.func49, Tryz.ntmps49
  go_wp2_with fail
  generalize w.alloc slot0 = w1 at *
  refine (ended_no b s i _ hat hsm hi).mono ?_
  rintro e w2 ⟨rfl, n2, rfl⟩
  obtain ⟨t0, t1, t2, t3⟩ := hat
  go_wp2_with fail
  go_quiet (fail)
  have hsl3 : Slot w.heap.size ((w1.drewN n2).drewN nq) := hsl
  have hb3 : Below w.heap.size w ((w1.drewN n2).drewN nq) := below_drewN (below_drewN hb0 _) _
  generalize (w1.drewN n2).drewN nq = w3 at *
  clear hsl hb0 t0 t1 t2 t3
  have hc3 := hcall w3 hb3
  clear hcall
  rcases res with ⟨k, t, m, n⟩ | ⟨o, er⟩
  · have hc3 : Calls Tryz.prog 75 #[.pointer (some ⟨b, 0, none⟩)] w3 fun e w' => e = .returned (tokV k ⟨t.toArray⟩ m i) ∧ Mv b (i + n) w3 w' := hc3
    go_wp2_with (first
      | (go_at_call 72; refine (isLetter_any _ _).mono ?_; rw [hl]; rintro e w9 ⟨rfl, rfl⟩)
      | (go_at_call 74; refine (isDigit_any _ _).mono ?_; rw [hd]; rintro e w9 ⟨rfl, rfl⟩)
      | (go_at_call 75; refine hc3.mono ?_; rintro e w4 ⟨rfl, hm4⟩; have hs4 := hsl3.mv hm4 (by omega); obtain ⟨x0, x1, x2, x3, d0, d1, d2, d3, f0, f1, f2, f3⟩ := hs4.cells))
    exact bodyPost_ret (v := tokV k ⟨t.toArray⟩ m i) (by simp [results, Tryz.results49, go_sem, d0, d1, d2, d3, tokV]) rfl (TokPost.ok rfl rfl ((hm4.past hb3).set4 (Nat.le_refl _) _ _ _ _))
  · have hc3 : Calls Tryz.prog 75 #[.pointer (some ⟨b, 0, none⟩)] w3 fun e w' => e = .panicked (thrown (i + o) er) ∧ ∃ j, Mv b j w3 w' := hc3
    go_wp2_with (first
      | (go_at_call 72; refine (isLetter_any _ _).mono ?_; rw [hl]; rintro e w9 ⟨rfl, rfl⟩)
      | (go_at_call 74; refine (isDigit_any _ _).mono ?_; rw [hd]; rintro e w9 ⟨rfl, rfl⟩)
      | (go_at_call 75; refine hc3.mono ?_; rintro e w4 ⟨rfl, j4, hm4⟩))
    exact ⟨rfl, TokPost.bad rfl rfl ⟨_, hm4.past hb3⟩⟩
theorem letter34 (w : World) : Calls Tryz.prog 72 #[.int .u8 34] w fun e w' => e = .returned (.bool false) ∧ w' = w := isLetter_any 34 w
theorem digit34 (w : World) : Calls Tryz.prog 74 #[.int .u8 34] w fun e w' => e = .returned (.bool false) ∧ w' = w := isDigit_any 34 w
set_option maxHeartbeats 2000000 in
theorem token_quoted (b : Nat) (s : ByteArray) (i : Nat) (w : World) (h : At b s i w) (hs : s.size ≤ 16384) (hi : i < s.size) (hk : s[i] = 34)
    (res : Lx.R) (hcall : ∀ w1, Below w.heap.size w w1 → Calls Tryz.prog 76 #[.pointer (some ⟨b, 0, none⟩)] w1 fun e w' => TokPost res b i w1 e w') :
    Calls Tryz.prog 49 #[.pointer (some ⟨b, 0, none⟩)] w fun e w' => TokPost res b i w e w' := by
  have hsm : s.size ≤ maxLen := by unfold maxLen; omega
  have hb0 : Below w.heap.size w (w.alloc slot0) := (Below.refl _ _).alloc (Nat.le_refl _) _
  have hat := h.below hb0 h.there
  have hsl := Slot.new w
  have hlt := h.there
  go_enter Tryz.func49, Tryz.ntmps49
  go_wp2_with fail
  generalize w.alloc slot0 = w1 at *
  refine (ended_no b s i _ hat hsm hi).mono ?_
  rintro e w2 ⟨rfl, n2, rfl⟩
  obtain ⟨t0, t1, t2, t3⟩ := hat
  go_wp2_with fail
  go_quiet (fail)
  have hsl3 : Slot w.heap.size ((w1.drewN n2).drewN nq) := hsl
  have hb3 : Below w.heap.size w ((w1.drewN n2).drewN nq) := below_drewN (below_drewN hb0 _) _
  generalize (w1.drewN n2).drewN nq = w3 at *
  clear hsl hb0 t0 t1 t2 t3
  have hc3 := hcall w3 hb3
  clear hcall
  rcases res with ⟨k, t, m, n⟩ | ⟨o, er⟩
  · have hc3 : Calls Tryz.prog 76 #[.pointer (some ⟨b, 0, none⟩)] w3 fun e w' => e = .returned (tokV k ⟨t.toArray⟩ m i) ∧ Mv b (i + n) w3 w' := hc3
    go_wp2_with (first
      | (go_at_call 72; refine (letter34 _).mono ?_; rintro e w9 ⟨rfl, rfl⟩)
      | (go_at_call 74; refine (digit34 _).mono ?_; rintro e w9 ⟨rfl, rfl⟩)
      | (go_at_call 76; refine hc3.mono ?_; rintro e w4 ⟨rfl, hm4⟩; have hs4 := hsl3.mv hm4 (by omega); obtain ⟨x0, x1, x2, x3, d0, d1, d2, d3, f0, f1, f2, f3⟩ := hs4.cells))
    exact bodyPost_ret (v := tokV k ⟨t.toArray⟩ m i) (by simp [results, Tryz.results49, go_sem, d0, d1, d2, d3, tokV]) rfl (TokPost.ok rfl rfl ((hm4.past hb3).set4 (Nat.le_refl _) _ _ _ _))
  · have hc3 : Calls Tryz.prog 76 #[.pointer (some ⟨b, 0, none⟩)] w3 fun e w' => e = .panicked (thrown (i + o) er) ∧ ∃ j, Mv b j w3 w' := hc3
    go_wp2_with (first
      | (go_at_call 72; refine (letter34 _).mono ?_; rintro e w9 ⟨rfl, rfl⟩)
      | (go_at_call 74; refine (digit34 _).mono ?_; rintro e w9 ⟨rfl, rfl⟩)
      | (go_at_call 76; refine hc3.mono ?_; rintro e w4 ⟨rfl, j4, hm4⟩))
    exact ⟨rfl, TokPost.bad rfl rfl ⟨_, hm4.past hb3⟩⟩
set_option maxHeartbeats 2000000 in
theorem token_mark (b : Nat) (s : ByteArray) (i : Nat) (w : World) (h : At b s i w) (hs : s.size ≤ 16384) (hi : i < s.size) (hl : Lx.isLetter s[i] = false) (hd : Lx.isDigit s[i] = false) (hk : ¬ (s[i].toNat : Int) = 34)
    (res : Lx.R) (hcall : ∀ w1, Below w.heap.size w w1 → Calls Tryz.prog 77 #[.pointer (some ⟨b, 0, none⟩)] w1 fun e w' => TokPost res b i w1 e w') :
    Calls Tryz.prog 49 #[.pointer (some ⟨b, 0, none⟩)] w fun e w' => TokPost res b i w e w' := by
  have hsm : s.size ≤ maxLen := by unfold maxLen; omega
  have hb0 : Below w.heap.size w (w.alloc slot0) := (Below.refl _ _).alloc (Nat.le_refl _) _
  have hat := h.below hb0 h.there
  have hsl := Slot.new w
  have hlt := h.there
  go_enter Tryz.func49, Tryz.ntmps49
  go_wp2_with fail
  generalize w.alloc slot0 = w1 at *
  refine (ended_no b s i _ hat hsm hi).mono ?_
  rintro e w2 ⟨rfl, n2, rfl⟩
  obtain ⟨t0, t1, t2, t3⟩ := hat
  go_wp2_with fail
  go_quiet (fail)
  have hsl3 : Slot w.heap.size ((w1.drewN n2).drewN nq) := hsl
  have hb3 : Below w.heap.size w ((w1.drewN n2).drewN nq) := below_drewN (below_drewN hb0 _) _
  generalize (w1.drewN n2).drewN nq = w3 at *
  clear hsl hb0 t0 t1 t2 t3
  have hc3 := hcall w3 hb3
  clear hcall
  rcases res with ⟨k, t, m, n⟩ | ⟨o, er⟩
  · have hc3 : Calls Tryz.prog 77 #[.pointer (some ⟨b, 0, none⟩)] w3 fun e w' => e = .returned (tokV k ⟨t.toArray⟩ m i) ∧ Mv b (i + n) w3 w' := hc3
    go_wp2_with (first
      | (go_at_call 72; refine (isLetter_any _ _).mono ?_; rw [hl]; rintro e w9 ⟨rfl, rfl⟩)
      | (go_at_call 74; refine (isDigit_any _ _).mono ?_; rw [hd]; rintro e w9 ⟨rfl, rfl⟩)
      | (go_at_call 77; refine hc3.mono ?_; rintro e w4 ⟨rfl, hm4⟩; have hs4 := hsl3.mv hm4 (by omega); obtain ⟨x0, x1, x2, x3, d0, d1, d2, d3, f0, f1, f2, f3⟩ := hs4.cells))
    exact bodyPost_ret (v := tokV k ⟨t.toArray⟩ m i) (by simp [results, Tryz.results49, go_sem, d0, d1, d2, d3, tokV]) rfl (TokPost.ok rfl rfl ((hm4.past hb3).set4 (Nat.le_refl _) _ _ _ _))
  · have hc3 : Calls Tryz.prog 77 #[.pointer (some ⟨b, 0, none⟩)] w3 fun e w' => e = .panicked (thrown (i + o) er) ∧ ∃ j, Mv b j w3 w' := hc3
    go_wp2_with (first
      | (go_at_call 72; refine (isLetter_any _ _).mono ?_; rw [hl]; rintro e w9 ⟨rfl, rfl⟩)
      | (go_at_call 74; refine (isDigit_any _ _).mono ?_; rw [hd]; rintro e w9 ⟨rfl, rfl⟩)
      | (go_at_call 77; refine hc3.mono ?_; rintro e w4 ⟨rfl, j4, hm4⟩))
    exact ⟨rfl, TokPost.bad rfl rfl ⟨_, hm4.past hb3⟩⟩

set_option maxHeartbeats 2000000 in
theorem token_end (b : Nat) (s : ByteArray) (w : World) (h : At b s s.size w) (hs : s.size ≤ 16384) :
    Calls Tryz.prog 49 #[.pointer (some ⟨b, 0, none⟩)] w fun e w' => TokPost (Lx.R.ok 5 [] 0 0) b s.size w e w' := by
  have hsm : s.size ≤ maxLen := by unfold maxLen; omega
  have hb0 : Below w.heap.size w (w.alloc slot0) := (Below.refl _ _).alloc (Nat.le_refl _) _
  have hat := h.below hb0 h.there
  have hsl := Slot.new w
  have hlt := h.there
  have hmv := (Mv.refl h).below' hb0 (Nat.le_refl _)
  go_enter Tryz.func49, Tryz.ntmps49
  go_wp2_with fail
  generalize w.alloc slot0 = w1 at *
  refine (ended_yes b s _ hat hsm).mono ?_
  rintro e w2 ⟨rfl, n2, rfl⟩
  obtain ⟨t0, t1, t2, t3⟩ := hat
  obtain ⟨x0, x1, x2, x3, d0, d1, d2, d3, f0, f1, f2, f3⟩ := hsl.cells
  go_wp2
  exact bodyPost_ret (v := tokV 5 ⟨#[]⟩ 0 s.size) (by simp [results, Tryz.results49, go_sem, d0, d1, d2, d3, tokV]) rfl (TokPost.ok rfl rfl ((hmv.below' (below_drewN (Below.refl _ _) _) (Nat.le_refl _)).set4 (Nat.le_refl _) _ _ _ _))

theorem token_any (b : Nat) (s : ByteArray) (i : Nat) (w : World) (h : At b s i w) (henv : Env w) (hbe : 2 ≠ b) (hs : s.size ≤ 16384) (hi : i ≤ s.size) :
    Calls Tryz.prog 49 #[.pointer (some ⟨b, 0, none⟩)] w fun e w' => TokPost (Lx.tokR dotC (s.data.toList.drop i)) b i w e w' := by
  by_cases hend : i = s.size
  · subst hend
    rw [drop_end]
    exact token_end b s w h hs
  · have hi' : i < s.size := by omega
    have hd0 := drop_at s i hi'
    have hat : ∀ w1, Below w.heap.size w w1 → At b s i w1 := fun w1 hb => h.below hb h.there
    have hev : ∀ w1, Below w.heap.size w w1 → Env w1 := fun w1 hb => henv.below hb henv.lt
    rcases hl : Lx.isLetter s[i] with _ | _
    · rcases hd : Lx.isDigit s[i] with _ | _
      · by_cases hk : s[i] = 34
        · have e : Lx.tokR dotC (s.data.toList.drop i) = Lx.quoteR (s.data.toList.drop (i + 1)) 1 [] := by
            rw [hd0]; simp only [Lx.tokR, hl, hd, Bool.false_eq_true, if_false, if_pos hk]
          rw [e]
          exact token_quoted b s i w h hs hi' hk _ fun w1 hb => quoted_any b s i w1 (hat w1 hb) hs hi'
        · have e : Lx.tokR dotC (s.data.toList.drop i) = Lx.markR dotC (s.data.toList.drop i) := by
            rw [hd0]; simp only [Lx.tokR, hl, hd, Bool.false_eq_true, if_false, if_neg hk]
          rw [e]
          exact token_mark b s i w h hs hi' hl hd (fun a => hk (UInt8.toNat_inj.1 (by show s[i].toNat = 34; omega))) _ fun w1 hb => mark_tok b s i w1 (hat w1 hb) hs hi'
      · have e : Lx.tokR dotC (s.data.toList.drop i) = Lx.numberR (s.data.toList.drop i) := by
          rw [hd0]; simp only [Lx.tokR, hl, hd, Bool.false_eq_true, if_false, if_true]
        rw [e]
        exact token_number b s i w h hs hi' hl hd _ fun w1 hb => number_tok b s i w1 (hat w1 hb) (hev w1 hb) hbe hs hi' hd
    · have e : Lx.tokR dotC (s.data.toList.drop i) = Lx.nameR (s.data.toList.drop i) := by
        rw [hd0]; simp only [Lx.tokR, hl, if_true]
      rw [e]
      exact token_name b s i w h hs hi' hl _ fun w1 hb => name_tok b s i w1 (hat w1 hb) hs hi'
end Go.Proofs.YtifebbdjdllfpaaGreatDoor
