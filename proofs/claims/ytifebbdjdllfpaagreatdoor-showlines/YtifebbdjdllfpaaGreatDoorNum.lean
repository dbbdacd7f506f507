/- Numbers: what the library's reading of decimal digits answers, against their value; the walk of the program's number. -/
import Derived.Test.YtifebbdjdllfpaaGreatDoorName
import Derived.Lib.ParseIntBCases
namespace Go.Proofs.YtifebbdjdllfpaaGreatDoor
open Go.RowKit
set_option linter.unusedSimpArgs false
set_option linter.unusedVariables false

def valF (acc : Nat) (t : List UInt8) : Nat := t.foldl (fun n c => n * 10 + (c.toNat - 48)) acc
theorem valF_ge : ∀ (t : List UInt8) (acc : Nat), acc ≤ valF acc t
  | [], acc => Nat.le_refl _
  | c :: r, acc => by
    have h := valF_ge r (acc * 10 + (c.toNat - 48))
    show acc ≤ valF (acc * 10 + (c.toNat - 48)) r
    omega
theorem parse_digits : ∀ (t : List UInt8) (acc : Nat), (∀ c ∈ t, Lx.isDigit c = true) → acc ≤ 18446744073709551615 →
    Lib.parseUintM 18446744073709551615 acc t = if valF acc t ≤ 18446744073709551615 then .ok (valF acc t) else .range
  | [], acc, _, h => by
    have hv : valF acc [] = acc := rfl
    rw [hv, if_pos h]; rfl
  | c :: r, acc, hd, h => by
    have hc := hd c (by simp)
    simp [Lx.isDigit, UInt8.le_iff_toNat_le] at hc
    have hge := valF_ge r (acc * 10 + (c.toNat - 48))
    have hv : valF acc (c :: r) = valF (acc * 10 + (c.toNat - 48)) r := rfl
    rw [hv, Lib.parseUintM, if_pos hc]
    by_cases h1 : 1844674407370955162 ≤ acc
    · rw [if_pos h1, if_neg (by omega)]
    · rw [if_neg h1]
      by_cases h2 : 18446744073709551615 < acc * 10 + (c.toNat - 48)
      · rw [if_pos h2, if_neg (by omega)]
      · rw [if_neg h2]
        exact parse_digits r _ (fun x hx => hd x (by simp [hx])) (by omega)
theorem parse_int (t : List UInt8) (hne : t ≠ []) (hd : ∀ c ∈ t, Lx.isDigit c = true) : Lib.parseIntB 64 t = if Lx.value t ≤ 9223372036854775807 then .ok (Lx.value t : Int) else .range := by
  match t, hne, hd with
  | c :: r, _, hd =>
    have hc := hd c (by simp)
    simp [Lx.isDigit, UInt8.le_iff_toNat_le] at hc
    rw [Lib.parseIntB_plain 64 c r (by omega) (by omega)]
    have hu : Lib.parseUintB 64 (c :: r) = if valF 0 (c :: r) ≤ 18446744073709551615 then .ok (valF 0 (c :: r)) else .range := by
      unfold Lib.parseUintB
      rw [if_neg (by simp)]
      exact parse_digits (c :: r) 0 hd (by omega)
    rw [hu]
    have hv : Lx.value (c :: r) = valF 0 (c :: r) := rfl
    rw [hv]
    by_cases h1 : valF 0 (c :: r) ≤ 18446744073709551615
    · rw [if_pos h1]
      simp only [Lib.signlessC]
      by_cases h2 : valF 0 (c :: r) ≤ 9223372036854775807
      · rw [if_pos h2, if_neg (by show ¬ 9223372036854775808 ≤ _; omega)]
      · rw [if_neg h2, if_pos (by show 9223372036854775808 ≤ _; omega)]
    · rw [if_neg h1, if_neg (by omega)]; rfl

/-- The library's sentinel for numbers out of range lies where the program's text lays it. -/
def Env (w : World) : Prop := ∃ tp p, w.cell? ⟨2, 0, none⟩ = some (.iface tp p)
theorem Env.lt {w : World} (h : Env w) : 2 < w.heap.size := by
  obtain ⟨tp, p, h⟩ := h
  exact Lib.lt_of_cell h
theorem Env.below {w w' : World} {B : Nat} (h : Env w) (m : Below B w w') (hB : 2 < B) : Env w' := by
  obtain ⟨tp, p, h⟩ := h
  exact ⟨tp, p, (m.cell (p := ⟨2, 0, none⟩) hB).trans h⟩
theorem Env.mv {w w' : World} {b j : Nat} (h : Env w) (m : Mv b j w w') (hb : 2 ≠ b) : Env w' := by
  have hl := h.lt
  obtain ⟨tp, p, h⟩ := h
  exact ⟨tp, p, (World.cell?_of_block (w := w) (m.kept hl hb)).trans h⟩

theorem parse_ok (t : ByteArray) (w : World) (hn : t.size ≤ 16384) (hne : t.size ≠ 0) (hd : ∀ c ∈ t.data.toList, Lx.isDigit c = true) (hv : Lx.value t.data.toList ≤ 9223372036854775807) :
    Calls Tryz.prog 98 #[.string t, .int .i64 10, .int .i64 64] w fun e w' => e = .returned (.tuple #[.int .i64 (Lx.value t.data.toList : Nat), .nilIface]) ∧ Below w.heap.size w w' := by
  refine (Tryz.strconv_ParseInt_10_at64_ok t (by omega) (Lx.value t.data.toList : Nat) (by rw [parse_int _ (by intro e; apply hne; have := congrArg List.length e; simpa using this) hd, if_pos hv]) w).mono ?_
  rintro e w' ⟨rfl, hw⟩
  refine ⟨rfl, ?_⟩
  rcases hw with rfl | ⟨t', rfl⟩
  · exact Below.refl _ _
  · exact Lib.bytesWorld_below _ _ _
theorem parse_bad (t : ByteArray) (w : World) (henv : Env w) (hn : t.size ≤ 16384) (hne : t.size ≠ 0) (hd : ∀ c ∈ t.data.toList, Lx.isDigit c = true) (hv : ¬ Lx.value t.data.toList ≤ 9223372036854775807) :
    Calls Tryz.prog 98 #[.string t, .int .i64 10, .int .i64 64] w fun e w' => ∃ x N, e = .returned (.tuple #[.int .i64 x, .iface 157 (.pointer (some ⟨N, 0, none⟩))]) ∧ Below w.heap.size w w' := by
  obtain ⟨tp, p, hc⟩ := henv
  refine (Tryz.strconv_ParseInt_10_at64_range t (by omega) (by rw [parse_int _ (by intro e; apply hne; have := congrArg List.length e; simpa using this) hd, if_neg hv]) _ w hc (Or.inr ⟨_, _, rfl⟩)).mono ?_
  rintro e w' ⟨N, rfl, _, _, hb⟩
  exact ⟨_, N, rfl, hb⟩

theorem run_pos {s : ByteArray} {i : Nat} {p : UInt8 → Bool} (h : i < s.size) (hp : p s[i] = true) : 1 ≤ run s i p := by
  have e : s.data.toList.drop i = s[i] :: s.data.toList.drop (i + 1) := by
    rw [List.drop_eq_getElem_cons (by simpa using h)]
    congr 1
  unfold run
  rw [e, List.takeWhile_cons_of_pos hp]; simp
theorem run_text (s : ByteArray) (i : Nat) (p : UInt8 → Bool) : (s.extract i (i + run s i p)).data.toList = (s.data.toList.drop i).takeWhile p := by
  rw [ext_list, ← Lx.tw_take (p := p) (s.data.toList.drop i), List.take_drop]; rfl

set_option maxHeartbeats 2000000 in
theorem number_nought (b : Nat) (s : ByteArray) (i : Nat) (w : World) (h : At b s i w) (hs : s.size ≤ 16384) (hi : i < s.size) (h48 : s[i] = 48) (hn : 1 < run s i Lx.isDigit) :
    Calls Tryz.prog 75 #[.pointer (some ⟨b, 0, none⟩)] w fun e w' => e = .panicked (thrown i 30) ∧ ∃ j, Mv b j w w' := by
  have hsm : s.size ≤ maxLen := by unfold maxLen; omega
  obtain ⟨c0, c1, c2, c3⟩ := h
  have h : At b s i w := ⟨c0, c1, c2, c3⟩
  have hle := run_le s i Lx.isDigit (by omega)
  have hsz : (s.extract i (i + run s i Lx.isDigit)).size = run s i Lx.isDigit := by rw [ext_size hle]; omega
  have hfirst : ((s.extract i (i + run s i Lx.isDigit))[0]'(by omega)) = 48 := by rw [ByteArray.getElem_extract]; exact h48
  have hb0 : Below w.heap.size w (w.alloc slot0) := (Below.refl _ _).alloc (Nat.le_refl _) _
  have hat := h.below hb0 c3
  go_enter Tryz.func75, Tryz.ntmps75
  go_wp2_with (first
    | (go_at_call 68; refine (take_mv b s i _ _ _ hat hsm (by omega) kDigit eDigit).mono ?_; rintro e w1 ⟨rfl, hm1⟩)
    | (go_at_call 50; refine (giveUp_any i 30 _).mono ?_; rintro e w2 ⟨rfl, rfl⟩))
  exact ⟨rfl, rfl, _, hm1.past hb0⟩

set_option maxHeartbeats 4000000 in
theorem number_long (b : Nat) (s : ByteArray) (i : Nat) (w : World) (h : At b s i w) (henv : Env w) (hbe : 2 ≠ b) (hs : s.size ≤ 16384) (hi : i < s.size) (hdig : Lx.isDigit s[i] = true) (h48 : ¬ (s[i] = 48 ∧ 1 < run s i Lx.isDigit))
    (hv : ¬ Lx.value ((s.data.toList.drop i).takeWhile Lx.isDigit) ≤ 9223372036854775807) :
    Calls Tryz.prog 75 #[.pointer (some ⟨b, 0, none⟩)] w fun e w' => e = .panicked (thrown i 3) ∧ ∃ j, Mv b j w w' := by
  have hsm : s.size ≤ maxLen := by unfold maxLen; omega
  obtain ⟨c0, c1, c2, c3⟩ := h
  have h : At b s i w := ⟨c0, c1, c2, c3⟩
  have hpos := run_pos hi hdig
  have hle := run_le s i Lx.isDigit (by omega)
  have hsz : (s.extract i (i + run s i Lx.isDigit)).size = run s i Lx.isDigit := by rw [ext_size hle]; omega
  have hb0 : Below w.heap.size w (w.alloc slot0) := (Below.refl _ _).alloc (Nat.le_refl _) _
  have hat := h.below hb0 c3
  have he0 := henv.below hb0 henv.lt
  have hall : Aside (∀ c ∈ (s.extract i (i + run s i Lx.isDigit)).data.toList, Lx.isDigit c = true) := by
    show ∀ c ∈ _, _
    rw [run_text]; exact Lx.tw_mem
  have hval : Aside (¬ Lx.value (s.extract i (i + run s i Lx.isDigit)).data.toList ≤ 9223372036854775807) := by
    show ¬ _
    rw [run_text]; exact hv
  have hfirst : Aside ((s.extract i (i + run s i Lx.isDigit))[0]'(by omega) = s[i]) := by show _ = _; rw [ByteArray.getElem_extract]; simp
  clear hv
  by_cases hf : s[i] = 48
  · have hx : ((s.extract i (i + run s i Lx.isDigit))[0]'(by omega)) = 48 := by rw [hfirst.out]; exact hf
    have hn : run s i Lx.isDigit ≤ 1 := Nat.le_of_not_lt fun a => h48 ⟨hf, a⟩
    clear h48
    go_enter Tryz.func75, Tryz.ntmps75
    go_wp2_with (first
      | (go_at_call 68; refine (take_mv b s i _ _ _ hat hsm (by omega) kDigit eDigit).mono ?_; rintro e w1 ⟨rfl, hm1⟩)
      | (go_at_call 98; refine (parse_bad _ _ (he0.mv hm1 hbe) (by rw [hsz]; omega) (by rw [hsz]; omega) hall.out hval.out).mono ?_; rintro e w2 ⟨xx, N, rfl, hb2⟩)
      | (go_at_call 50; refine (giveUp_any i 3 _).mono ?_; rintro e w3 ⟨rfl, rfl⟩))
    exact ⟨rfl, rfl, _, (hm1.past hb0).below hb2⟩
  · have hx : ¬ (((s.extract i (i + run s i Lx.isDigit))[0]'(by omega)).toNat : Int) = 48 := by
      rw [hfirst.out]; intro a; exact hf (UInt8.toNat_inj.1 (by show s[i].toNat = 48; omega))
    clear h48
    go_enter Tryz.func75, Tryz.ntmps75
    go_wp2_with (first
      | (go_at_call 68; refine (take_mv b s i _ _ _ hat hsm (by omega) kDigit eDigit).mono ?_; rintro e w1 ⟨rfl, hm1⟩)
      | (go_at_call 98; refine (parse_bad _ _ (he0.mv hm1 hbe) (by rw [hsz]; omega) (by rw [hsz]; omega) hall.out hval.out).mono ?_; rintro e w2 ⟨xx, N, rfl, hb2⟩)
      | (go_at_call 50; refine (giveUp_any i 3 _).mono ?_; rintro e w3 ⟨rfl, rfl⟩))
    exact ⟨rfl, rfl, _, (hm1.past hb0).below hb2⟩

set_option maxHeartbeats 4000000 in
theorem number_ok (b : Nat) (s : ByteArray) (i : Nat) (w : World) (h : At b s i w) (hs : s.size ≤ 16384) (hi : i < s.size) (hdig : Lx.isDigit s[i] = true) (h48 : ¬ (s[i] = 48 ∧ 1 < run s i Lx.isDigit))
    (hv : Lx.value ((s.data.toList.drop i).takeWhile Lx.isDigit) ≤ 9223372036854775807) :
    Calls Tryz.prog 75 #[.pointer (some ⟨b, 0, none⟩)] w fun e w' => e = .returned (tokV 2 (s.extract i (i + run s i Lx.isDigit)) (Lx.value (s.extract i (i + run s i Lx.isDigit)).data.toList) i) ∧ Mv b (i + run s i Lx.isDigit) w w' := by
  have hsm : s.size ≤ maxLen := by unfold maxLen; omega
  obtain ⟨c0, c1, c2, c3⟩ := h
  have h : At b s i w := ⟨c0, c1, c2, c3⟩
  have hpos := run_pos hi hdig
  have hle := run_le s i Lx.isDigit (by omega)
  have hsz : (s.extract i (i + run s i Lx.isDigit)).size = run s i Lx.isDigit := by rw [ext_size hle]; omega
  have hb0 : Below w.heap.size w (w.alloc slot0) := (Below.refl _ _).alloc (Nat.le_refl _) _
  have hat := h.below hb0 c3
  have hall : Aside (∀ c ∈ (s.extract i (i + run s i Lx.isDigit)).data.toList, Lx.isDigit c = true) := by
    show ∀ c ∈ _, _
    rw [run_text]; exact Lx.tw_mem
  have hval : Aside ( Lx.value (s.extract i (i + run s i Lx.isDigit)).data.toList ≤ 9223372036854775807) := by
    show _ ≤ _
    rw [run_text]; exact hv
  have hfirst : Aside ((s.extract i (i + run s i Lx.isDigit))[0]'(by omega) = s[i]) := by show _ = _; rw [ByteArray.getElem_extract]; simp
  clear hv
  by_cases hf : s[i] = 48
  · have hx : ((s.extract i (i + run s i Lx.isDigit))[0]'(by omega)) = 48 := by rw [hfirst.out]; exact hf
    have hn : run s i Lx.isDigit ≤ 1 := Nat.le_of_not_lt fun a => h48 ⟨hf, a⟩
    clear h48
    go_enter Tryz.func75, Tryz.ntmps75
    go_wp2_with (first
      | (go_at_call 68; refine (take_mv b s i _ _ _ hat hsm (by omega) kDigit eDigit).mono ?_; rintro e w1 ⟨rfl, hm1⟩)
      | (go_at_call 98; refine (parse_ok _ _ (by rw [hsz]; omega) (by rw [hsz]; omega) hall.out hval.out).mono ?_; rintro e w2 ⟨rfl, hb2⟩))
    refine (clone_any _ _ (by rw [hsz]; omega)).mono ?_
    rintro e w3 ⟨rfl, hb3⟩
    have hs1 := (Slot.new w).mv hm1 (by omega)
    have hs2 := hs1.below hb2 hs1.lt
    have hs3 := hs2.below hb3 hs2.lt
    obtain ⟨x0, x1, x2, x3, d0, d1, d2, d3, f0, f1, f2, f3⟩ := hs3.cells
    go_wp2
    exact bodyPost_ret (v := tokV 2 (s.extract i (i + run s i Lx.isDigit)) (Lx.value (s.extract i (i + run s i Lx.isDigit)).data.toList) i) (by simp [results, Tryz.results75, go_sem, d0, d1, d2, d3, tokV]) rfl
      ⟨rfl, (((hm1.past hb0).below hb2).below' hb3 (Nat.le_of_lt hs2.lt)).set4 (Nat.le_refl _) _ _ _ _⟩
  · have hx : ¬ (((s.extract i (i + run s i Lx.isDigit))[0]'(by omega)).toNat : Int) = 48 := by
      rw [hfirst.out]; intro a; exact hf (UInt8.toNat_inj.1 (by show s[i].toNat = 48; omega))
    clear h48
    go_enter Tryz.func75, Tryz.ntmps75
    go_wp2_with (first
      | (go_at_call 68; refine (take_mv b s i _ _ _ hat hsm (by omega) kDigit eDigit).mono ?_; rintro e w1 ⟨rfl, hm1⟩)
      | (go_at_call 98; refine (parse_ok _ _ (by rw [hsz]; omega) (by rw [hsz]; omega) hall.out hval.out).mono ?_; rintro e w2 ⟨rfl, hb2⟩))
    refine (clone_any _ _ (by rw [hsz]; omega)).mono ?_
    rintro e w3 ⟨rfl, hb3⟩
    have hs1 := (Slot.new w).mv hm1 (by omega)
    have hs2 := hs1.below hb2 hs1.lt
    have hs3 := hs2.below hb3 hs2.lt
    obtain ⟨x0, x1, x2, x3, d0, d1, d2, d3, f0, f1, f2, f3⟩ := hs3.cells
    go_wp2
    exact bodyPost_ret (v := tokV 2 (s.extract i (i + run s i Lx.isDigit)) (Lx.value (s.extract i (i + run s i Lx.isDigit)).data.toList) i) (by simp [results, Tryz.results75, go_sem, d0, d1, d2, d3, tokV]) rfl
      ⟨rfl, (((hm1.past hb0).below hb2).below' hb3 (Nat.le_of_lt hs2.lt)).set4 (Nat.le_refl _) _ _ _ _⟩
end Go.Proofs.YtifebbdjdllfpaaGreatDoor
