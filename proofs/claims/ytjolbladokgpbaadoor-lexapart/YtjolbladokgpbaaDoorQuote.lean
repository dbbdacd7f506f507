/- Quote, the program's and the document's. -/
import Derived.Test.YtjolbladokgpbaaDoorWords
namespace Go.Proofs.YtjolbladokgpbaaDoor
open Go.RowKit
set_option linter.unusedSimpArgs false
set_option linter.unusedVariables false

def escT (l : List UInt8) : List UInt8 := l.flatMap fun c => if Lx.isEsc c then [92, c] else [c]
def quoteT (l : List UInt8) : List UInt8 := 34 :: escT l ++ [34]
theorem escT_snoc (l : List UInt8) (c : UInt8) : escT (l ++ [c]) = escT l ++ if Lx.isEsc c then [92, c] else [c] := by simp [escT]
theorem escT_len : ∀ l : List UInt8, (escT l).length ≤ 2 * l.length
  | [] => by simp [escT]
  | c :: r => by
    have h := escT_len r
    have e : escT (c :: r) = (if Lx.isEsc c then [92, c] else [c]) ++ escT r := by simp [escT]
    rw [e]; split <;> simp <;> omega
theorem take_next (s : ByteArray) (k : Nat) (h : k < s.size) : s.data.toList.take (k + 1) = s.data.toList.take k ++ [s[k]] := by
  rw [List.take_succ_eq_append_getElem (by simpa using h)]; rfl
theorem cells_snoc (l : List UInt8) (c : UInt8) : Lib.byteCells (l ++ [c]) = Lib.byteCells l ++ [.int .u8 c.toNat] := by simp [Lib.byteCells]
theorem write_any (B b : Nat) (l : List UInt8) (c : UInt8) (w : World) (h : IsB B b (Lib.byteCells l) w) (hl : l.length + 1 ≤ 140737488355328) (hB : B ≤ b) :
    Calls Tryd.prog 24 #[.pointer (some ⟨b, 0, none⟩), .int .u8 c.toNat] w fun e w' => e = .returned .nilIface ∧ (IsB B b (Lib.byteCells (l ++ [c])) w' ∧ Below B w w') := by
  rw [cells_snoc]
  exact writeByte_any B b (Lib.byteCells l) c.toNat w h (by simp [Lib.byteCells]; omega) (by have := h.lt; omega)
theorem write34 (B b : Nat) (l : List UInt8) (w : World) (h : IsB B b (Lib.byteCells l) w) (hl : l.length + 1 ≤ 140737488355328) (hB : B ≤ b) :
    Calls Tryd.prog 24 #[.pointer (some ⟨b, 0, none⟩), .int .u8 34] w fun e w' => e = .returned .nilIface ∧ (IsB B b (Lib.byteCells (l ++ [34])) w' ∧ Below B w w') := write_any B b l 34 w h hl hB
theorem write92 (B b : Nat) (l : List UInt8) (w : World) (h : IsB B b (Lib.byteCells l) w) (hl : l.length + 1 ≤ 140737488355328) (hB : B ≤ b) :
    Calls Tryd.prog 24 #[.pointer (some ⟨b, 0, none⟩), .int .u8 92] w fun e w' => e = .returned .nilIface ∧ (IsB B b (Lib.byteCells (l ++ [92])) w' ∧ Below B w w') := write_any B b l 92 w h hl hB

set_option maxHeartbeats 4000000 in
theorem quote_any (s : ByteArray) (w : World) (hs : s.size ≤ 1099511627776) : Calls Tryd.prog 13 #[.string s] w fun e w' => e = .returned (.string ⟨(quoteT s.data.toList).toArray⟩) ∧ Below w.heap.size w w' := by
  have hl := len_list s
  have hb0 : Below w.heap.size w (w.alloc (.cells #[.pointer none, .slice none 0 0] 44)) := (Below.refl _ _).alloc (Nat.le_refl _) _
  have hi0 : IsB w.heap.size w.heap.size (Lib.byteCells []) (w.alloc (.cells #[.pointer none, .slice none 0 0] 44)) := fresh_builder (Nat.le_refl _) (by show (w.heap.push _)[w.heap.size]? = _; rw [Array.getElem?_push, if_pos rfl])
  go_enter Tryd.func13, Tryd.ntmps13
  go_wp2_with (go_at_call 24; refine (write34 w.heap.size w.heap.size [] _ hi0 (by simp) (Nat.le_refl _)).mono ?_; rintro e w1 ⟨rfl, hi1, hb1⟩)
  go_loopg [8] s.size (fun g i wr => ∃ k : Nat, k ≤ s.size ∧ g = s.size - k ∧ i = .int .i64 k ∧ IsB w.heap.size w.heap.size (Lib.byteCells (34 :: escT (s.data.toList.take k))) wr ∧ Below w.heap.size w wr)
  case atStart => exact ⟨0, Nat.zero_le _, rfl, rfl, hi1, hb0.trans hb1⟩
  case round =>
    obtain ⟨k, hk, rfl, rfl, hi, hb⟩ := hrel
    clear hi0 hi1 hb0 hb1
    have hlen := escT_len (s.data.toList.take k)
    have htl : (s.data.toList.take k).length ≤ k := List.length_take_le _ _
    by_cases hlt : k < s.size
    · have htn := take_next s k hlt
      rcases hp : Lx.isEsc s[k] with _ | _
      · have hnx : Aside (34 :: escT (s.data.toList.take (k + 1)) = (34 :: escT (s.data.toList.take k)) ++ [s[k]]) := by
          show _ = _
          rw [htn, escT_snoc, hp]; rfl
        have hw := write_any w.heap.size w.heap.size _ s[k] wr hi (by simp; omega) (Nat.le_refl _)
        clear htn
        go_wp2_with (first
          | (go_at_call 25; refine (needs_any _ _).mono ?_; rw [hp]; rintro e w' ⟨rfl, rfl⟩)
          | (go_at_call 24; refine hw.mono ?_; rintro e w2 ⟨rfl, hi2, hb2⟩))
        go_roundg (s.size - (k + 1))
        case measure => omega
        case rel => exact ⟨k + 1, by omega, rfl, by go_num, by rw [hnx.out]; exact hi2, hb.trans hb2⟩
      · have hnx : Aside (34 :: escT (s.data.toList.take (k + 1)) = ((34 :: escT (s.data.toList.take k)) ++ [92]) ++ [s[k]]) := by
          show _ = _
          rw [htn, escT_snoc, hp]; simp
        have hw1 := write92 w.heap.size w.heap.size _ wr hi (by simp; omega) (Nat.le_refl _)
        have hw2 : ∀ w2, IsB w.heap.size w.heap.size (Lib.byteCells ((34 :: escT (s.data.toList.take k)) ++ [92])) w2 → _ := fun w2 h2 => write_any w.heap.size w.heap.size _ s[k] w2 h2 (by simp; omega) (Nat.le_refl _)
        clear htn
        go_wp2_with fail
        refine (needs_any _ _).mono ?_
        rw [hp]
        rintro e w' ⟨rfl, rfl⟩
        go_wp2_with fail
        refine hw1.mono ?_
        rintro e w2 ⟨rfl, hi2, hb2⟩
        go_wp2_with fail
        refine (hw2 w2 hi2).mono ?_
        rintro e w3 ⟨rfl, hi3, hb3⟩
        go_wp2_with fail
        go_roundg (s.size - (k + 1))
        case measure => omega
        case rel => exact ⟨k + 1, by omega, rfl, by go_num, by rw [hnx.out]; exact hi3, (hb.trans hb2).trans hb3⟩
    · have hfull : s.data.toList.take k = s.data.toList := List.take_of_length_le (by omega)
      rw [hfull] at hi hlen
      have hw := write34 w.heap.size w.heap.size _ wr hi (by simp; omega) (Nat.le_refl _)
      clear hfull htl hl
      go_wp2_with fail
      refine hw.mono ?_
      rintro e w2 ⟨rfl, hi2, hb2⟩
      have hst := string_any w.heap.size w.heap.size _ w2 hi2 (by have := hi2.lt; omega)
      go_wp2_with fail
      refine hst.mono ?_
      rintro e w3 ⟨rfl, hb3⟩
      go_wp2
      go_ret
      exact ⟨rfl, (hb.trans hb2).trans hb3⟩

def Row (w0 : World) (v : Value) (l : List UInt8) (w : World) : Prop := w.ownsRow w0.heap.size 5 1 v l.length (Lib.byteCells l)

theorem esc_no {c : UInt8} (h : Lx.isEsc c = false) : ((c.toNat : Int) == 34) = false ∧ ((c.toNat : Int) == 92) = false := by
  simp only [Lx.isEsc, Bool.or_eq_false_iff, beq_eq_false_iff_ne, ne_eq, ← UInt8.toNat_inj] at h ⊢
  obtain ⟨h1, h2⟩ := h
  exact ⟨fun a => h1 (by show c.toNat = 34; omega), fun a => h2 (by show c.toNat = 92; omega)⟩
theorem esc_yes {c : UInt8} (h : Lx.isEsc c = true) : ((c.toNat : Int) == 34) = true ∨ ((c.toNat : Int) == 92) = true := by
  simp only [Lx.isEsc, Bool.or_eq_true, beq_iff_eq] at h ⊢
  rcases h with rfl | rfl
  · exact Or.inl rfl
  · exact Or.inr rfl

set_option maxHeartbeats 4000000 in
theorem rquote_any (s : ByteArray) (w : World) (hs : s.size ≤ 1099511627776) : Calls Tryd.prog 14 #[.string s] w fun e w' => e = .returned (.string ⟨(quoteT s.data.toList).toArray⟩) ∧ Below w.heap.size w w' := by
  have hl := len_list s
  obtain ⟨i0, hi0, hz⟩ := Option.map_eq_some_iff.1 (show (Tryd.prog.info? 5).map (fun i => (i.zero, i.size, i.bytes)) = some (some (.int .u8 0), 1, 1) by kernel_rfl)
  simp only [Prod.mk.injEq] at hz
  obtain ⟨hz0, hz1, hz2⟩ := hz
  have hb0 : Below w.heap.size w (w.alloc (.cells #[.int .u8 34] 5)) := (Below.refl _ _).alloc (Nat.le_refl _) _
  have hr0 : Row w (.slice (some ⟨w.heap.size, 0, none⟩) 1 1) [34] (w.alloc (.cells #[.int .u8 34] 5)) :=
    ⟨rfl, Or.inr ⟨w.heap.size, 1, #[.int .u8 34], rfl, Nat.le_refl _, by show (w.heap.push _)[w.heap.size]? = _; rw [Array.getElem?_push, if_pos rfl], by simp, by unfold maxLen; omega, rfl, rfl⟩⟩
  go_enter Tryd.func14, Tryd.ntmps14
  go_wp2_with fail
  go_loopg [3, 4] s.size (fun g v i wr => ∃ k : Nat, k ≤ s.size ∧ g = s.size - k ∧ i = .int .i64 k ∧ Row w v (34 :: escT (s.data.toList.take k)) wr ∧ Below w.heap.size w wr)
  case atStart => exact ⟨0, Nat.zero_le _, rfl, rfl, hr0, hb0⟩
  case round =>
    obtain ⟨k, hk, rfl, rfl, hr, hb⟩ := hrel
    clear hr0 hb0
    unfold Row at hr
    have hlen := escT_len (s.data.toList.take k)
    have htl : (s.data.toList.take k).length ≤ k := List.length_take_le _ _
    by_cases hlt : k < s.size
    · have htn := take_next s k hlt
      rcases hp : Lx.isEsc s[k] with _ | _
      · have hnx : Aside (34 :: escT (s.data.toList.take (k + 1)) = (34 :: escT (s.data.toList.take k)) ++ [s[k]]) := by
          show _ = _
          rw [htn, escT_snoc, hp]; rfl
        obtain ⟨k1, k2⟩ := esc_no hp
        clear htn hp
        go_wp2_with (at_builtin; refine wpList_append_own _ rfl _ _ 32 rfl w.heap.size 5 i0 (.int .u8 0) 1 1 Tryd.underlying32 hi0 hz0 hz1 hz2 rfl (by decide) _ _ _ rfl (hr.alloc _) ⟨wr.heap.size, 0, none⟩ 1 1 [.int .u8 s[k].toNat] rfl rfl ?c1 ?c2 ?c3 ?c4 ?c5 ?_)
        case c1 =>
          intro j u hj
          match j, hj with
          | 0, hj => simp at hj; subst hj; simp [Addr.add]
        case c2 => intro u hu; simp at hu; subst hu; rfl
        case c3 => unfold maxLen; simp; omega
        case c4 => simp; omega
        case c5 => have := hb.size; simp; omega
        intro v' w2 hr2 hg2 _
        go_wp2_with fail
        go_roundg (s.size - (k + 1))
        case measure => omega
        case rel =>
          refine ⟨k + 1, by omega, rfl, by go_num, ?_, (hb.alloc hb.size _).grown hg2 (by have := hb.size; simp; omega) (fun x hx => (hr.lt x hx).1)⟩
          rw [hnx.out]
          unfold Row
          rw [cells_snoc]
          simpa using hr2
      · have hnx : Aside (34 :: escT (s.data.toList.take (k + 1)) = ((34 :: escT (s.data.toList.take k)) ++ [92]) ++ [s[k]]) := by
          show _ = _
          rw [htn, escT_snoc, hp]; simp
        have hor : (((s[k].toNat : Int) == 34) = true ∧ True) ∨ (((s[k].toNat : Int) == 34) = false ∧ ((s[k].toNat : Int) == 92) = true) := by
          rcases esc_yes hp with h | h
          · exact Or.inl ⟨h, trivial⟩
          · exact Or.inr ⟨by have : (s[k].toNat : Int) = 92 := by simpa using h
                             rw [this]; rfl, h⟩
        clear htn hp
        rcases hor with ⟨k1, k2⟩ | ⟨k1, k2⟩
        all_goals
          go_wp2_with (at_builtin; refine wpList_append_own _ rfl _ _ 32 rfl w.heap.size 5 i0 (.int .u8 0) 1 1 Tryd.underlying32 hi0 hz0 hz1 hz2 rfl (by decide) _ _ _ rfl (hr.alloc _) ⟨wr.heap.size, 0, none⟩ 1 1 [.int .u8 92] rfl rfl ?c1 ?c2 ?c3 ?c4 ?c5 ?_)
          case c1 =>
            intro j u hj
            match j, hj with
            | 0, hj => simp at hj; subst hj; simp [Addr.add]
          case c2 => intro u hu; simp at hu; subst hu; rfl
          case c3 => unfold maxLen; simp; omega
          case c4 => simp; omega
          case c5 => have := hb.size; simp; omega
          intro v2 w2 hr2 hg2 _
          have hb2 : Below w.heap.size w w2 := (hb.alloc hb.size _).grown hg2 (by have := hb.size; simp; omega) (fun x hx => (hr.lt x hx).1)
          replace hr2 : w2.ownsRow w.heap.size 5 1 v2 ((34 :: escT (s.data.toList.take k)) ++ [92]).length (Lib.byteCells ((34 :: escT (s.data.toList.take k)) ++ [(92 : UInt8)])) := by
            rw [cells_snoc]; simpa using hr2
          clear hr hg2 hb
          go_wp2_with (at_builtin; refine wpList_append_own _ rfl _ _ 32 rfl w.heap.size 5 i0 (.int .u8 0) 1 1 Tryd.underlying32 hi0 hz0 hz1 hz2 rfl (by decide) _ _ _ rfl (hr2.alloc _) ⟨w2.heap.size, 0, none⟩ 1 1 [.int .u8 s[k].toNat] rfl rfl ?c1 ?c2 ?c3 ?c4 ?c5 ?_)
          case c1 =>
            intro j u hj
            match j, hj with
            | 0, hj => simp at hj; subst hj; simp [Addr.add]
          case c2 => intro u hu; simp at hu; subst hu; rfl
          case c3 => unfold maxLen; simp; omega
          case c4 => simp; omega
          case c5 => have := hb2.size; simp; omega
          intro v3 w3 hr3 hg3 _
          go_wp2_with fail
          go_roundg (s.size - (k + 1))
          case measure => omega
          case rel =>
            refine ⟨k + 1, by omega, rfl, by go_num, ?_, (hb2.alloc hb2.size _).grown hg3 (by have := hb2.size; simp; omega) (fun x hx => (hr2.lt x hx).1)⟩
            rw [hnx.out]
            unfold Row
            rw [cells_snoc]
            simpa using hr3
    · have hfull : s.data.toList.take k = s.data.toList := List.take_of_length_le (by omega)
      rw [hfull] at hr hlen
      rw [hl] at hlen
      clear hfull htl hl
      go_wp2_with (at_builtin; refine wpList_append_own _ rfl _ _ 32 rfl w.heap.size 5 i0 (.int .u8 0) 1 1 Tryd.underlying32 hi0 hz0 hz1 hz2 rfl (by decide) _ _ _ rfl (hr.alloc _) ⟨wr.heap.size, 0, none⟩ 1 1 [.int .u8 34] rfl rfl ?c1 ?c2 ?c3 ?c4 ?c5 ?_)
      case c1 =>
        intro j u hj
        match j, hj with
        | 0, hj => simp at hj; subst hj; simp [Addr.add]
      case c2 => intro u hu; simp at hu; subst hu; rfl
      case c3 => unfold maxLen; simp; omega
      case c4 => simp; omega
      case c5 => have := hb.size; simp; omega
      intro v2 w2 hr2 hg2 _
      have hb2 : Below w.heap.size w w2 := (hb.alloc hb.size _).grown hg2 (by have := hb.size; simp; omega) (fun x hx => (hr.lt x hx).1)
      replace hr2 : w2.ownsRow w.heap.size 5 1 v2 (quoteT s.data.toList).length (Lib.byteCells (quoteT s.data.toList)) := by
        show w2.ownsRow _ _ _ _ ((34 :: escT s.data.toList) ++ [34]).length (Lib.byteCells ((34 :: escT s.data.toList) ++ [(34 : UInt8)]))
        rw [cells_snoc]; simpa using hr2
      clear hr hg2 hb
      obtain ⟨g, cap, rfl, _, _, hc⟩ := owns_cells hr2 (by simp [quoteT])
      have hcv := run_convert_bytes_back (P := Tryd.prog) w2 32 9 5 ⟨g, 0, none⟩ cap (quoteT s.data.toList) Tryd.underlying32 Tryd.underlying5 Tryd.underlying9 (by
        intro j hj
        have := hc j (.int .u8 ((quoteT s.data.toList)[j].toNat : Int)) (by simp [Lib.byteCells, List.getElem?_eq_getElem hj])
        have e : (⟨g, 0, none⟩ : Addr).add j = ⟨g, j, none⟩ := by unfold Addr.add; split <;> simp_all
        rw [e]; exact this)
      clear hc hr2
      go_wp2
      go_ret
      exact ⟨rfl, hb2⟩
end Go.Proofs.YtjolbladokgpbaaDoor
