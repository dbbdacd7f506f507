/- Texts of ours, joined: Je, Jf. -/
import Derived.Test.YtnijcolomoobnaaGreatDoorK08
import Derived.Test.YtnijcolomoobnaaGreatDoorK11
namespace Go.Proofs.YtnijcolomoobnaaGreatDoor
open Go.RowKit
set_option linter.unusedVariables false
set_option linter.unusedSimpArgs false
attribute [local go_sem ↓] Go.wp_at_zero Go.wp_at_succ

def RcPost (G : Nat → Prop) (p gh : Nat) (s : Option (List Int × List Nat)) (w : World) (e : Ending) (w' : World) : Prop := Fr G w w' ∧ e = .returned (.bool s.isSome) ∧ ∀ x, s = some x → Wk G p gh x.1 x.2 w'
set_option maxRecDepth 100000 in
set_option maxHeartbeats 600000 in
theorem reach_off {G : Nat → Prop} {p gh : Nat} {hs : List Int} {td : List Nat} {w : World} (h : Wk G p gh hs td w) (hlen : hs.length ≤ 900000) (htd : td.length ≤ 50000) {q : Nat} (hq : q ≤ 9000000) (x : Int) (hy : hs[q]? = none) : Calls Tryz.prog 146 #[.pointer (some ⟨p, 0, none⟩), .int .i64 q, .int .i64 x] w fun e w' => RcPost G p gh none w e w' := by
  obtain ⟨tv, b1, b2, b3, b4, b5⟩ := h.bx
  obtain ⟨c0, c1, f0, f1, hlp⟩ := cells_k2 b1
  have hq0 : (0 : Int) ≤ (q : Int) := by omega
  have hge : (hs.length : Int) ≤ (q : Int) := by have := List.getElem?_eq_none_iff.1 hy; omega
  have hpost : RcPost G p gh none w (.returned (.bool false)) w := ⟨Fr.refl _ _, rfl, fun x h => by cases h⟩
  clear b1 b2 b3 b4 b5 h hy
  go_enter Tryz.func146, Tryz.ntmps146
  go_wp2
  go_ret
  exact hpost
set_option maxRecDepth 100000 in
set_option maxHeartbeats 600000 in
theorem reach_old {G : Nat → Prop} {p gh : Nat} {hs : List Int} {td : List Nat} {w : World} (h : Wk G p gh hs td w) (hlen : hs.length ≤ 900000) (htd : td.length ≤ 50000) {q : Nat} {x y : Int} (hx : 0 ≤ x ∧ x ≤ 900) (hy : hs[q]? = some y) (hyb : 1 ≤ y ∧ y ≤ 1000) : Calls Tryz.prog 146 #[.pointer (some ⟨p, 0, none⟩), .int .i64 q, .int .i64 x] w fun e w' => RcPost G p gh (if y - 1 = x then some (hs, td) else none) w e w' := by
  obtain ⟨tv, b1, b2, b3, b4, b5⟩ := h.bx
  obtain ⟨c0, c1, f0, f1, hlp⟩ := cells_k2 b1
  have hq0 : (0 : Int) ≤ (q : Int) := by omega
  have hql := (List.getElem?_eq_some_iff.1 hy).1
  have hI : (q : Int) < (hs.length : Int) := by omega
  have hnI : ¬ (hs.length : Int) ≤ (q : Int) := by omega
  obtain ⟨k0, k1, k2⟩ := h.hk.get hy
  have hyn : (y == 0) = false := by rw [beq_eq_false_iff_ne]; omega
  have hH := height_any h hlen hy (by omega)
  have hpost : RcPost G p gh (if y - 1 = x then some (hs, td) else none) w (.returned (.bool (y - 1 == x))) w := by
    by_cases e : y - 1 = x
    · rw [if_pos e]
      exact ⟨Fr.refl _ _, by rw [e]; simp, fun z hz => by cases hz; exact h⟩
    · rw [if_neg e]
      have e2 : (y - 1 == x) = false := by simpa using e
      exact ⟨Fr.refl _ _, by rw [e2]; rfl, fun z hz => by cases hz⟩
  clear b1 b2 b3 b4 b5 h hy hql
  obtain ⟨S, hS⟩ : ∃ S, Hid ((if y - 1 = x then some (hs, td) else none) = S) := ⟨_, rfl⟩
  rw [hS.out] at hpost ⊢
  clear hS
  generalize y - 1 = z at *
  go_enter Tryz.func146, Tryz.ntmps146
  go_wp2_with fail
  refine hH.mono ?_
  rintro e w1 ⟨rfl, rfl⟩
  clear hH
  go_wp2
  go_ret
  exact hpost
set_option maxRecDepth 100000 in
set_option maxHeartbeats 600000 in
theorem reach_new {G : Nat → Prop} {p gh : Nat} {hs : List Int} {td : List Nat} {w : World} (h : Wk G p gh hs td w) (hlen : hs.length ≤ 900000) (htd : td.length ≤ 50000) {q : Nat} {x : Int} (hx : 0 ≤ x ∧ x ≤ 900) (hy : hs[q]? = some 0) : Calls Tryz.prog 146 #[.pointer (some ⟨p, 0, none⟩), .int .i64 q, .int .i64 x] w fun e w' => RcPost G p gh (some (hs.set q (x + 1), td ++ [q])) w e w' := by
  obtain ⟨tv, b1, b2, b3, b4, b5⟩ := h.bx
  have htv := b2.slice
  rw [tI_len] at htv
  obtain ⟨ao, c00, rfl, -, -⟩ := htv
  obtain ⟨c0, c1, f0, f1, hlp⟩ := cells_k2 b1
  have hq0 : (0 : Int) ≤ (q : Int) := by omega
  have hql := (List.getElem?_eq_some_iff.1 hy).1
  have hI : (q : Int) < (hs.length : Int) := by omega
  have hnI : ¬ (hs.length : Int) ≤ (q : Int) := by omega
  obtain ⟨k0, k1, k2⟩ := h.hk.get hy
  obtain ⟨x0, x1⟩ := hx
  have hwx : IntKind.i64.wrap (x + 1) = x + 1 := by rw [IntKind.wrap_i64]; omega
  -- the height is written
  obtain ⟨w1, hW1⟩ : ∃ w1, w.setCell ⟨gh, q, none⟩ (.int .i64 (x + 1)) = w1 := ⟨_, rfl⟩
  have hs1 : w1.heap.size = w.heap.size := by rw [← hW1]; simp [World.setCell]
  have hF1 : Fr G w w1 := by rw [← hW1]; exact Fr.set h.ng _ _
  have hi1 : Ints w1 gh (hs.set q (x + 1)) := by rw [← hW1]; exact h.hk.set q (x + 1)
  have b11 : w1.heap[p]? = some (.cells #[.slice (some ⟨gh, 0, none⟩) hs.length hs.length, .slice ao td.length c00] 152 (0, 0)) := by rw [← hW1]; exact (Below.heap_setCell _ _ _ _ h.pg).trans b1
  have b21 : IRow 0 w1 (.slice ao td.length c00) (tI td) := b2.since (fun j hj => by rw [← hW1]; exact Below.heap_setCell _ _ _ _ (by rintro rfl; exact b4 hj))
  -- a cell for what is appended
  obtain ⟨wa, hWa⟩ : ∃ wa, w1.alloc (.cells #[iV (q : Int)] 3) = wa := ⟨_, rfl⟩
  have hba : Below w1.heap.size w1 wa := by rw [← hWa]; exact (Below.refl _ _).alloc (Nat.le_refl _) _
  have hxa : wa.heap[w1.heap.size]? = some (.cells #[iV (q : Int)] 3 (0, 0)) := by rw [← hWa]; exact heap_new _ _
  have b2a : IRow 0 wa (.slice ao td.length c00) (tI td) := b21.since (fun j hj => hba.block j (b21.lt hj).2)
  obtain ⟨g, cap, wb, hrun, hrow, hgr, hat⟩ := b2a.push hxa (Nat.zero_le _) (by rw [tI_len]; omega) 1 122
  rw [tI_len] at hrun hrow
  have hFa : Fr G w1 wa := Fr.of_below hba
  have hFb : Fr G wa wb := Fr.grown hgr (fun k hk => b5 k hk)
  have hpa : p < wa.heap.size := Nat.lt_of_lt_of_le (Array.getElem?_eq_some_iff.1 b11).1 hba.size
  have hga : gh < wa.heap.size := Nat.lt_of_lt_of_le (Array.getElem?_eq_some_iff.1 hi1).1 hba.size
  have b1a : wa.heap[p]? = some (.cells #[.slice (some ⟨gh, 0, none⟩) hs.length hs.length, .slice ao td.length c00] 152 (0, 0)) := (hba.block _ (Array.getElem?_eq_some_iff.1 b11).1).trans b11
  have b1b : wb.heap[p]? = some (.cells #[.slice (some ⟨gh, 0, none⟩) hs.length hs.length, .slice ao td.length c00] 152 (0, 0)) := (hgr.block p hpa (fun e => b3 e.symm)).trans b1a
  have hib : Ints wb gh (hs.set q (x + 1)) := (hi1.keep (hba.block _ (Array.getElem?_eq_some_iff.1 hi1).1)).keep (hgr.block gh hga (fun e => b4 e.symm))
  obtain ⟨w3, hW3⟩ : ∃ w3, wb.setCell ⟨p, 1, none⟩ (.slice (some ⟨g, 0, none⟩) (td.length + 1) cap) = w3 := ⟨_, rfl⟩
  have hgp : g ≠ p ∧ g ≠ gh ∧ ¬ G g := by
    rcases hat with e | e
    · exact ⟨by rintro rfl; exact b3 e, by rintro rfl; exact b4 e, b5 g e⟩
    · refine ⟨by omega, by omega, fun hG => ?_⟩
      have := h.gb g hG
      have := hba.size
      omega
  have hF3 : Fr G wb w3 := by rw [← hW3]; exact Fr.set h.np _ _
  have hF : Fr G w w3 := ((hF1.trans hFa).trans hFb).trans hF3
  have hk3 : Wk G p gh (hs.set q (x + 1)) (td ++ [q]) w3 := by
    refine ⟨?_, ⟨.slice (some ⟨g, 0, none⟩) (td.length + 1) cap, ?_, ?_, ?_, ?_, ?_⟩, h.np, h.ng, h.pg, fun k hk => Nat.lt_of_lt_of_le (h.gb k hk) hF.size⟩
    · rw [← hW3]; exact hib.keep (Below.heap_setCell _ _ _ _ (Ne.symm h.pg))
    · rw [← hW3, List.length_set]; exact set2_1 b1b _
    · have e : tI (td ++ [q]) = tI td ++ [(q : Int)] := by simp [tI]
      rw [e]
      refine hrow.since (fun j hj => ?_)
      rw [← hW3]
      refine Below.heap_setCell _ _ _ _ ?_
      rintro rfl
      have : g = j := by simpa [Value.ownBlock] using hj
      exact hgp.1 this
    · intro e
      have : g = p := by simpa [Value.ownBlock] using e
      exact hgp.1 this
    · intro e
      have : g = gh := by simpa [Value.ownBlock] using e
      exact hgp.2.1 this
    · intro k e
      have : g = k := by simpa [Value.ownBlock] using e
      rw [← this]
      exact hgp.2.2
  have hH := height_any hk3 (by rw [List.length_set]; exact hlen) (q := q) (y := x + 1) (List.getElem?_set_self hql) (by omega)
  have hpost : RcPost G p gh (some (hs.set q (x + 1), td ++ [q])) w (.returned (.bool true)) w3 := ⟨hF, rfl, fun z hz => by cases hz; exact hk3⟩
  obtain ⟨c01, c11, f01, f11, -⟩ := cells_k2 b11
  obtain ⟨c0b, c1b, f0b, f1b, hlb⟩ := cells_k2 b1b
  obtain ⟨c0a, c1a, f0a, f1a, hla⟩ := cells_k2 b1a
  have hwy : x + 1 - 1 = x := by omega
  rw [hwy] at hH
  clear hs1 b1 b2 b3 b4 b5 h hy hF hF1 hFa hFb hF3 hk3 hgp hib hi1 b11 b21 b2a b1a b1b hrow hgr hat hba hxa hpa hga hwy
  go_enter Tryz.func146, Tryz.ntmps146
  go_wp2_with (at_builtin; refine Lib.wpList_append_run _ rfl _ _ 122 122 rfl _ _ rfl rfl _ _ hrun ?_; clear hrun)
  refine hH.mono ?_
  rintro e w4 ⟨rfl, rfl⟩
  clear hH
  go_wp2
  go_ret
  exact hpost
set_option maxRecDepth 100000 in
set_option maxHeartbeats 600000 in
theorem reach_any {G : Nat → Prop} {p gh : Nat} {hs : List Int} {td : List Nat} {w : World} (h : Wk G p gh hs td w) (hlen : hs.length ≤ 900000) (htd : td.length ≤ 50000) (hlow : ∀ (q : Nat) (y : Int), hs[q]? = some y → 0 ≤ y ∧ y ≤ 1000) (q : Nat) (hq : q ≤ 9000000) (x : Int) (hx : 0 ≤ x ∧ x ≤ 900) : Calls Tryz.prog 146 #[.pointer (some ⟨p, 0, none⟩), .int .i64 q, .int .i64 x] w fun e w' => RcPost G p gh (rch hs td q x) w e w' := by
  rcases hy : hs[q]? with _ | y
  · have hr : rch hs td q x = none := by unfold rch; rw [hy]
    rw [hr]
    exact reach_off h hlen htd hq x hy
  · by_cases hy0 : y = 0
    · subst hy0
      have hr : rch hs td q x = some (hs.set q (x + 1), td ++ [q]) := by unfold rch; rw [hy]; rfl
      rw [hr]
      exact reach_new h hlen htd hx hy
    · have hr : rch hs td q x = if y - 1 = x then some (hs, td) else none := by
        unfold rch; rw [hy]; show (if y = 0 then _ else _) = _; rw [if_neg hy0]
      rw [hr]
      exact reach_old h hlen htd hx hy (by have := hlow q y hy; omega)
end Go.Proofs.YtnijcolomoobnaaGreatDoor
namespace Go.Proofs.YtnijcolomoobnaaGreatDoor
open Go.RowKit
set_option linter.unusedVariables false
set_option linter.unusedSimpArgs false
attribute [local go_sem ↓] Go.wp_at_zero Go.wp_at_succ

theorem rch_low {hs : List Int} {td : List Nat} {q : Nat} {x : Int} {s : List Int × List Nat} (hx : 0 ≤ x ∧ x ≤ 900) (hlow : ∀ (q : Nat) (y : Int), hs[q]? = some y → 0 ≤ y ∧ y ≤ 1000) (h : rch hs td q x = some s) : (∀ (q : Nat) (y : Int), s.1[q]? = some y → 0 ≤ y ∧ y ≤ 1000) ∧ s.1.length = hs.length ∧ s.2.length ≤ td.length + 1 := by
  unfold rch at h
  rcases e : hs[q]? with _ | y
  · rw [e] at h; cases h
  · rw [e] at h
    have h' : (if y = 0 then some (hs.set q (x + 1), td ++ [q]) else if y - 1 = x then some (hs, td) else none) = some s := h
    split at h'
    · cases h'
      refine ⟨fun r z hz => ?_, by simp, by simp⟩
      have hz' : (hs.set q (x + 1))[r]? = some z := hz
      rw [List.getElem?_set] at hz'
      split at hz'
      · split at hz'
        · have := Option.some.inj hz'; omega
        · cases hz'
      · exact hlow r z hz'
    · split at h'
      · cases h'
        exact ⟨hlow, rfl, by simp⟩
      · cases h'
theorem rchs_one (x : Int) (hs : List Int) (td : List Nat) (q : Nat) : rchs x hs td [q] = rch hs td q x := by
  rw [rchs]
  rcases rch hs td q x with _ | s
  · rfl
  · show rchs x s.1 s.2 [] = some s
    rw [rchs]
theorem RcPost.less {G G' : Nat → Prop} {p gh : Nat} {s : Option (List Int × List Nat)} {w w0 : World} {e : Ending} {w' : World} (h : RcPost G p gh s w0 e w') (hb : Below w.heap.size w w0) (hG : ∀ k, G' k → G k) : RcPost G' p gh s w e w' :=
  ⟨(Fr.of_below hb).trans (h.1.mono hG), h.2.1, fun x hx => (h.2.2 x hx).less hG⟩
set_option maxRecDepth 100000 in
set_option maxHeartbeats 2000000 in
theorem goOn_any {G : Nat → Prop} {p gh : Nat} {hs : List Int} {td : List Nat} {w : World} (h : Wk G p gh hs td w) (hlen : hs.length ≤ 900000) (htd : td.length ≤ 40000) (hlow : ∀ (q : Nat) (y : Int), hs[q]? = some y → 0 ≤ y ∧ y ≤ 1000) (q : Nat) (hq : q ≤ 900000) (i : In) (hj : i.op = 7 ∨ i.op = 8 → 0 ≤ i.a ∧ i.a ≤ 900000) (x : Int) (hx : 0 ≤ x ∧ x ≤ 900) : Calls Tryz.prog 150 #[.pointer (some ⟨p, 0, none⟩), .int .i64 q, .agg #[.int .i64 i.op, .int .i64 i.a], .int .i64 x] w fun e w' => RcPost G p gh (rchs x hs td (lnx q i)) w e w' := by
  obtain ⟨w0, hW0, hb0, hl0, hx0⟩ := box2 w (.int .i64 i.op) (.int .i64 i.a) 48
  obtain ⟨c0, c1, -, -, hlc⟩ := cells_k2 hx0
  have h0 := h.more hb0 (b := w.heap.size) (Nat.le_refl _) (by omega)
  obtain ⟨op, a⟩ := i
  simp only at *
  have hw1 : IntKind.i64.wrap ((q : Int) + 1) = (q : Int) + 1 := by rw [IntKind.wrap_i64]; omega
  have hqc : ((q + 1 : Nat) : Int) = (q : Int) + 1 := by omega
  by_cases h7 : op = 7
  · obtain ⟨na, hna⟩ : ∃ na : Nat, a = (na : Int) := ⟨a.toNat, by have := hj (Or.inl h7); omega⟩
    have hlx : rchs x hs td (lnx q ⟨op, a⟩) = rch hs td na x := by
      rw [← rchs_one]; unfold lnx; rw [if_pos h7]; show rchs x hs td [a.toNat] = _; rw [hna]; rfl
    rw [hlx]
    have hR := reach_any h0 hlen (by omega) hlow na (by have := hj (Or.inl h7); omega) x hx
    subst h7 hna
    clear hlx h h0 hlow hj hl0 hx0 hqc hw1
    generalize rch hs td na x = S at *
    go_enter Tryz.func150, Tryz.ntmps150
    go_wp2_with fail
    refine hR.mono ?_
    rintro e w1 hp
    have he := hp.2.1
    subst he
    have hpost := hp.less hb0 (G' := G) (fun k hk => Or.inl hk)
    clear hR hp c0 c1
    go_wp2
    go_ret
    exact hpost
  by_cases h10 : op = 10
  · have hlx : rchs x hs td (lnx q ⟨op, a⟩) = some (hs, td) := by
      subst h10
      rfl
    rw [hlx]
    have hpost : RcPost G p gh (some (hs, td)) w (.returned (.bool true)) w0 := ⟨Fr.of_below hb0, rfl, fun z hz => by cases hz; exact h.keep hb0⟩
    subst h10
    clear hlx h h0 hlow hj hl0 hx0 hqc hw1
    go_enter Tryz.func150, Tryz.ntmps150
    go_wp2
    go_ret
    exact hpost
  have hR := reach_any h0 hlen (by omega) hlow (q + 1) (by omega) x hx
  rw [hqc] at hR
  by_cases h8 : op = 8
  rotate_left
  · have hlx : rchs x hs td (lnx q ⟨op, a⟩) = rch hs td (q + 1) x := by
      rw [← rchs_one]; unfold lnx; rw [if_neg h7, if_neg h8, if_neg h10]
    rw [hlx]
    have n7 : (op == 7) = false := by simpa using h7
    have n8 : (op == 8) = false := by simpa using h8
    have n10 : (op == 10) = false := by simpa using h10
    clear hlx h h0 hlow hj hl0 hx0 hqc h7 h8 h10
    generalize rch hs td (q + 1) x = S at *
    go_enter Tryz.func150, Tryz.ntmps150
    go_wp2_with fail
    refine hR.mono ?_
    rintro e w1 hp
    have he := hp.2.1
    subst he
    have hpost := hp.less hb0 (G' := G) (fun k hk => Or.inl hk)
    clear hR hp c0 c1
    go_wp2
    go_ret
    exact hpost
  obtain ⟨na, hna⟩ : ∃ na : Nat, a = (na : Int) := ⟨a.toNat, by have := hj (Or.inr h8); omega⟩
  have hnb : na ≤ 9000000 := by have := hj (Or.inr h8); omega
  have hlx : rchs x hs td (lnx q ⟨op, a⟩) = (rch hs td (q + 1) x).bind fun s => rch s.1 s.2 na x := by
    have e : lnx q ⟨op, a⟩ = [q + 1, na] := by unfold lnx; rw [if_neg h7, if_pos h8]; show [q + 1, a.toNat] = _; rw [hna]; rfl
    rw [e, rchs]
    congr 1
    funext s
    rw [rchs_one]
  rw [hlx]
  subst h8 hna
  clear hlx hl0 hj hqc
  rcases hS : rch hs td (q + 1) x with _ | s
  · rw [hS] at hR
    clear h h0 hlow hx0 h7 h10 hS
    go_enter Tryz.func150, Tryz.ntmps150
    go_wp2_with fail
    refine hR.mono ?_
    rintro e w1 hp
    have he := hp.2.1
    subst he
    have hpost : RcPost G p gh none w (.returned (.bool false)) w1 := hp.less hb0 (G' := G) (fun k hk => Or.inl hk)
    clear hR hp c0 c1
    simp only [Option.isSome_none, Option.bind_none]
    go_wp2
    go_ret
    exact hpost
  · rw [hS] at hR
    obtain ⟨l1, l2, l3⟩ := rch_low hx hlow hS
    clear h h0 hlow h7 h10 hS
    simp only [Option.bind_some]
    obtain ⟨S, hS2⟩ : ∃ S, Hid (rch s.1 s.2 na x = S) := ⟨_, rfl⟩
    rw [hS2.out]
    go_enter Tryz.func150, Tryz.ntmps150
    go_wp2_with fail
    refine hR.mono ?_
    rintro e w1 hp
    have he := hp.2.1
    subst he
    have hk1 := hp.2.2 s rfl
    obtain ⟨d0, d1, -, -, hld⟩ := cells_k2 ((hp.1.block _ (Or.inr rfl) hlc).trans hx0)
    have hR2 := reach_any hk1 (by omega) (by omega) l1 na hnb x hx
    rw [hS2.out] at hR2
    have hF := hp.1
    clear hR hp c0 c1 hk1 l1 hx0
    simp only [Option.isSome_some]
    go_wp2_with fail
    refine hR2.mono ?_
    rintro e w2 hp2
    have he2 := hp2.2.1
    subst he2
    have hpost : RcPost G p gh S w (.returned (.bool S.isSome)) w2 := ⟨(Fr.of_below hb0).trans ((hF.trans hp2.1).mono (fun k hk => Or.inl hk)), rfl, fun z hz => (hp2.2.2 z hz).less (fun k hk => Or.inl hk)⟩
    clear hR2 hp2 d0 d1 hF
    go_wp2
    go_ret
    exact hpost
end Go.Proofs.YtnijcolomoobnaaGreatDoor
