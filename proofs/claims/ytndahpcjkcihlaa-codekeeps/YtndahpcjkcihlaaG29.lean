/- Texts of ours, joined: Jf. -/
import Derived.Test.YtndahpcjkcihlaaG28
/- What comes behind an instruction is come to: the program's. -/
namespace Go.Proofs.Ytndahpcjkcihlaa
open Go.RowKit
set_option linter.unusedVariables false
set_option linter.unusedSimpArgs false
attribute [local go_sem ↓] Go.wp_at_zero Go.wp_at_succ

theorem rch_low {hs : List Int} {td : List Nat} {q : Nat} {x : Int} {s : List Int × List Nat} (hx : 0 ≤ x ∧ x ≤ 900) (hlow : ∀ (q : Nat) (y : Int), hs[q]? = some y → 0 ≤ y ∧ y ≤ 1000) (h : rch hs td q x = some s) : (∀ (q : Nat) (y : Int), s.1[q]? = some y → 0 ≤ y ∧ y ≤ 1000) ∧ s.1.length = hs.length ∧ s.2.length ≤ td.length + 1 := by
  unfold rch at h
  rcases e : hs[q]? with _ | y
  · rw [e] at h; cases h
  · rw [e] at h
    have h' : (if y = 0 then some (hs.set q (x + 1), td ++ [q]) else if y - 1 = x then some (hs, td) else none) = some s := h
    split at h'
    · cases h'
      refine ⟨fun r z hz => ?_, by simp, by simp⟩
      have hz' : (hs.set q (x + 1))[r]? = some z := hz
      rw [List.getElem?_set] at hz'
      split at hz'
      · split at hz'
        · have := Option.some.inj hz'; omega
        · cases hz'
      · exact hlow r z hz'
    · split at h'
      · cases h'
        exact ⟨hlow, rfl, by simp⟩
      · cases h'
theorem rchs_one (x : Int) (hs : List Int) (td : List Nat) (q : Nat) : rchs x hs td [q] = rch hs td q x := by
  rw [rchs]
  rcases rch hs td q x with _ | s
  · rfl
  · show rchs x s.1 s.2 [] = some s
    rw [rchs]
theorem RcPost.less {G G' : Nat → Prop} {p gh : Nat} {s : Option (List Int × List Nat)} {w w0 : World} {e : Ending} {w' : World} (h : RcPost G p gh s w0 e w') (hb : Below w.heap.size w w0) (hG : ∀ k, G' k → G k) : RcPost G' p gh s w e w' :=
  ⟨(Fr.of_below hb).trans (h.1.mono hG), h.2.1, fun x hx => (h.2.2 x hx).less hG⟩
set_option maxRecDepth 100000 in
set_option maxHeartbeats 2000000 in
theorem goOn_any {G : Nat → Prop} {p gh : Nat} {hs : List Int} {td : List Nat} {w : World} (h : Wk G p gh hs td w) (hlen : hs.length ≤ 900000) (htd : td.length ≤ 40000) (hlow : ∀ (q : Nat) (y : Int), hs[q]? = some y → 0 ≤ y ∧ y ≤ 1000) (q : Nat) (hq : q ≤ 900000) (i : In) (hj : i.op = 7 ∨ i.op = 8 → 0 ≤ i.a ∧ i.a ≤ 900000) (x : Int) (hx : 0 ≤ x ∧ x ≤ 900) : Calls Try.prog 71 #[.pointer (some ⟨p, 0, none⟩), .int .i64 q, .agg #[.int .i64 i.op, .int .i64 i.a], .int .i64 x] w fun e w' => RcPost G p gh (rchs x hs td (lnx q i)) w e w' := by
  obtain ⟨w0, hW0, hb0, hl0, hx0⟩ := box2 w (.int .i64 i.op) (.int .i64 i.a) 46
  obtain ⟨c0, c1, -, -, hlc⟩ := cells_k2 hx0
  have h0 := h.more hb0 (b := w.heap.size) (Nat.le_refl _) (by omega)
  obtain ⟨op, a⟩ := i
  simp only at *
  have hw1 : IntKind.i64.wrap ((q : Int) + 1) = (q : Int) + 1 := by rw [IntKind.wrap_i64]; omega
  have hqc : ((q + 1 : Nat) : Int) = (q : Int) + 1 := by omega
  by_cases h7 : op = 7
  · obtain ⟨na, hna⟩ : ∃ na : Nat, a = (na : Int) := ⟨a.toNat, by have := hj (Or.inl h7); omega⟩
    have hlx : rchs x hs td (lnx q ⟨op, a⟩) = rch hs td na x := by
      rw [← rchs_one]; unfold lnx; rw [if_pos h7]; show rchs x hs td [a.toNat] = _; rw [hna]; rfl
    rw [hlx]
    have hR := reach_any h0 hlen (by omega) hlow na (by have := hj (Or.inl h7); omega) x hx
    subst h7 hna
    clear hlx h h0 hlow hj hl0 hx0 hqc hw1
    generalize rch hs td na x = S at *
    go_enter Try.func71, Try.ntmps71
    go_wp2_with fail
    refine hR.mono ?_
    rintro e w1 hp
    have he := hp.2.1
    subst he
    have hpost := hp.less hb0 (G' := G) (fun k hk => Or.inl hk)
    clear hR hp c0 c1
    go_wp2
    go_ret
    exact hpost
  by_cases h10 : op = 10
  · have hlx : rchs x hs td (lnx q ⟨op, a⟩) = some (hs, td) := by
      subst h10
      rfl
    rw [hlx]
    have hpost : RcPost G p gh (some (hs, td)) w (.returned (.bool true)) w0 := ⟨Fr.of_below hb0, rfl, fun z hz => by cases hz; exact h.keep hb0⟩
    subst h10
    clear hlx h h0 hlow hj hl0 hx0 hqc hw1
    go_enter Try.func71, Try.ntmps71
    go_wp2
    go_ret
    exact hpost
  have hR := reach_any h0 hlen (by omega) hlow (q + 1) (by omega) x hx
  rw [hqc] at hR
  by_cases h8 : op = 8
  rotate_left
  · have hlx : rchs x hs td (lnx q ⟨op, a⟩) = rch hs td (q + 1) x := by
      rw [← rchs_one]; unfold lnx; rw [if_neg h7, if_neg h8, if_neg h10]
    rw [hlx]
    have n7 : (op == 7) = false := by simpa using h7
    have n8 : (op == 8) = false := by simpa using h8
    have n10 : (op == 10) = false := by simpa using h10
    clear hlx h h0 hlow hj hl0 hx0 hqc h7 h8 h10
    generalize rch hs td (q + 1) x = S at *
    go_enter Try.func71, Try.ntmps71
    go_wp2_with fail
    refine hR.mono ?_
    rintro e w1 hp
    have he := hp.2.1
    subst he
    have hpost := hp.less hb0 (G' := G) (fun k hk => Or.inl hk)
    clear hR hp c0 c1
    go_wp2
    go_ret
    exact hpost
  obtain ⟨na, hna⟩ : ∃ na : Nat, a = (na : Int) := ⟨a.toNat, by have := hj (Or.inr h8); omega⟩
  have hnb : na ≤ 9000000 := by have := hj (Or.inr h8); omega
  have hlx : rchs x hs td (lnx q ⟨op, a⟩) = (rch hs td (q + 1) x).bind fun s => rch s.1 s.2 na x := by
    have e : lnx q ⟨op, a⟩ = [q + 1, na] := by unfold lnx; rw [if_neg h7, if_pos h8]; show [q + 1, a.toNat] = _; rw [hna]; rfl
    rw [e, rchs]
    congr 1
    funext s
    rw [rchs_one]
  rw [hlx]
  subst h8 hna
  clear hlx hl0 hj hqc
  rcases hS : rch hs td (q + 1) x with _ | s
  · rw [hS] at hR
    clear h h0 hlow hx0 h7 h10 hS
    go_enter Try.func71, Try.ntmps71
    go_wp2_with fail
    refine hR.mono ?_
    rintro e w1 hp
    have he := hp.2.1
    subst he
    have hpost : RcPost G p gh none w (.returned (.bool false)) w1 := hp.less hb0 (G' := G) (fun k hk => Or.inl hk)
    clear hR hp c0 c1
    simp only [Option.isSome_none, Option.bind_none]
    go_wp2
    go_ret
    exact hpost
  · rw [hS] at hR
    obtain ⟨l1, l2, l3⟩ := rch_low hx hlow hS
    clear h h0 hlow h7 h10 hS
    simp only [Option.bind_some]
    obtain ⟨S, hS2⟩ : ∃ S, Hid (rch s.1 s.2 na x = S) := ⟨_, rfl⟩
    rw [hS2.out]
    go_enter Try.func71, Try.ntmps71
    go_wp2_with fail
    refine hR.mono ?_
    rintro e w1 hp
    have he := hp.2.1
    subst he
    have hk1 := hp.2.2 s rfl
    obtain ⟨d0, d1, -, -, hld⟩ := cells_k2 ((hp.1.block _ (Or.inr rfl) hlc).trans hx0)
    have hR2 := reach_any hk1 (by omega) (by omega) l1 na hnb x hx
    rw [hS2.out] at hR2
    have hF := hp.1
    clear hR hp c0 c1 hk1 l1 hx0
    simp only [Option.isSome_some]
    go_wp2_with fail
    refine hR2.mono ?_
    rintro e w2 hp2
    have he2 := hp2.2.1
    subst he2
    have hpost : RcPost G p gh S w (.returned (.bool S.isSome)) w2 := ⟨(Fr.of_below hb0).trans ((hF.trans hp2.1).mono (fun k hk => Or.inl hk)), rfl, fun z hz => (hp2.2.2 z hz).less (fun k hk => Or.inl hk)⟩
    clear hR2 hp2 d0 d1 hF
    go_wp2
    go_ret
    exact hpost
end Go.Proofs.Ytndahpcjkcihlaa
