import Derived.Test.YtifebbdjdllfpaaGreatDoorSxA
import Derived.Test.YtifebbdjdllfpaaGreatDoorLxB
import Derived.ProofKit
import Derived.Test.YtifebbdjdllfpaaGreatDoorRep
/- The text that is written of an expression, and its tokens. Plain mathematics. -/
namespace Go.Proofs.YtifebbdjdllfpaaGreatDoor
open Px (TS TSim Ex exT exTs WfE WfEs lowE lv opL opX mk4 wd dg within commas)
open Lx (B Tok)
set_option linter.unusedSimpArgs false
set_option linter.unusedVariables false

theorem tsim_app {a b c d : List Tok} (h : TSim a b) (h2 : TSim c d) : TSim (a ++ c) (b ++ d) := by
  induction h with
  | nil => exact h2
  | cons h _ ih => exact .cons h ih
/-- A text s is cut into the tokens ts, if what stands behind it meets A. -/
def Lxs (s : B) (ts : List Tok) (A : B → Prop) : Prop := ∀ z i c, A z → c + ts.length ≤ 4096 → ∃ us, TSim ts us ∧ Lx.lexGo true (s ++ z) i c = Lx.Out.pre us (Lx.lexGo true z (i + s.length) (c + ts.length))
def Any : B → Prop := fun _ => True
theorem Lxs.nil : Lxs [] [] Any := fun z i c _ _ => ⟨[], .nil, by rw [Lx.pre_nil]; rfl⟩
theorem Lxs.app {s1 s2 : B} {t1 t2 : List Tok} {A1 A2 : B → Prop} (h1 : Lxs s1 t1 A1) (h2 : Lxs s2 t2 A2) (hA : ∀ z, A2 z → A1 (s2 ++ z)) : Lxs (s1 ++ s2) (t1 ++ t2) A2 := by
  intro z i c hz hc
  simp only [List.length_append] at hc
  obtain ⟨us, hu, e1⟩ := h1 (s2 ++ z) i c (hA z hz) (by omega)
  obtain ⟨vs, hv, e2⟩ := h2 z (i + s1.length) (c + t1.length) hz (by omega)
  refine ⟨us ++ vs, tsim_app hu hv, ?_⟩
  rw [List.append_assoc, e1, e2, Lx.pre_pre]
  simp [Nat.add_assoc]
theorem Lxs.weak {s : B} {t : List Tok} {A A' : B → Prop} (h : Lxs s t A) (hA : ∀ z, A' z → A z) : Lxs s t A' := fun z i c hz hc => h z i c (hA z hz) hc
theorem lex_skip {c : UInt8} (hc : Lx.isBlank c = true) (z : B) (i n : Nat) : Lx.lexGo true (c :: z) i n = Lx.lexGo true z (i + 1) n := by
  have hs : Lx.skipF false (c :: z) = 1 + Lx.skipF false z := by simp [Lx.skipF, hc]
  have hd : (c :: z).drop (Lx.skipF false (c :: z)) = z.drop (Lx.skipF false z) := by rw [hs, Nat.add_comm, List.drop_succ_cons]
  rcases hz : z.drop (Lx.skipF false z) with _ | ⟨x, r⟩
  · rw [Lx.lexGo_end (by rw [hd]; exact hz), Lx.lexGo_end hz, hs, ← Nat.add_assoc]
  · rcases ht : Lx.tokR true (x :: r) with ⟨k, t, m, j⟩ | ⟨o, e⟩
    · have hj := (tok_kinds ht).2.1
      rw [Lx.lexGo_ok (by rw [hd]; exact hz) ht hj, Lx.lexGo_ok hz ht hj, hs, ← Nat.add_assoc]
      rw [show 1 + Lx.skipF false z + j = (Lx.skipF false z + j) + 1 by omega, List.drop_succ_cons]
    · rw [Lx.lexGo_bad (by rw [hd]; exact hz) ht, Lx.lexGo_bad hz ht, hs, ← Nat.add_assoc]
theorem lxs_blank {c : UInt8} (hc : Lx.isBlank c = true) : Lxs [c] [] Any := fun z i n _ _ => ⟨[], .nil, by rw [Lx.pre_nil]; exact lex_skip hc z i n⟩
theorem lxs_blanks : ∀ {l : B}, (∀ c ∈ l, Lx.isBlank c = true) → Lxs l [] Any
  | [], _ => Lxs.nil
  | c :: r, h => (lxs_blank (h c (by simp))).app (lxs_blanks (l := r) (fun x hx => h x (by simp [hx]))) (fun _ _ => trivial)
theorem lxs_tok {s : B} {k : Nat} {t : B} {m : Nat} {A : B → Prop} (hh : ∃ y r, s = y :: r ∧ Lx.isBlank y = false ∧ y ≠ 35) (hr : ∀ z, A z → Lx.tokR true (s ++ z) = Lx.R.ok k t m s.length) : Lxs s [⟨k, t, m, 0⟩] A := by
  intro z i c hz hc
  obtain ⟨y, r, rfl, h1, h2⟩ := hh
  have ht := hr z hz
  have := lex_one (dot := true) (g := []) (z := z) (i := i) (c := c) (n := 0) (fun Y => by simp) ⟨h1, h2⟩ ht
  simp only [List.nil_append, List.length_nil, Nat.add_zero] at this
  simp only [List.length_cons, List.length_nil] at hc
  refine ⟨[⟨k, t, m, i⟩], .cons ⟨rfl, rfl, rfl⟩ .nil, ?_⟩
  rw [this, if_pos (by omega)]
  rfl
theorem lxs_wf {k : Nat} {t : B} {m : Nat} (h : Wf true k t m) : Lxs (word k t) [⟨k, t, m, 0⟩] Shuts := by
  obtain ⟨y, r, e, h1, h2⟩ := h.head
  exact lxs_tok ⟨y, r, e, h1, h2⟩ h.reads
/-- Marks of one byte that nothing goes on with. -/
def m1 : B := [40, 41, 123, 125, 91, 93, 58, 59, 44, 43, 45, 42, 47, 37]
theorem m1_tok {x : UInt8} (h : x ∈ m1) (z : B) : Lx.tokR true (x :: z) = Lx.R.ok 4 [x] 0 1 := by
  simp only [m1, List.mem_cons, List.not_mem_nil, or_false] at h
  rcases h with rfl | rfl | rfl | rfl | rfl | rfl | rfl | rfl | rfl | rfl | rfl | rfl | rfl | rfl
  all_goals
    have h2 : ∀ a : UInt8, Lx.two (a :: z) = (match z with | b :: _ => (b == 61 && (a == 61 || a == 33 || a == 60 || a == 62)) || (a == 38 && b == 38) || (a == 124 && b == 124) | [] => false) := fun a => by rcases z with _ | ⟨c, z⟩ <;> rfl
    rcases z with _ | ⟨c, z⟩
    · decide
    · simp [Lx.tokR, Lx.isLetter, Lx.isDigit, Lx.markR, Lx.markN, Lx.two, Lx.one, Lx.ones]
theorem lxs_m {x : UInt8} (h : x ∈ m1) : Lxs [x] [mk4 [x]] Any := by
  refine lxs_tok ⟨x, [], rfl, ?_, ?_⟩ (fun z _ => m1_tok h z)
  · simp only [m1, List.mem_cons, List.not_mem_nil, or_false] at h
    rcases h with rfl | rfl | rfl | rfl | rfl | rfl | rfl | rfl | rfl | rfl | rfl | rfl | rfl | rfl <;> decide
  · simp only [m1, List.mem_cons, List.not_mem_nil, or_false] at h
    rcases h with rfl | rfl | rfl | rfl | rfl | rfl | rfl | rfl | rfl | rfl | rfl | rfl | rfl | rfl <;> decide
theorem sep_m {x : UInt8} (h : x ∈ m1) : Sep x := by
  simp only [m1, List.mem_cons, List.not_mem_nil, or_false] at h
  unfold Sep
  rcases h with rfl | rfl | rfl | rfl | rfl | rfl | rfl | rfl | rfl | rfl | rfl | rfl | rfl | rfl <;> decide
theorem shuts_cons {x : UInt8} (h : Sep x) (z : B) : Shuts (x :: z) := fun c hc => by simp at hc; rw [← hc]; exact h
theorem shuts_m {x : UInt8} (h : x ∈ m1) (z : B) : Shuts (x :: z) := shuts_cons (sep_m h) z
theorem shuts_b {x : UInt8} (h : Lx.isBlank x = true) (z : B) : Shuts (x :: z) := shuts_cons (sep_blank (Or.inl h)) z
/-- No equals sign is its first byte. -/
def NoEq (z : B) : Prop := ∀ c, z.head? = some c → c ≠ 61
theorem lxs_not : Lxs [33] [mk4 [33]] NoEq := by
  refine lxs_tok ⟨33, [], rfl, by decide, by decide⟩ (fun z hz => ?_)
  rcases z with _ | ⟨c, z⟩
  · decide
  · have hc : c ≠ 61 := hz c rfl
    simp [Lx.tokR, Lx.isLetter, Lx.isDigit, Lx.markR, Lx.markN, Lx.two, Lx.one, Lx.ones, hc]
/- Numbers. -/
theorem value_snoc (a : B) (c : UInt8) : Lx.value (a ++ [c]) = Lx.value a * 10 + (c.toNat - 48) := by simp [Lx.value, List.foldl_append]
theorem digit_of {d : Nat} (h : d < 10) : (UInt8.ofNat (48 + d)).toNat = 48 + d ∧ Lx.isDigit (UInt8.ofNat (48 + d)) = true := by
  rcases (show d = 0 ∨ d = 1 ∨ d = 2 ∨ d = 3 ∨ d = 4 ∨ d = 5 ∨ d = 6 ∨ d = 7 ∨ d = 8 ∨ d = 9 by omega) with rfl | rfl | rfl | rfl | rfl | rfl | rfl | rfl | rfl | rfl <;> decide
theorem dgF_spec : ∀ (f n : Nat), n < f → Px.dgF f n ≠ [] ∧ (∀ c ∈ Px.dgF f n, Lx.isDigit c = true) ∧ Lx.value (Px.dgF f n) = n ∧ (0 < n → (Px.dgF f n).head? ≠ some 48) ∧ (n = 0 → (Px.dgF f n).length = 1)
  | 0, n, h => by omega
  | f + 1, n, h => by
    simp only [Px.dgF]
    by_cases hn : n < 10
    · rw [if_pos hn]
      have hd := digit_of hn
      refine ⟨by simp, fun c hc => by rw [List.mem_singleton.1 hc]; exact hd.2, ?_, fun h0 e => ?_, fun _ => rfl⟩
      · simp only [Lx.value, List.foldl_cons, List.foldl_nil]; rw [hd.1]; omega
      · simp only [List.head?_cons, Option.some.injEq] at e
        have := hd.1
        rw [e] at this
        have h48 : (48 : UInt8).toNat = 48 := rfl
        omega
    · rw [if_neg hn]
      obtain ⟨h1, h2, h3, h4, h5⟩ := dgF_spec f (n / 10) (by omega)
      have hd := digit_of (d := n % 10) (by omega)
      refine ⟨by simp, fun c hc => ?_, ?_, fun h0 e => ?_, fun h0 => by omega⟩
      · simp only [List.mem_append, List.mem_singleton] at hc
        rcases hc with hc | rfl
        · exact h2 c hc
        · exact hd.2
      · rw [value_snoc, h3, hd.1]; omega
      · rcases hx : Px.dgF f (n / 10) with _ | ⟨a, r⟩
        · exact h1 hx
        · rw [hx] at e h4
          simp at e
          exact h4 (by omega) (by simp [e])
theorem digit_letter {c : UInt8} (h : Lx.isDigit c = true) : Lx.isLetter c = false ∧ Lx.isBlank c = false ∧ c ≠ 35 := by
  simp only [Lx.isDigit, Bool.and_eq_true, decide_eq_true_eq, UInt8.le_iff_toNat_le] at h
  have h1 : (48 : UInt8).toNat = 48 := rfl
  have h2 : (57 : UInt8).toNat = 57 := rfl
  refine ⟨?_, ?_, ?_⟩
  · simp only [Lx.isLetter, Bool.or_eq_false_iff, Bool.and_eq_false_iff, decide_eq_false_iff_not, UInt8.le_iff_toNat_le, beq_eq_false_iff_ne]
    have h3 : (97 : UInt8).toNat = 97 := rfl
    refine ⟨Or.inl (by omega), fun e => by rw [e] at h; revert h; decide⟩
  · simp only [Lx.isBlank, Bool.or_eq_false_iff, beq_eq_false_iff_ne]
    refine ⟨⟨fun e => ?_, fun e => ?_⟩, fun e => ?_⟩ <;> (rw [e] at h; revert h; decide)
  · intro e; rw [e] at h; revert h; decide
theorem tw_app {p : UInt8 → Bool} : ∀ {a z : B}, (∀ c ∈ a, p c = true) → (∀ c, z.head? = some c → p c = false) → (a ++ z).takeWhile p = a
  | [], z, _, h => by
    rcases z with _ | ⟨c, z⟩
    · rfl
    · simp [h c rfl]
  | c :: r, z, h1, h2 => by
    simp only [List.cons_append, List.takeWhile_cons, h1 c (by simp), if_true]
    rw [tw_app (fun x hx => h1 x (by simp [hx])) h2]
theorem wf_num {n : Nat} (h : n ≤ 9223372036854775807) : Wf true 2 (dg n) n := by
  obtain ⟨h1, h2, h3, h4, h5⟩ := dgF_spec (n + 1) n (by omega)
  have hw : word 2 (dg n) = dg n := rfl
  rcases hd : dg n with _ | ⟨y, r⟩
  · exact absurd hd h1
  · have hy : Lx.isDigit y = true := h2 y (by show y ∈ dg n; rw [hd]; simp)
    have hyl := digit_letter hy
    refine ⟨⟨y, r, rfl, hyl.2.1, hyl.2.2⟩, fun z hz => ?_⟩
    have htw : (y :: r ++ z).takeWhile Lx.isDigit = y :: r := tw_app (fun c hc => h2 c (by show c ∈ dg n; rw [hd]; exact hc)) (fun c hc => (hz c hc).2.1)
    show Lx.tokR true (y :: r ++ z) = Lx.R.ok 2 (y :: r) n (y :: r).length
    simp only [List.cons_append] at htw ⊢
    rw [Lx.tokR, if_neg (by rw [hyl.1]; simp), if_pos hy, Lx.numberR, htw]
    have hv : Lx.value (y :: r) = n := by rw [← hd]; exact h3
    have hlead : ¬ ((y :: r).head? = some 48 ∧ 1 < (y :: r).length) := by
      intro hh
      rw [← hd] at hh
      by_cases h0 : n = 0
      · have := h5 h0
        have h6 : (dg n).length = 1 := this
        omega
      · exact h4 (by omega) hh.1
    rw [if_neg hlead, hv, if_pos h]
/-- What is known of a source's tokens. -/
def VW (k : Nat) (t : B) (m : Nat) : Prop := Wf true k t m
theorem vw_num {x : B} {n : Nat} (h : VW 2 x n) : n ≤ 9223372036854775807 := by
  have h1 := h.reads [] (fun c hc => by simp at hc)
  obtain ⟨y, r, e, hb, hh⟩ := h.head
  have hw : word 2 x = x := rfl
  rw [hw] at e h1
  rw [List.append_nil, e] at h1
  simp only [Lx.tokR] at h1
  split at h1
  · unfold Lx.nameR at h1; split at h1 <;> simp [Lx.R.ok, Lx.R.bad] at h1
  split at h1
  · unfold Lx.numberR at h1
    split at h1
    · simp [Lx.R.ok, Lx.R.bad] at h1
    split at h1
    · rename_i hv
      simp only [Lx.R.ok, Sum.inl.injEq, Prod.mk.injEq] at h1
      rw [← h1.2.2.1]; exact hv
    · simp [Lx.R.ok, Lx.R.bad] at h1
  split at h1
  · have := quote_kinds r.length r 1 [] 2 (y :: r) n _ (Nat.le_refl _) h1
    omega
  · unfold Lx.markR at h1; split at h1 <;> simp [Lx.R.ok, Lx.R.bad] at h1
/- The text of an expression. -/
def withinS (b : Bool) (s : B) : B := if b then 40 :: (s ++ [41]) else s
def commasS : List B → B
  | [] => []
  | [a] => a
  | a :: b :: r => a ++ 44 :: 32 :: commasS (b :: r)
def exKS (k o n : Nat) (t : B) (args : List Ex) (xs : List B) : B :=
  if k = 1 then dg n else if k = 2 then (if n = 1 then [116, 114, 117, 101] else [102, 97, 108, 115, 101]) else if k = 3 then quoteT t else if k = 6 then t
  else if k = 7 then t ++ 40 :: (commasS xs ++ [41])
  else if k = 12 then withinS (lowE 7 (args.getD 0 default)) (xs.getD 0 []) ++ 91 :: (xs.getD 1 [] ++ [93])
  else if k = 13 then 45 :: withinS (lowE 6 (args.getD 0 default)) (xs.getD 0 [])
  else if k = 14 then 33 :: withinS (lowE 6 (args.getD 0 default)) (xs.getD 0 [])
  else withinS (lowE (lv o) (args.getD 0 default)) (xs.getD 0 []) ++ 32 :: (opX o ++ 32 :: withinS (lowE (opL o + 1) (args.getD 1 default)) (xs.getD 1 []))
mutual
/-- The text that is written of an expression. -/
def exS : Ex → B
  | .mk k o n t args _ => exKS k o n t args (exSs args)
def exSs : List Ex → List B
  | [] => []
  | e :: r => exS e :: exSs r
end
theorem exSs_map : ∀ l, exSs l = l.map exS
  | [] => by simp [exSs]
  | e :: r => by simp [exSs, exSs_map r]
theorem lxs_within {b : Bool} {s : B} {ts : List Tok} (h : Lxs s ts Shuts) : Lxs (withinS b s) (within b ts) Shuts := by
  cases b
  · exact h
  · exact ((lxs_m (x := 40) (by decide)).app (h.app ((lxs_m (x := 41) (by decide)).weak (fun _ _ => trivial) : Lxs [41] [mk4 [41]] Shuts) (fun z _ => shuts_m (by decide) z)) (fun _ _ => trivial))
theorem noeq_within {b : Bool} {s z : B} (h : ∃ c r, s = c :: r ∧ c ≠ 61) : NoEq (withinS b s ++ z) := by
  obtain ⟨c, r, rfl, hc⟩ := h
  cases b
  · intro x hx; simp [withinS] at hx; rw [← hx]; exact hc
  · intro x hx; simp [withinS] at hx; rw [← hx]; decide
theorem head_within {b : Bool} {s : B} (h : ∃ c r, s = c :: r ∧ c ≠ 61) : ∃ c r, withinS b s = c :: r ∧ c ≠ 61 := by
  cases b
  · exact h
  · exact ⟨40, s ++ [41], rfl, by decide⟩
theorem lxs_commas : ∀ {l : List Ex}, (∀ e ∈ l, Lxs (exS e) (exT e) Shuts) → Lxs (commasS (l.map exS)) (commas (l.map exT)) Shuts
  | [], _ => Lxs.nil.weak (fun _ _ => trivial)
  | [a], h => h a (by simp)
  | a :: b :: r, h => by
    have ih := lxs_commas (l := b :: r) (fun e he => h e (by simp at he ⊢; exact Or.inr he))
    simp only [List.map_cons] at ih ⊢
    rw [commasS, commas]
    have h2 : Lxs (44 :: 32 :: commasS (exS b :: r.map exS)) (mk4 [44] :: commas (exT b :: r.map exT)) Shuts := (lxs_m (x := 44) (by decide)).app ((lxs_blank (c := 32) (by decide)).app ih (fun _ _ => trivial)) (fun _ _ => trivial)
    exact (h a (by simp)).app h2 (fun z _ => shuts_m (by decide) _)
theorem wf_self {x : UInt8} {r : B} {k : Nat} (h : Lx.tokR true (x :: r) = Lx.R.ok k (x :: r) 0 (r.length + 1)) (hb : Lx.isBlank x = false ∧ x ≠ 35) : Wf true k (x :: r) 0 := tok_wf h hb
theorem op_wf {o : Nat} (h1 : 1 ≤ o) (h2 : o ≤ 13) : Wf true 4 (opX o) 0 := by
  rcases Px.op_cases h1 h2 with rfl | rfl | rfl | rfl | rfl | rfl | rfl | rfl | rfl | rfl | rfl | rfl | rfl
  · exact wf_self (x := 124) (r := [124]) rfl ⟨by decide, by decide⟩
  · exact wf_self (x := 38) (r := [38]) rfl ⟨by decide, by decide⟩
  · exact wf_self (x := 61) (r := [61]) rfl ⟨by decide, by decide⟩
  · exact wf_self (x := 33) (r := [61]) rfl ⟨by decide, by decide⟩
  · exact wf_self (x := 60) (r := []) rfl ⟨by decide, by decide⟩
  · exact wf_self (x := 60) (r := [61]) rfl ⟨by decide, by decide⟩
  · exact wf_self (x := 62) (r := []) rfl ⟨by decide, by decide⟩
  · exact wf_self (x := 62) (r := [61]) rfl ⟨by decide, by decide⟩
  · exact wf_self (x := 43) (r := []) rfl ⟨by decide, by decide⟩
  · exact wf_self (x := 45) (r := []) rfl ⟨by decide, by decide⟩
  · exact wf_self (x := 42) (r := []) rfl ⟨by decide, by decide⟩
  · exact wf_self (x := 47) (r := []) rfl ⟨by decide, by decide⟩
  · exact wf_self (x := 37) (r := []) rfl ⟨by decide, by decide⟩
theorem wf_head {k : Nat} {t : B} {m : Nat} (hk : k ≠ 4) (h : Wf true k t m) : ∃ c r, word k t = c :: r ∧ c ≠ 61 := by
  obtain ⟨y, r, e, _, _⟩ := h.head
  refine ⟨y, r, e, fun hy => ?_⟩
  have h1 := h.reads [] (fun c hc => by simp at hc)
  rw [List.append_nil, e, hy] at h1
  simp only [Lx.tokR] at h1
  rw [if_neg (by decide), if_neg (by decide), if_neg (by decide)] at h1
  unfold Lx.markR at h1
  split at h1
  · simp [Lx.R.ok, Lx.R.bad] at h1
  · simp only [Lx.R.ok, Sum.inl.injEq, Prod.mk.injEq] at h1
    exact hk h1.1.symm
theorem exS_at (o n : Nat) (t : B) (a b : Ex) (p : Nat) : exS (.mk 12 o n t [a, b] p) = withinS (lowE 7 a) (exS a) ++ 91 :: (exS b ++ [93]) := by simp [exS, exKS, exSs]
theorem exS_neg (o n : Nat) (t : B) (a : Ex) (p : Nat) : exS (.mk 13 o n t [a] p) = 45 :: withinS (lowE 6 a) (exS a) := by simp [exS, exKS, exSs]
theorem exS_not (o n : Nat) (t : B) (a : Ex) (p : Nat) : exS (.mk 14 o n t [a] p) = 33 :: withinS (lowE 6 a) (exS a) := by simp [exS, exKS, exSs]
theorem exS_bin (o n : Nat) (t : B) (a b : Ex) (p : Nat) : exS (.mk 15 o n t [a, b] p) = withinS (lowE (lv o) a) (exS a) ++ 32 :: (opX o ++ 32 :: withinS (lowE (opL o + 1) b) (exS b)) := by simp [exS, exKS, exSs]
theorem exS_call (o n : Nat) (t : B) (a : List Ex) (p : Nat) : exS (.mk 7 o n t a p) = t ++ 40 :: (commasS (a.map exS) ++ [41]) := by simp [exS, exKS, exSs_map]
theorem ex_lx : ∀ (N : Nat) (e : Ex), SizeOf.sizeOf e ≤ N → WfE VW e → Lxs (exS e) (exT e) Shuts ∧ ∃ c r, exS e = c :: r ∧ c ≠ 61
  | 0, .mk k o n t args p, hN, _ => by simp at hN
  | N + 1, .mk k o n t args p, hN, hw => by
    rw [WfE] at hw
    obtain ⟨hf, hs⟩ := hw
    simp only [Ex.mk.sizeOf_spec] at hN
    rcases hf with h | h | h | h | h | h | h | h
    · obtain ⟨rfl, rfl, rfl, hlen, x, hx⟩ := h
      have hw := wf_num (vw_num hx)
      have e1 : exS (.mk 1 0 n [] args p) = word 2 (dg n) := by simp [exS, exKS, word]
      have e2 : exT (.mk 1 0 n [] args p) = [⟨2, dg n, n, 0⟩] := by simp [exT, Px.exK]
      rw [e1, e2]
      exact ⟨lxs_wf hw, wf_head (by decide) hw⟩
    · obtain ⟨rfl, rfl, rfl, hlen, hn⟩ := h
      rcases (show n = 0 ∨ n = 1 by omega) with rfl | rfl
      · have hw : Wf true 1 [102, 97, 108, 115, 101] 0 := wf_self (x := 102) (r := [97, 108, 115, 101]) rfl ⟨by decide, by decide⟩
        have e1 : exS (.mk 2 0 0 [] args p) = word 1 [102, 97, 108, 115, 101] := by simp [exS, exKS, word]
        have e2 : exT (.mk 2 0 0 [] args p) = [⟨1, [102, 97, 108, 115, 101], 0, 0⟩] := by simp [exT, Px.exK, wd]
        rw [e1, e2]
        exact ⟨lxs_wf hw, wf_head (by decide) hw⟩
      · have hw : Wf true 1 [116, 114, 117, 101] 0 := wf_self (x := 116) (r := [114, 117, 101]) rfl ⟨by decide, by decide⟩
        have e1 : exS (.mk 2 0 1 [] args p) = word 1 [116, 114, 117, 101] := by simp [exS, exKS, word]
        have e2 : exT (.mk 2 0 1 [] args p) = [⟨1, [116, 114, 117, 101], 0, 0⟩] := by simp [exT, Px.exK, wd]
        rw [e1, e2]
        exact ⟨lxs_wf hw, wf_head (by decide) hw⟩
    · obtain ⟨rfl, rfl, rfl, hlen, hv⟩ := h
      have e1 : exS (.mk 3 0 0 t args p) = word 3 t := by simp [exS, exKS, word]
      have e2 : exT (.mk 3 0 0 t args p) = [⟨3, t, 0, 0⟩] := by simp [exT, Px.exK]
      rw [e1, e2]
      exact ⟨lxs_wf hv, wf_head (by decide) hv⟩
    · obtain ⟨rfl, rfl, rfl, hlen, hr, hv⟩ := h
      have e1 : exS (.mk 6 0 0 t args p) = word 1 t := by simp [exS, exKS, word]
      have e2 : exT (.mk 6 0 0 t args p) = [⟨1, t, 0, 0⟩] := by simp [exT, Px.exK, wd]
      rw [e1, e2]
      exact ⟨lxs_wf hv, wf_head (by decide) hv⟩
    · obtain ⟨rfl, rfl, rfl, hr, hv⟩ := h
      have hargs : ∀ e ∈ args, Lxs (exS e) (exT e) Shuts := fun e he => (ex_lx N e (by have := Px.size_mem he; omega) (Px.WfEs_all.1 hs e he)).1
      have hc := lxs_commas hargs
      have hw1 : Lxs t [wd t] Shuts := lxs_wf hv
      rw [exS_call, Px.exT_call]
      refine ⟨?_, ?_⟩
      · have h3 : Lxs (commasS (args.map exS) ++ [41]) (commas (args.map exT) ++ [mk4 [41]]) Shuts := hc.app ((lxs_m (x := 41) (by decide)).weak (fun _ _ => trivial)) (fun z _ => shuts_m (by decide) _)
        have h4 : Lxs (40 :: (commasS (args.map exS) ++ [41])) (mk4 [40] :: (commas (args.map exT) ++ [mk4 [41]])) Shuts := (lxs_m (x := 40) (by decide)).app h3 (fun _ _ => trivial)
        exact hw1.app h4 (fun z _ => shuts_m (by decide) _)
      · obtain ⟨c, r, e, hne⟩ := wf_head (by decide) hv
        have e' : t = c :: r := e
        exact ⟨c, r ++ 40 :: (commasS (args.map exS) ++ [41]), by rw [e']; rfl, hne⟩
    · obtain ⟨rfl, rfl, rfl, rfl, hlen⟩ := h
      match args, hlen, hs, hN with
      | [a, b], _, hs, hN =>
        simp only [WfEs] at hs
        simp only [List.cons.sizeOf_spec] at hN
        have ha := ex_lx N a (by omega) hs.1
        have hb := ex_lx N b (by omega) hs.2.1
        rw [exS_at, Px.exT_at]
        refine ⟨?_, ?_⟩
        · have h3 : Lxs (exS b ++ [93]) (exT b ++ [mk4 [93]]) Shuts := hb.1.app ((lxs_m (x := 93) (by decide)).weak (fun _ _ => trivial)) (fun z _ => shuts_m (by decide) _)
          have h4 : Lxs (91 :: (exS b ++ [93])) (mk4 [91] :: (exT b ++ [mk4 [93]])) Shuts := (lxs_m (x := 91) (by decide)).app h3 (fun _ _ => trivial)
          exact (lxs_within ha.1).app h4 (fun z _ => shuts_m (by decide) _)
        · obtain ⟨c, r, e, hne⟩ := head_within (b := lowE 7 a) ha.2
          exact ⟨c, r ++ 91 :: (exS b ++ [93]), by rw [e]; rfl, hne⟩
    · obtain ⟨hk, rfl, rfl, rfl, hlen⟩ := h
      match args, hlen, hs, hN with
      | [a], _, hs, hN =>
        simp only [WfEs] at hs
        simp only [List.cons.sizeOf_spec] at hN
        have ha := ex_lx N a (by omega) hs.1
        rcases hk with rfl | rfl
        · rw [exS_neg, Px.exT_neg]
          exact ⟨(lxs_m (x := 45) (by decide)).app (lxs_within ha.1) (fun _ _ => trivial), 45, _, rfl, by decide⟩
        · rw [exS_not, Px.exT_not]
          exact ⟨lxs_not.app (lxs_within ha.1) (fun z _ => noeq_within ha.2), 33, _, rfl, by decide⟩
    · obtain ⟨rfl, h1, h2, rfl, rfl, hlen⟩ := h
      match args, hlen, hs, hN with
      | [a, b], _, hs, hN =>
        simp only [WfEs] at hs
        simp only [List.cons.sizeOf_spec] at hN
        have ha := ex_lx N a (by omega) hs.1
        have hb := ex_lx N b (by omega) hs.2.1
        rw [exS_bin, Px.exT_bin]
        refine ⟨?_, ?_⟩
        · have hop : Lxs (opX o) [mk4 (opX o)] Shuts := lxs_wf (op_wf h1 h2)
          have h3 : Lxs (32 :: withinS (lowE (opL o + 1) b) (exS b)) (Px.wT (opL o + 1) b) Shuts := (lxs_blank (c := 32) (by decide)).app (lxs_within hb.1) (fun _ _ => trivial)
          have h4 : Lxs (opX o ++ 32 :: withinS (lowE (opL o + 1) b) (exS b)) (mk4 (opX o) :: Px.wT (opL o + 1) b) Shuts := hop.app h3 (fun z _ => shuts_b (by decide) _)
          have h5 : Lxs (32 :: (opX o ++ 32 :: withinS (lowE (opL o + 1) b) (exS b))) (mk4 (opX o) :: Px.wT (opL o + 1) b) Shuts := (lxs_blank (c := 32) (by decide)).app h4 (fun _ _ => trivial)
          exact (lxs_within ha.1).app h5 (fun z _ => shuts_b (by decide) _)
        · obtain ⟨c, r, e, hne⟩ := head_within (b := lowE (lv o) a) ha.2
          exact ⟨c, r ++ 32 :: (opX o ++ 32 :: withinS (lowE (opL o + 1) b) (exS b)), by rw [e]; rfl, hne⟩
theorem ex_text {e : Ex} (h : WfE VW e) : Lxs (exS e) (exT e) Shuts := (ex_lx _ e (Nat.le_refl _) h).1
end Go.Proofs.YtifebbdjdllfpaaGreatDoor
/- The text that is written of a program; it is read as the program, but for places, with no more tokens. Plain mathematics. -/
namespace Go.Proofs.YtifebbdjdllfpaaGreatDoor
open Px (TS TSim Ex St Sl Pr exT stT stsT blk WfE WfS WfSs WfSl WfF WfP NmOk Ty tyT slT fnT ssT fsT prT endT mk4 wd dg commas)
open Lx (B Tok)
set_option linter.unusedSimpArgs false
set_option linter.unusedVariables false

def blkS (s ind : B) (none : Bool) : B := if none then [123, 125] else 123 :: 10 :: (s ++ (ind ++ [125]))
def stKS (k : Nat) (n : B) (es : List B) (b c : B) (none : Bool) : B :=
  if k = 1 then [108, 101, 116, 32] ++ (n ++ ([32, 61, 32] ++ (es.getD 0 [] ++ [59])))
  else if k = 2 then (if es.length = 1 then [115, 101, 116, 32] ++ (n ++ ([32, 61, 32] ++ (es.getD 0 [] ++ [59]))) else [115, 101, 116, 32] ++ (n ++ ([91] ++ (es.getD 0 [] ++ ([93, 32, 61, 32] ++ (es.getD 1 [] ++ [59]))))))
  else if k = 3 then [100, 101, 108, 32] ++ (n ++ ([91] ++ (es.getD 0 [] ++ [93, 59])))
  else if k = 4 then [105, 102, 32] ++ (es.getD 0 [] ++ ([32] ++ (b ++ if none then [] else [32, 101, 108, 115, 101, 32] ++ c)))
  else if k = 5 then [102, 111, 114, 32] ++ (n ++ ([32, 116, 111, 32] ++ (es.getD 0 [] ++ ([32] ++ b))))
  else [114, 101, 116, 32] ++ (es.getD 0 [] ++ [59])
mutual
/-- The text that is written of a statement; ind: the tabs of its line. -/
def stS : St → B → B
  | .mk k n es b c _, ind => stKS k n (es.map exS) (blkS (stsS b ind) ind b.isEmpty) (blkS (stsS c ind) ind c.isEmpty) c.isEmpty
def stsS : List St → B → B
  | [], _ => []
  | s :: r, ind => ind ++ ([9] ++ (stS s (ind ++ [9]) ++ ([10] ++ stsS r ind)))
end
/-- A word and a blank. -/
theorem lxs_kw {x : UInt8} {r : B} (h : Lx.tokR true (x :: r) = Lx.R.ok 1 (x :: r) 0 (r.length + 1)) (hb : Lx.isBlank x = false ∧ x ≠ 35) : Lxs ((x :: r) ++ [32]) [wd (x :: r)] Any :=
  (lxs_wf (wf_self h hb) : Lxs (x :: r) [wd (x :: r)] Shuts).app (lxs_blank (c := 32) (by decide)) (fun z _ => shuts_b (by decide) z)
theorem lxs_eq : Lxs [32, 61, 32] [mk4 [61]] Any :=
  (lxs_blank (c := 32) (by decide)).app ((lxs_wf (wf_self (x := 61) (r := []) (k := 4) rfl ⟨by decide, by decide⟩) : Lxs [61] [mk4 [61]] Shuts).app (lxs_blank (c := 32) (by decide)) (fun z _ => shuts_b (by decide) z)) (fun _ _ => trivial)
theorem any_shuts {s : B} {t : List Tok} (h : Lxs s t Any) : Lxs s t Shuts := h.weak (fun _ _ => trivial)
theorem lxs_let : Lxs [108, 101, 116, 32] [wd [108, 101, 116]] Any := lxs_kw (x := 108) (r := [101, 116]) rfl ⟨by decide, by decide⟩
theorem lxs_set : Lxs [115, 101, 116, 32] [wd [115, 101, 116]] Any := lxs_kw (x := 115) (r := [101, 116]) rfl ⟨by decide, by decide⟩
theorem lxs_del : Lxs [100, 101, 108, 32] [wd [100, 101, 108]] Any := lxs_kw (x := 100) (r := [101, 108]) rfl ⟨by decide, by decide⟩
theorem lxs_if : Lxs [105, 102, 32] [wd [105, 102]] Any := lxs_kw (x := 105) (r := [102]) rfl ⟨by decide, by decide⟩
theorem lxs_for : Lxs [102, 111, 114, 32] [wd [102, 111, 114]] Any := lxs_kw (x := 102) (r := [111, 114]) rfl ⟨by decide, by decide⟩
theorem lxs_ret : Lxs [114, 101, 116, 32] [wd [114, 101, 116]] Any := lxs_kw (x := 114) (r := [101, 116]) rfl ⟨by decide, by decide⟩
theorem lxs_to : Lxs [32, 116, 111, 32] [wd [116, 111]] Any := (lxs_blank (c := 32) (by decide)).app (lxs_kw (x := 116) (r := [111]) rfl ⟨by decide, by decide⟩) (fun _ _ => trivial)
theorem lxs_else : Lxs [32, 101, 108, 115, 101, 32] [wd [101, 108, 115, 101]] Any := (lxs_blank (c := 32) (by decide)).app (lxs_kw (x := 101) (r := [108, 115, 101]) rfl ⟨by decide, by decide⟩) (fun _ _ => trivial)
theorem lxs_version : Lxs [118, 101, 114, 115, 105, 111, 110, 32] [wd [118, 101, 114, 115, 105, 111, 110]] Any := lxs_kw (x := 118) (r := [101, 114, 115, 105, 111, 110]) rfl ⟨by decide, by decide⟩
theorem lxs_state : Lxs [115, 116, 97, 116, 101, 32] [wd [115, 116, 97, 116, 101]] Any := lxs_kw (x := 115) (r := [116, 97, 116, 101]) rfl ⟨by decide, by decide⟩
theorem lxs_fn : Lxs [102, 110, 32] [wd [102, 110]] Any := lxs_kw (x := 102) (r := [110]) rfl ⟨by decide, by decide⟩
theorem lxs_on : Lxs [111, 110, 32] [wd [111, 110]] Any := lxs_kw (x := 111) (r := [110]) rfl ⟨by decide, by decide⟩
theorem nm_lx {n : B} (h : NmOk VW n) : Lxs n [wd n] Shuts := lxs_wf h.2
theorem lxs_semi : Lxs [59] [mk4 [59]] Any := lxs_m (by decide)
/-- A token that shuts what is ahead of it. -/
theorem app_m {s s2 : B} {x : UInt8} {t1 t2 : List Tok} {A : B → Prop} (h1 : Lxs s t1 Shuts) (hx : x ∈ m1) (h2 : Lxs (x :: s2) t2 A) : Lxs (s ++ x :: s2) (t1 ++ t2) A := h1.app h2 (fun z _ => shuts_m hx _)
theorem app_b {s s2 : B} {x : UInt8} {t1 t2 : List Tok} {A : B → Prop} (h1 : Lxs s t1 Shuts) (hx : Lx.isBlank x = true) (h2 : Lxs (x :: s2) t2 A) : Lxs (s ++ x :: s2) (t1 ++ t2) A := h1.app h2 (fun z _ => shuts_b hx _)
theorem app_a {s s2 : B} {t1 t2 : List Tok} {A : B → Prop} (h1 : Lxs s t1 Any) (h2 : Lxs s2 t2 A) : Lxs (s ++ s2) (t1 ++ t2) A := h1.app h2 (fun _ _ => trivial)
theorem blk_lx {s ind : B} {ts : List Tok} {none : Bool} (hi : ∀ c ∈ ind, Lx.isBlank c = true) (h : Lxs s ts Any) (hn : none = true → ts = []) : Lxs (blkS s ind none) (blk ts) Any := by
  unfold blkS
  split
  · rename_i hh
    rw [hn hh]
    exact app_a (lxs_m (x := 123) (by decide)) (lxs_m (x := 125) (by decide))
  · have h2 : Lxs (s ++ (ind ++ [125])) (ts ++ ([] ++ [mk4 [125]])) Any := app_a h (app_a (lxs_blanks hi) (lxs_m (x := 125) (by decide)))
    exact app_a (lxs_m (x := 123) (by decide)) (app_a (lxs_blank (c := 10) (by decide)) h2)
theorem stK_lx {V' : Prop} {k : Nat} {n : B} {es : List Ex} {b c : List St} {bs cs : B} (hf : Px.FormS VW k n es.length b c) (he : ∀ e ∈ es, WfE VW e) (hb : Lxs bs (blk (stsT b)) Any) (hc : Lxs cs (blk (stsT c)) Any) :
    Lxs (stKS k n (es.map exS) bs cs c.isEmpty) (Px.stK k n (es.map exT) (stsT b) (stsT c) c.isEmpty) Any := by
  rcases hf with h | h | h | h | h | h
  · obtain ⟨rfl, hn, hlen, rfl, rfl⟩ := h
    match es, hlen, he with
    | [x], _, he =>
      have hx := ex_text (he x (by simp))
      exact app_a lxs_let (app_b (nm_lx hn) (by decide) (app_a lxs_eq (app_m hx (by decide) lxs_semi)))
  · obtain ⟨rfl, hn, hlen, rfl, rfl⟩ := h
    match es, hlen, he with
    | [x], _, he =>
      have hx := ex_text (he x (by simp))
      exact app_a lxs_set (app_b (nm_lx hn) (by decide) (app_a lxs_eq (app_m hx (by decide) lxs_semi)))
    | [y, x], _, he =>
      have hy := ex_text (he y (by simp))
      have hx := ex_text (he x (by simp))
      exact app_a lxs_set (app_m (nm_lx hn) (by decide) (app_a (lxs_m (x := 91) (by decide)) (app_m hy (by decide) (app_a (app_a (lxs_m (x := 93) (by decide)) lxs_eq) (app_m hx (by decide) lxs_semi)))))
  · obtain ⟨rfl, hn, hlen, rfl, rfl⟩ := h
    match es, hlen, he with
    | [x], _, he =>
      have hx := ex_text (he x (by simp))
      exact app_a lxs_del (app_m (nm_lx hn) (by decide) (app_a (lxs_m (x := 91) (by decide)) (app_m hx (by decide) (app_a (lxs_m (x := 93) (by decide)) lxs_semi))))
  · obtain ⟨rfl, rfl, hlen⟩ := h
    match es, hlen, he with
    | [x], _, he =>
      have hx := ex_text (he x (by simp))
      rcases c with _ | ⟨c1, c2⟩
      · have h2 : Lxs (bs ++ []) (blk (stsT b) ++ []) Any := app_a hb Lxs.nil
        exact app_a lxs_if (app_b hx (by decide) (app_a (lxs_blank (c := 32) (by decide)) h2))
      · have h2 : Lxs (bs ++ ([32, 101, 108, 115, 101, 32] ++ cs)) (blk (stsT b) ++ ([wd [101, 108, 115, 101]] ++ blk (stsT (c1 :: c2)))) Any := app_a hb (app_a lxs_else hc)
        exact app_a lxs_if (app_b hx (by decide) (app_a (lxs_blank (c := 32) (by decide)) h2))
  · obtain ⟨rfl, hn, hlen, rfl⟩ := h
    match es, hlen, he with
    | [x], _, he =>
      have hx := ex_text (he x (by simp))
      exact app_a lxs_for (app_b (nm_lx hn) (by decide) (app_a lxs_to (app_b hx (by decide) (app_a (lxs_blank (c := 32) (by decide)) hb))))
  · obtain ⟨rfl, rfl, hlen, rfl, rfl⟩ := h
    match es, hlen, he with
    | [x], _, he =>
      have hx := ex_text (he x (by simp))
      exact app_a lxs_ret (app_m hx (by decide) lxs_semi)
theorem tab_blank {ind : B} (h : ∀ c ∈ ind, Lx.isBlank c = true) : ∀ c ∈ ind ++ [9], Lx.isBlank c = true := by
  intro c hc
  simp at hc
  rcases hc with hc | rfl
  · exact h c hc
  · decide
theorem empty_words {b : List St} (h : b.isEmpty = true) : stsT b = [] := by
  rcases b with _ | ⟨s, r⟩
  · rfl
  · simp at h
mutual
theorem st_lx : ∀ (s : St) (ind : B), WfS VW s → (∀ c ∈ ind, Lx.isBlank c = true) → Lxs (stS s ind) (stT s) Any
  | .mk k n es b c p, ind, hw, hi => by
    rw [WfS] at hw
    obtain ⟨hf, he, hb, hc⟩ := hw
    rw [stS, stT]
    exact stK_lx (V' := True) hf he (blk_lx hi (sts_lx b ind hb hi) empty_words) (blk_lx hi (sts_lx c ind hc hi) empty_words)
theorem sts_lx : ∀ (l : List St) (ind : B), WfSs VW l → (∀ c ∈ ind, Lx.isBlank c = true) → Lxs (stsS l ind) (stsT l) Any
  | [], ind, _, _ => by rw [stsS, stsT]; exact Lxs.nil
  | s :: r, ind, hw, hi => by
    rw [WfSs] at hw
    rw [stsS, stsT]
    have h : Lxs (ind ++ ([9] ++ (stS s (ind ++ [9]) ++ ([10] ++ stsS r ind)))) ([] ++ ([] ++ (stT s ++ ([] ++ stsT r)))) Any := app_a (lxs_blanks hi) (app_a (lxs_blank (c := 9) (by decide)) (app_a (st_lx s (ind ++ [9]) hw.1 (tab_blank hi)) (app_a (lxs_blank (c := 10) (by decide)) (sts_lx r ind hw.2 hi))))
    exact h
end
theorem lxs_colon : Lxs [58, 32] [mk4 [58]] Any := app_a (lxs_m (x := 58) (by decide)) (lxs_blank (c := 32) (by decide))
theorem ty_lx {k : Nat} {y : B} {c : List Tok} (h : Ty k y c) : Lxs y c Shuts := by
  induction h with
  | int => exact lxs_wf (wf_self (x := 105) (r := [110, 116]) (k := 1) rfl ⟨by decide, by decide⟩)
  | bool => exact lxs_wf (wf_self (x := 98) (r := [111, 111, 108]) (k := 1) rfl ⟨by decide, by decide⟩)
  | text => exact lxs_wf (wf_self (x := 116) (r := [101, 120, 116]) (k := 1) rfl ⟨by decide, by decide⟩)
  | @list k y c _ ih =>
    have h2 : Lxs (y ++ [93]) (c ++ [mk4 [93]]) Shuts := app_m ih (by decide) (any_shuts (lxs_m (x := 93) (by decide)))
    have := app_a (lxs_m (x := 91) (by decide)) h2
    simpa using this
  | @map k a y c ha _ ih =>
    have hA : Lxs a [wd a] Shuts := by
      rcases ha with rfl | rfl
      · exact lxs_wf (wf_self (x := 105) (r := [110, 116]) (k := 1) rfl ⟨by decide, by decide⟩)
      · exact lxs_wf (wf_self (x := 116) (r := [101, 120, 116]) (k := 1) rfl ⟨by decide, by decide⟩)
    have h2 : Lxs (y ++ [125]) (c ++ [mk4 [125]]) Shuts := app_m ih (by decide) (any_shuts (lxs_m (x := 125) (by decide)))
    have h3 : Lxs (58 :: (y ++ [125])) (mk4 [58] :: (c ++ [mk4 [125]])) Shuts := app_a (lxs_m (x := 58) (by decide)) h2
    have := app_a (lxs_m (x := 123) (by decide)) (app_m hA (by decide) h3)
    simpa using this
def slS (s : Sl) : B := s.name ++ ([58, 32] ++ s.type)
theorem sl_lx {s : Sl} (h : WfSl VW s) : Lxs (slS s) (slT s) Shuts := by
  obtain ⟨hn, c, hc⟩ := h
  exact app_m (nm_lx hn) (by decide) (app_a lxs_colon (ty_lx (Px.tyT_spec hc)))
theorem sls_lx : ∀ {l : List Sl}, (∀ s ∈ l, WfSl VW s) → Lxs (commasS (l.map slS)) (commas (l.map slT)) Shuts
  | [], _ => any_shuts Lxs.nil
  | [a], h => sl_lx (h a (by simp))
  | a :: b :: r, h => by
    have ih := sls_lx (l := b :: r) (fun e he => h e (by simp at he ⊢; exact Or.inr he))
    simp only [List.map_cons] at ih ⊢
    rw [commasS, commas]
    exact app_m (sl_lx (h a (by simp))) (by decide) (app_a (lxs_m (x := 44) (by decide)) (app_a (lxs_blank (c := 32) (by decide)) ih))
/-- The text of a function, behind its first word. -/
def fnS (f : Px.Fn) : B := f.name ++ ([40] ++ (commasS (f.params.map slS) ++ ([41, 58, 32] ++ (f.result ++ ([32] ++ (blkS (stsS f.body []) [] f.body.isEmpty ++ [10]))))))
theorem fn_lx {f : Px.Fn} (h : WfF VW f) : Lxs (fnS f) (fnT f) Any := by
  obtain ⟨hn, hp, ⟨c, hc⟩, hb, hd⟩ := h
  have h1 : Lxs (blkS (stsS f.body []) [] f.body.isEmpty ++ [10]) (blk (stsT f.body) ++ []) Any := app_a (blk_lx (by simp) (sts_lx f.body [] hb (by simp)) empty_words) (lxs_blank (c := 10) (by decide))
  rw [List.append_nil] at h1
  have h2 : Lxs (f.result ++ ([32] ++ (blkS (stsS f.body []) [] f.body.isEmpty ++ [10]))) (tyT f.result ++ blk (stsT f.body)) Any := app_b (ty_lx (Px.tyT_spec hc)) (by decide) (app_a (lxs_blank (c := 32) (by decide)) h1)
  have h3 : Lxs ([41, 58, 32] ++ (f.result ++ ([32] ++ (blkS (stsS f.body []) [] f.body.isEmpty ++ [10])))) (mk4 [41] :: mk4 [58] :: (tyT f.result ++ blk (stsT f.body))) Any := app_a (lxs_m (x := 41) (by decide)) (app_a lxs_colon h2)
  exact app_m (nm_lx hn) (by decide) (app_a (lxs_m (x := 40) (by decide)) (app_m (sls_lx hp) (by decide) h3))
def ssS : List Sl → B
  | [] => []
  | s :: r => [115, 116, 97, 116, 101, 32] ++ (slS s ++ ([59, 10] ++ ssS r))
def fsS : List Px.Fn → B
  | [] => []
  | f :: r => (if f.on then [111, 110, 32] else [102, 110, 32]) ++ (fnS f ++ fsS r)
/-- The text that is written of a program. -/
def prS (p : Pr) : B := [118, 101, 114, 115, 105, 111, 110, 32] ++ (dg p.version ++ ([59, 10] ++ (ssS p.states ++ fsS p.fns)))
theorem lxs_line : Lxs [59, 10] [mk4 [59]] Any := app_a (lxs_m (x := 59) (by decide)) (lxs_blank (c := 10) (by decide))
theorem ss_lx : ∀ {l : List Sl}, (∀ s ∈ l, WfSl VW s) → Lxs (ssS l) (ssT l) Any
  | [], _ => by rw [ssS, ssT]; exact Lxs.nil
  | s :: r, h => by
    rw [ssS, ssT]
    exact app_a lxs_state (app_m (sl_lx (h s (by simp))) (by decide) (app_a lxs_line (ss_lx (fun x hx => h x (by simp [hx])))))
theorem fs_lx : ∀ {l : List Px.Fn}, (∀ f ∈ l, WfF VW f) → Lxs (fsS l) (fsT l) Any
  | [], _ => by rw [fsS, fsT]; exact Lxs.nil
  | f :: r, h => by
    rw [fsS, fsT]
    have h1 : Lxs (if f.on then [111, 110, 32] else [102, 110, 32]) [wd (if f.on then [111, 110] else [102, 110])] Any := by
      rcases f.on with _ | _
      · exact lxs_fn
      · exact lxs_on
    exact app_a h1 (app_a (fn_lx (h f (by simp))) (fs_lx (fun x hx => h x (by simp [hx]))))
/-- A program's text is cut into its tokens. -/
theorem pr_lex {p : Pr} (h : WfP VW p) (hc : (prT p).length ≤ 4096) : ∃ us, TSim (prT p) us ∧ Lx.lexGo true (prS p) 0 0 = .inl us := by
  obtain ⟨⟨x, hv⟩, hs, hf⟩ := h
  have hn : Lxs (dg p.version) [⟨2, dg p.version, p.version, 0⟩] Shuts := lxs_wf (wf_num (vw_num hv))
  have hp : Lxs (prS p) ([wd [118, 101, 114, 115, 105, 111, 110]] ++ ([⟨2, dg p.version, p.version, 0⟩] ++ ([mk4 [59]] ++ (ssT p.states ++ fsT p.fns)))) Any := app_a lxs_version (app_m hn (by decide) (app_a lxs_line (app_a (ss_lx hs) (fs_lx hf))))
  have e : prT p = ([wd [118, 101, 114, 115, 105, 111, 110]] ++ ([⟨2, dg p.version, p.version, 0⟩] ++ ([mk4 [59]] ++ (ssT p.states ++ fsT p.fns)))) ++ [endT] := by simp [prT]
  rw [e] at hc ⊢
  generalize [wd [118, 101, 114, 115, 105, 111, 110]] ++ ([⟨2, dg p.version, p.version, 0⟩] ++ ([mk4 [59]] ++ (ssT p.states ++ fsT p.fns))) = ts at *
  rw [List.length_append] at hc
  simp only [List.length_cons, List.length_nil] at hc
  obtain ⟨us, hu, h1⟩ := hp [] 0 0 trivial (by omega)
  rw [List.append_nil] at h1
  refine ⟨us ++ [⟨5, [], 0, 0 + (prS p).length⟩], tsim_app hu (.cons ⟨rfl, rfl, rfl⟩ .nil), ?_⟩
  rw [h1, Lx.lexGo_end (by rfl), if_pos (by omega)]
  rfl
end Go.Proofs.YtifebbdjdllfpaaGreatDoor
/- There and back: a program that was read, written, is read as it but for places, written as the same text, with no more tokens. Plain mathematics. -/
namespace Go.Proofs.YtifebbdjdllfpaaGreatDoor
open Px (TSim Ex St Sl Pr exT WfE WfP prT lowE lv opL opX dg)
open Lx (B Tok)
set_option linter.unusedSimpArgs false
set_option linter.unusedVariables false

mutual
theorem ex_er_er : ∀ e : Ex, e.er.er = e.er
  | .mk k o n t a p => by simp only [Px.Ex.er]; rw [exs_er_er a]
theorem exs_er_er : ∀ l : List Ex, Px.ersE (Px.ersE l) = Px.ersE l
  | [] => by simp [Px.ersE]
  | e :: r => by simp only [Px.ersE]; rw [ex_er_er e, exs_er_er r]
end
mutual
theorem st_er_er : ∀ s : St, s.er.er = s.er
  | .mk k n es b c p => by simp only [Px.St.er]; rw [exs_er_er es, sts_er_er b, sts_er_er c]
theorem sts_er_er : ∀ l : List St, Px.ersS (Px.ersS l) = Px.ersS l
  | [] => by simp [Px.ersS]
  | e :: r => by simp only [Px.ersS]; rw [st_er_er e, sts_er_er r]
end
theorem pr_er_er (p : Pr) : p.er.er = p.er := by
  simp only [Pr.er, List.map_map]
  congr 1
  refine List.map_congr_left (fun f _ => ?_)
  simp only [Function.comp, Px.Fn.er, List.map_map, sts_er_er]
  congr 1
theorem low_er (n : Nat) (e : Ex) : lowE n e.er = lowE n e := by
  match e with
  | .mk k o m t a p => simp only [Px.Ex.er]; rfl
theorem getD_er (l : List Ex) (i n : Nat) : lowE n ((Px.ersE l).getD i default) = lowE n (l.getD i default) := by
  rw [Px.ersE_map, List.getD_eq_getElem?_getD, List.getD_eq_getElem?_getD, List.getElem?_map]
  rcases l[i]? with _ | x
  · rfl
  · exact low_er n x
mutual
theorem exS_er : ∀ e : Ex, exS e.er = exS e
  | .mk k o n t a p => by
    simp only [Px.Ex.er, exS]
    rw [exSs_er a]
    simp only [exKS, getD_er]
theorem exSs_er : ∀ l : List Ex, exSs (Px.ersE l) = exSs l
  | [] => by simp [Px.ersE, exSs]
  | e :: r => by simp only [Px.ersE, exSs]; rw [exS_er e, exSs_er r]
end
theorem isEmpty_er (b : List St) : (Px.ersS b).isEmpty = b.isEmpty := by
  rcases b with _ | ⟨s, r⟩ <;> simp [Px.ersS]
mutual
theorem stS_er : ∀ (s : St) (ind : B), stS s.er ind = stS s ind
  | .mk k n es b c p, ind => by
    simp only [Px.St.er, stS]
    have he : (Px.ersE es).map exS = es.map exS := by rw [← exSs_map, exSs_er, exSs_map]
    rw [he, stsS_er b ind, stsS_er c ind, isEmpty_er, isEmpty_er]
theorem stsS_er : ∀ (l : List St) (ind : B), stsS (Px.ersS l) ind = stsS l ind
  | [], ind => by simp [Px.ersS]
  | s :: r, ind => by simp only [Px.ersS, stsS]; rw [stS_er s, stsS_er r]
end
theorem slS_er (s : Sl) : slS s.er = slS s := rfl
theorem ssS_er : ∀ l : List Sl, ssS (l.map Px.Sl.er) = ssS l
  | [] => rfl
  | s :: r => by simp only [List.map_cons, ssS, slS_er, ssS_er r]
theorem fnS_er (f : Px.Fn) : fnS f.er = fnS f := by
  have : (f.params.map Px.Sl.er).map slS = f.params.map slS := by rw [List.map_map]; rfl
  simp only [fnS, Px.Fn.er, this, stsS_er, isEmpty_er]
theorem fsS_er : ∀ l : List Px.Fn, fsS (l.map Px.Fn.er) = fsS l
  | [] => rfl
  | f :: r => by
    simp only [List.map_cons, fsS, fnS_er, fsS_er r]
    rfl
/-- The text hangs on no place. -/
theorem prS_er (p : Pr) : prS p.er = prS p := by simp only [prS, Pr.er, ssS_er, fsS_er]
theorem prS_same {p q : Pr} (h : p.er = q.er) : prS p = prS q := by rw [← prS_er p, h, prS_er]
/-- A source's tokens are such as can be written. -/
theorem wf_zero {k : Nat} {t : B} {m : Nat} (hk : k = 1 ∨ k = 3) (h : Wf true k t m) : m = 0 := by
  have h1 := h.reads [] (fun c hc => by simp at hc)
  obtain ⟨y, r, e, _, _⟩ := h.head
  rw [List.append_nil, e] at h1
  rcases tok_text h1 with h2 | h2
  · exact h2.2.1
  · have hk1 : k = 1 := by rcases hk with h | h; exact h; exact absurd h h2.1
    subst hk1
    simp only [Lx.tokR] at h1
    split at h1
    · unfold Lx.nameR at h1
      split at h1
      · simp only [Lx.R.ok, Sum.inl.injEq, Prod.mk.injEq] at h1; exact h1.2.2.1.symm
      · simp [Lx.R.ok, Lx.R.bad] at h1
    split at h1
    · unfold Lx.numberR at h1
      split at h1
      · simp [Lx.R.ok, Lx.R.bad] at h1
      split at h1 <;> simp [Lx.R.ok, Lx.R.bad] at h1
    split at h1
    · have := quote_kinds r.length r 1 [] 1 _ m _ (Nat.le_refl _) h1
      omega
    · unfold Lx.markR at h1; split at h1 <;> simp [Lx.R.ok, Lx.R.bad] at h1
theorem lex_allv {b : B} {ts : List Tok} (h : Lx.lex true b = .inl ts) : Px.AllV VW ts := by
  unfold Lx.lex at h
  split at h
  · simp at h
  · have hw := wf_all true b (b.length + 1) 0 0 ts (by omega) (by omega) (by simpa using h)
    intro t ht
    rcases hw t ht with ⟨h5, _, _⟩ | hw
    · exact ⟨fun h1 => by omega, fun h1 => by omega, fun h1 => by omega⟩
    · refine ⟨fun h1 => ?_, fun h1 => ?_, fun h1 => ?_⟩
      · rw [h1] at hw
        have := wf_zero (Or.inl rfl) hw
        rw [this] at hw; exact hw
      · rw [h1] at hw; exact hw
      · rw [h1] at hw
        have := wf_zero (Or.inr rfl) hw
        rw [this] at hw; exact hw
/-- What was read can be written, with no more tokens. -/
theorem show_reads {b : B} {p : Pr} (h : Px.parse b = .inl p) : WfP VW p ∧ ∃ ts, Lx.lex true b = .inl ts ∧ (prT p).length ≤ ts.length ∧ ts.length ≤ 4096 := by
  unfold Px.parse at h
  rcases hl : Lx.lex true b with ts | x
  · rw [hl] at h
    simp only at h
    rcases hp : Px.program ts with ⟨q, l'⟩ | x
    · rw [hp] at h
      simp at h
      subst h
      obtain ⟨h1, h2⟩ := Px.program_sm (lex_allv hl) hp
      exact ⟨h1, ts, rfl, h2, lex_few hl⟩
    · rw [hp] at h; simp at h
  · rw [hl] at h; simp at h
theorem tsim_len {a b : List Tok} (h : TSim a b) : a.length = b.length := h.len
/-- What was written is read as it, but for places. -/
theorem show_again {p : Pr} (hw : WfP VW p) (hc : (prT p).length ≤ 4096) (hl : (prS p).length ≤ 16384) : ∃ us q, Lx.lex true (prS p) = .inl us ∧ us.length = (prT p).length ∧ Px.parse (prS p) = .inl q ∧ q.er = p.er := by
  obtain ⟨us, hu, he⟩ := pr_lex hw hc
  have hlex : Lx.lex true (prS p) = .inl us := by unfold Lx.lex; rw [if_neg (by omega)]; exact he
  have hs := Px.program_sim _ _ hu
  rw [Px.program_back hw] at hs
  rcases hq : Px.program us with ⟨q, l'⟩ | x
  · rw [hq] at hs
    have h1 : p.er.er = q.er := hs.1
    rw [pr_er_er] at h1
    refine ⟨us, q, hlex, hu.len.symm, ?_, h1.symm⟩
    unfold Px.parse
    rw [hlex]
    simp only [hq]
  · rw [hq] at hs
    exact absurd hs (by rcases x with ⟨a, e⟩; exact fun h => h)
end Go.Proofs.YtifebbdjdllfpaaGreatDoor
/- The chapter's example, and one more, by calculation. -/
namespace Go.Proofs.YtifebbdjdllfpaaGreatDoor
def shown (b : Lx.B) : Lx.B := match Px.parse b with | .inl p => prS p | .inr _ => []
theorem wake_show : shown [118, 101, 114, 115, 105, 111, 110, 32, 49, 59, 102, 110, 32, 102, 40, 41, 58, 105, 110, 116, 123, 114, 101, 116, 32, 40, 40, 49, 43, 50, 41, 42, 51, 41, 45, 40, 45, 52, 41, 59, 125] = [118, 101, 114, 115, 105, 111, 110, 32, 49, 59, 10, 102, 110, 32, 102, 40, 41, 58, 32, 105, 110, 116, 32, 123, 10, 9, 114, 101, 116, 32, 40, 49, 32, 43, 32, 50, 41, 32, 42, 32, 51, 32, 45, 32, 45, 52, 59, 10, 125, 10] := by kernel_rfl
theorem more_show : shown [118, 101, 114, 115, 105, 111, 110, 32, 49, 50, 59, 111, 110, 32, 103, 111, 40, 97, 58, 105, 110, 116, 44, 98, 58, 123, 116, 101, 120, 116, 58, 91, 105, 110, 116, 93, 125, 41, 58, 116, 101, 120, 116, 123, 105, 102, 32, 33, 40, 97, 60, 49, 41, 61, 61, 116, 114, 117, 101, 123, 115, 101, 116, 32, 98, 91, 34, 120, 92, 34, 121, 34, 93, 61, 48, 59, 125, 101, 108, 115, 101, 123, 102, 111, 114, 32, 105, 32, 116, 111, 32, 51, 123, 100, 101, 108, 32, 98, 91, 40, 45, 97, 41, 91, 49, 93, 93, 59, 125, 125, 108, 101, 116, 32, 122, 61, 102, 40, 97, 44, 40, 49, 45, 50, 41, 45, 51, 44, 49, 45, 40, 50, 45, 51, 41, 41, 59, 114, 101, 116, 32, 122, 59, 125, 115, 116, 97, 116, 101, 32, 110, 58, 105, 110, 116, 59, 102, 110, 32, 104, 40, 41, 58, 98, 111, 111, 108, 123, 105, 102, 32, 97, 123, 125, 114, 101, 116, 32, 102, 97, 108, 115, 101, 59, 125] = [118, 101, 114, 115, 105, 111, 110, 32, 49, 50, 59, 10, 115, 116, 97, 116, 101, 32, 110, 58, 32, 105, 110, 116, 59, 10, 111, 110, 32, 103, 111, 40, 97, 58, 32, 105, 110, 116, 44, 32, 98, 58, 32, 123, 116, 101, 120, 116, 58, 91, 105, 110, 116, 93, 125, 41, 58, 32, 116, 101, 120, 116, 32, 123, 10, 9, 105, 102, 32, 33, 40, 97, 32, 60, 32, 49, 41, 32, 61, 61, 32, 116, 114, 117, 101, 32, 123, 10, 9, 9, 115, 101, 116, 32, 98, 91, 34, 120, 92, 34, 121, 34, 93, 32, 61, 32, 48, 59, 10, 9, 125, 32, 101, 108, 115, 101, 32, 123, 10, 9, 9, 102, 111, 114, 32, 105, 32, 116, 111, 32, 51, 32, 123, 10, 9, 9, 9, 100, 101, 108, 32, 98, 91, 40, 45, 97, 41, 91, 49, 93, 93, 59, 10, 9, 9, 125, 10, 9, 125, 10, 9, 108, 101, 116, 32, 122, 32, 61, 32, 102, 40, 97, 44, 32, 49, 32, 45, 32, 50, 32, 45, 32, 51, 44, 32, 49, 32, 45, 32, 40, 50, 32, 45, 32, 51, 41, 41, 59, 10, 9, 114, 101, 116, 32, 122, 59, 10, 125, 10, 102, 110, 32, 104, 40, 41, 58, 32, 98, 111, 111, 108, 32, 123, 10, 9, 105, 102, 32, 97, 32, 123, 125, 10, 9, 114, 101, 116, 32, 102, 97, 108, 115, 101, 59, 10, 125, 10] := by kernel_rfl
end Go.Proofs.YtifebbdjdllfpaaGreatDoor
/- What Show answers of any program, in plain mathematics; of one that was read it is the text. -/
namespace Go.Proofs.YtifebbdjdllfpaaGreatDoor
open Px (Ex St Sl Pr exT WfE WfS WfSs WfSl WfF WfP NmOk Ty IsTy lowE lv opL opX dg)
open Lx (B Tok)
set_option linter.unusedSimpArgs false
set_option linter.unusedVariables false

/-- Any expression: kind, operator, number, text, arguments. -/
inductive GE where
  | mk (kind op num : Int) (text : B) (args : List GE)
inductive GS where
  | mk (kind : Int) (name : B) (es : List GE) (body other : List GS)
structure GF where
  name : B
  on : Bool
  params : List (B × B)
  result : B
  body : List GS
structure GP where
  version : Int
  states : List (B × B)
  fns : List GF
instance : Inhabited GE := ⟨.mk 0 0 0 [] []⟩
def GE.k : GE → Int
  | .mk k _ _ _ _ => k
def GE.o : GE → Int
  | .mk _ o _ _ _ => o
/-- How strongly an operator binds; 0: there is none such. -/
def gL (o : Int) : Nat := if 0 ≤ o then opL o.toNat else 0
def gName (t : B) : Bool := wordB t && !Px.reserved t
open Classical in
noncomputable def gType (y : B) : Bool := if IsTy 4 y then true else false
/-- Does it stand in brackets at a level? -/
def gLow (n : Nat) (e : GE) : Bool := (e.k == 15 && decide (gL e.o < n)) || (decide (6 < n) && (e.k == 13 || e.k == 14))
def gKS (k o n : Int) (t : B) (args : List GE) (xs : List B) : Option B :=
  if k = 1 then (if xs.length = 0 ∧ 0 ≤ n then some (dg n.toNat) else none)
  else if k = 2 then (if xs.length = 0 ∧ 0 ≤ n ∧ n ≤ 1 then some (if n = 1 then [116, 114, 117, 101] else [102, 97, 108, 115, 101]) else none)
  else if k = 3 then (if xs.length = 0 ∧ plainB t = true then some (quoteT t) else none)
  else if k = 6 then (if xs.length = 0 ∧ gName t = true then some t else none)
  else if k = 7 then (if gName t = true then some (t ++ 40 :: (commasS xs ++ [41])) else none)
  else if k = 12 then (if xs.length = 2 then some (withinS (gLow 7 (args.getD 0 default)) (xs.getD 0 []) ++ 91 :: (xs.getD 1 [] ++ [93])) else none)
  else if k = 13 then (if xs.length = 1 then some (45 :: withinS (gLow 6 (args.getD 0 default)) (xs.getD 0 [])) else none)
  else if k = 14 then (if xs.length = 1 then some (33 :: withinS (gLow 6 (args.getD 0 default)) (xs.getD 0 [])) else none)
  else if k = 15 then (if xs.length = 2 ∧ gL o ≠ 0 then some (withinS (gLow (lv o.toNat) (args.getD 0 default)) (xs.getD 0 []) ++ 32 :: (opX o.toNat ++ 32 :: withinS (gLow (gL o + 1) (args.getD 1 default)) (xs.getD 1 []))) else none)
  else none
mutual
/-- An expression's text; none: it can't stand in one. -/
def gE : GE → Option B
  | .mk k o n t args => match gEs args with
    | some xs => gKS k o n t args xs
    | none => none
def gEs : List GE → Option (List B)
  | [] => some []
  | e :: r => match gE e, gEs r with
    | some x, some xs => some (x :: xs)
    | _, _ => none
end
def gBlk (s : Option B) (ind : B) (none : Bool) : Option B := s.map fun s => blkS s ind none
def gSK (k : Int) (n : B) (es : List GE) (b c : Option B) (none : Bool) : Option B :=
  if k < 1 ∨ 6 < k ∨ es.length < 1 ∨ 2 < es.length ∨ (es.length = 2 ∧ k ≠ 2) then .none
  else if k ≠ 4 ∧ k ≠ 6 ∧ gName n = false then .none
  else match gE (es.getD 0 default) with
    | .none => .none
    | some x =>
      if k = 1 then some ([108, 101, 116, 32] ++ (n ++ ([32, 61, 32] ++ (x ++ [59]))))
      else if k = 2 then (if es.length = 1 then some ([115, 101, 116, 32] ++ (n ++ ([32, 61, 32] ++ (x ++ [59])))) else (gE (es.getD 1 default)).map fun y => [115, 101, 116, 32] ++ (n ++ ([91] ++ (x ++ ([93, 32, 61, 32] ++ (y ++ [59]))))))
      else if k = 3 then some ([100, 101, 108, 32] ++ (n ++ ([91] ++ (x ++ [93, 59]))))
      else if k = 6 then some ([114, 101, 116, 32] ++ (x ++ [59]))
      else match b with
        | .none => .none
        | some b =>
          if k = 5 then some ([102, 111, 114, 32] ++ (n ++ ([32, 116, 111, 32] ++ (x ++ ([32] ++ b)))))
          else if none then some ([105, 102, 32] ++ (x ++ ([32] ++ b)))
          else c.map fun c => [105, 102, 32] ++ (x ++ ([32] ++ (b ++ ([32, 101, 108, 115, 101, 32] ++ c))))
mutual
def gSt : GS → B → Option B
  | .mk k n es b c, ind => gSK k n es (gBlk (gSts b ind) ind b.isEmpty) (gBlk (gSts c ind) ind c.isEmpty) c.isEmpty
def gSts : List GS → B → Option B
  | [], _ => some []
  | s :: r, ind => match gSt s (ind ++ [9]), gSts r ind with
    | some x, some y => some (ind ++ ([9] ++ (x ++ ([10] ++ y))))
    | _, _ => none
end
noncomputable def gSl (s : B × B) : Option B := if gName s.1 = true ∧ gType s.2 = true then some (s.1 ++ ([58, 32] ++ s.2)) else none
noncomputable def gSls : List (B × B) → Option (List B)
  | [] => some []
  | s :: r => match gSl s, gSls r with
    | some x, some xs => some (x :: xs)
    | _, _ => none
noncomputable def gFn (f : GF) : Option B :=
  if gName f.name = true ∧ gType f.result = true then
    match gSls f.params, gBlk (gSts f.body []) [] f.body.isEmpty with
    | some ps, some b => some ((if f.on then [111, 110, 32] else [102, 110, 32]) ++ (f.name ++ ([40] ++ (commasS ps ++ ([41, 58, 32] ++ (f.result ++ ([32] ++ (b ++ [10]))))))))
    | _, _ => none
  else none
noncomputable def gSs : List (B × B) → Option B
  | [] => some []
  | s :: r => match gSl s, gSs r with
    | some x, some y => some ([115, 116, 97, 116, 101, 32] ++ (x ++ ([59, 10] ++ y)))
    | _, _ => none
noncomputable def gFs : List GF → Option B
  | [] => some []
  | f :: r => match gFn f, gFs r with
    | some x, some y => some (x ++ y)
    | _, _ => none
/-- A program's text; none: it can't stand in one. -/
noncomputable def gPr (p : GP) : Option B :=
  if 0 ≤ p.version then
    match gSs p.states, gFs p.fns with
    | some x, some y => some ([118, 101, 114, 115, 105, 111, 110, 32] ++ (dg p.version.toNat ++ ([59, 10] ++ (x ++ y))))
    | _, _ => none
  else none
/-- What Show answers: a text and an error's number. -/
noncomputable def gShow (form : Nat) (p : GP) : B × Nat :=
  match gPr p with
  | none => ([], form)
  | some s => if 16384 < s.length then ([], 3) else (s, 0)
/- What was read, as such a program. -/
mutual
def ofEx : Ex → GE
  | .mk k o n t args _ => .mk k o n t (ofExs args)
def ofExs : List Ex → List GE
  | [] => []
  | e :: r => ofEx e :: ofExs r
end
mutual
def ofSt : St → GS
  | .mk k n es b c _ => .mk k n (ofExs es) (ofSts b) (ofSts c)
def ofSts : List St → List GS
  | [] => []
  | s :: r => ofSt s :: ofSts r
end
def ofSl (s : Sl) : B × B := (s.name, s.type)
def ofFn (f : Px.Fn) : GF := ⟨f.name, f.on, f.params.map ofSl, f.result, ofSts f.body⟩
def ofPr (p : Pr) : GP := ⟨p.version, p.states.map ofSl, p.fns.map ofFn⟩
theorem ofExs_map : ∀ l, ofExs l = l.map ofEx
  | [] => by simp [ofExs]
  | e :: r => by simp [ofExs, ofExs_map r]
theorem ofSts_map : ∀ l, ofSts l = l.map ofSt
  | [] => by simp [ofSts]
  | e :: r => by simp [ofSts, ofSts_map r]
theorem gL_nat (o : Nat) : gL (o : Int) = opL o := by simp [gL]
theorem beq_nat (k x : Nat) : ((k : Int) == (x : Int)) = (k == x) := by
  rcases h : (k == x) with _ | _
  · simp at h ⊢; omega
  · simp at h ⊢; omega
theorem gLow_of (n : Nat) (e : Ex) : gLow n (ofEx e) = lowE n e := by
  match e with
  | .mk k o m t a p =>
    rw [ofEx]
    show ((((k : Int) == ((15 : Nat) : Int)) && decide (gL (o : Int) < n)) || (decide (6 < n) && (((k : Int) == ((13 : Nat) : Int)) || ((k : Int) == ((14 : Nat) : Int))))) = (((k == 15) && decide (opL o < n)) || (decide (6 < n) && ((k == 13) || (k == 14))))
    rw [beq_nat, beq_nat, beq_nat, gL_nat]
theorem wf_word {t : B} {m : Nat} (h : VW 1 t m) : wordB t = true := by
  have h1 := h.reads [] (fun c hc => by simp at hc)
  obtain ⟨y, r, e, _, _⟩ := h.head
  have hw : word 1 t = t := rfl
  rw [hw] at e h1
  rw [List.append_nil] at h1
  rw [e] at h1 ⊢
  simp only [Lx.tokR] at h1
  split at h1
  · rename_i hl
    unfold Lx.nameR at h1
    split at h1
    · rename_i h16
      simp only [Lx.R.ok, Sum.inl.injEq, Prod.mk.injEq] at h1
      rw [h1.2.1] at h16
      simp only [wordB, Bool.and_eq_true, decide_eq_true_eq]
      refine ⟨h16, hl, ?_⟩
      rw [List.all_eq_true]
      intro c hc
      rw [← h1.2.1] at hc
      exact Lx.tw_mem c hc
    · simp [Lx.R.ok, Lx.R.bad] at h1
  split at h1
  · unfold Lx.numberR at h1
    split at h1
    · simp [Lx.R.ok, Lx.R.bad] at h1
    split at h1 <;> simp [Lx.R.ok, Lx.R.bad] at h1
  split at h1
  · have := quote_kinds r.length r 1 [] 1 _ m _ (Nat.le_refl _) h1
    omega
  · unfold Lx.markR at h1; split at h1 <;> simp [Lx.R.ok, Lx.R.bad] at h1
theorem gname_of {t : B} (h : NmOk VW t) : gName t = true := by simp [gName, wf_word h.2, h.1]
theorem vw_plainB {t : B} {m : Nat} (h : VW 3 t m) : plainB t = true := by
  have h1 := h.reads [] (fun c hc => by simp at hc)
  obtain ⟨y, r, e, _, _⟩ := h.head
  rw [List.append_nil, e] at h1
  rcases tok_text h1 with h2 | h2
  · exact h2.2.2
  · exact absurd rfl h2.1
mutual
theorem gE_of : ∀ e : Ex, WfE VW e → gE (ofEx e) = some (exS e)
  | .mk k o n t args p, hw => by
    rw [WfE] at hw
    obtain ⟨hf, hs⟩ := hw
    rw [ofEx, gE, gEs_of args hs]
    simp only
    have hlen : (exSs args).length = args.length := by rw [exSs_map]; simp
    rw [exS]
    rcases hf with h | h | h | h | h | h | h | h
    · obtain ⟨rfl, rfl, rfl, hl, _⟩ := h
      simp [gKS, exKS, hlen, hl]
    · obtain ⟨rfl, rfl, rfl, hl, hn⟩ := h
      rcases (show n = 0 ∨ n = 1 by omega) with rfl | rfl <;> simp [gKS, exKS, hlen, hl]
    · obtain ⟨rfl, rfl, rfl, hl, hv⟩ := h
      simp [gKS, exKS, hlen, hl, vw_plainB hv]
    · obtain ⟨rfl, rfl, rfl, hl, hr, hv⟩ := h
      simp [gKS, exKS, hlen, hl, gname_of ⟨hr, hv⟩]
    · obtain ⟨rfl, rfl, rfl, hr, hv⟩ := h
      simp [gKS, exKS, gname_of ⟨hr, hv⟩]
    · obtain ⟨rfl, rfl, rfl, rfl, hl⟩ := h
      match args, hl, hlen with
      | [a, b], _, hlen =>
        simp [gKS, exKS, hlen, ofExs, gLow_of]
    · obtain ⟨hk, rfl, rfl, rfl, hl⟩ := h
      match args, hl, hlen with
      | [a], _, hlen =>
        rcases hk with rfl | rfl
        · simp [gKS, exKS, hlen, ofExs, gLow_of]
        · simp [gKS, exKS, hlen, ofExs, gLow_of]
    · obtain ⟨rfl, h1, h2, rfl, rfl, hl⟩ := h
      match args, hl, hlen with
      | [a, b], _, hlen =>
        have hp := (Px.opL_pos h1 h2).1
        have hg : gL (o : Int) = opL o := by simp [gL]
        have hne : opL o ≠ 0 := by omega
        simp [gKS, exKS, hlen, ofExs, gLow_of, hg, hne]
theorem gEs_of : ∀ l : List Ex, Px.WfEs VW l → gEs (ofExs l) = some (exSs l)
  | [], _ => by simp [ofExs, gEs, exSs]
  | e :: r, hw => by
    rw [Px.WfEs] at hw
    rw [ofExs, gEs, gE_of e hw.1, gEs_of r hw.2, exSs]
end
theorem getD_of (l : List Ex) (i : Nat) (hi : i < l.length) : (ofExs l).getD i default = ofEx (l.getD i default) := by
  rw [ofExs_map, List.getD_eq_getElem?_getD, List.getD_eq_getElem?_getD, List.getElem?_map, List.getElem?_eq_getElem hi]
  rfl
theorem isEmpty_of (b : List St) : (ofSts b).isEmpty = b.isEmpty := by
  rcases b with _ | ⟨s, r⟩ <;> simp [ofSts]
theorem gSK_of {k : Nat} {n : B} {es : List Ex} {b c : List St} {bs cs : B} (hf : Px.FormS VW k n es.length b c) (he : ∀ e ∈ es, WfE VW e) : gSK k n (ofExs es) (some bs) (some cs) c.isEmpty = some (stKS k n (es.map exS) bs cs c.isEmpty) := by
  rcases hf with h | h | h | h | h | h
  · obtain ⟨rfl, hn, hl, rfl, rfl⟩ := h
    match es, hl, he with
    | [x], _, he => simp [gSK, stKS, ofExs, gname_of hn, gE_of x (he x (by simp))]
  · obtain ⟨rfl, hn, hl, rfl, rfl⟩ := h
    match es, hl, he with
    | [x], _, he => simp [gSK, stKS, ofExs, gname_of hn, gE_of x (he x (by simp))]
    | [y, x], _, he => simp [gSK, stKS, ofExs, gname_of hn, gE_of y (he y (by simp)), gE_of x (he x (by simp))]
  · obtain ⟨rfl, hn, hl, rfl, rfl⟩ := h
    match es, hl, he with
    | [x], _, he => simp [gSK, stKS, ofExs, gname_of hn, gE_of x (he x (by simp))]
  · obtain ⟨rfl, rfl, hl⟩ := h
    match es, hl, he with
    | [x], _, he =>
      rcases c with _ | ⟨c1, c2⟩
      · simp [gSK, stKS, ofExs, gE_of x (he x (by simp))]
      · simp [gSK, stKS, ofExs, gE_of x (he x (by simp))]
  · obtain ⟨rfl, hn, hl, rfl⟩ := h
    match es, hl, he with
    | [x], _, he => simp [gSK, stKS, ofExs, gname_of hn, gE_of x (he x (by simp))]
  · obtain ⟨rfl, rfl, hl, rfl, rfl⟩ := h
    match es, hl, he with
    | [x], _, he => simp [gSK, stKS, ofExs, gE_of x (he x (by simp))]
mutual
theorem gSt_of : ∀ (s : St) (ind : B), WfS VW s → gSt (ofSt s) ind = some (stS s ind)
  | .mk k n es b c p, ind, hw => by
    rw [WfS] at hw
    obtain ⟨hf, he, hb, hc⟩ := hw
    rw [ofSt, gSt, gSts_of b ind hb, gSts_of c ind hc, isEmpty_of, isEmpty_of, stS]
    exact gSK_of hf he
theorem gSts_of : ∀ (l : List St) (ind : B), WfSs VW l → gSts (ofSts l) ind = some (stsS l ind)
  | [], ind, _ => by simp [ofSts, gSts, stsS]
  | s :: r, ind, hw => by
    rw [WfSs] at hw
    rw [ofSts, gSts, gSt_of s _ hw.1, gSts_of r ind hw.2, stsS]
end
theorem gSl_of {s : Sl} (h : WfSl VW s) : gSl (ofSl s) = some (slS s) := by
  obtain ⟨hn, c, hc⟩ := h
  have ht : gType s.type = true := by unfold gType; rw [if_pos ⟨c, hc⟩]
  simp [gSl, ofSl, slS, gname_of hn, ht]
theorem gSls_of : ∀ {l : List Sl}, (∀ s ∈ l, WfSl VW s) → gSls (l.map ofSl) = some (l.map slS)
  | [], _ => by simp [gSls]
  | s :: r, h => by
    rw [List.map_cons, gSls, gSl_of (h s (by simp)), gSls_of (fun x hx => h x (by simp [hx]))]
    simp
theorem gSs_of : ∀ {l : List Sl}, (∀ s ∈ l, WfSl VW s) → gSs (l.map ofSl) = some (ssS l)
  | [], _ => by simp [gSs, ssS]
  | s :: r, h => by
    rw [List.map_cons, gSs, gSl_of (h s (by simp)), gSs_of (fun x hx => h x (by simp [hx])), ssS]
theorem gFn_of {f : Px.Fn} (h : WfF VW f) : gFn (ofFn f) = some ((if f.on then [111, 110, 32] else [102, 110, 32]) ++ fnS f) := by
  obtain ⟨hn, hp, ⟨c, hc⟩, hb, hd⟩ := h
  have ht : gType f.result = true := by unfold gType; rw [if_pos ⟨c, hc⟩]
  have e1 : gSls (ofFn f).params = some (f.params.map slS) := gSls_of hp
  have e2 : gBlk (gSts (ofFn f).body []) [] (ofFn f).body.isEmpty = some (blkS (stsS f.body []) [] f.body.isEmpty) := by
    show gBlk (gSts (ofSts f.body) []) [] (ofSts f.body).isEmpty = _
    rw [gSts_of f.body [] hb, isEmpty_of]; rfl
  rw [gFn, if_pos (show gName (ofFn f).name = true ∧ gType (ofFn f).result = true from ⟨gname_of hn, ht⟩), e1, e2]
  rfl
theorem gFs_of : ∀ {l : List Px.Fn}, (∀ f ∈ l, WfF VW f) → gFs (l.map ofFn) = some (fsS l)
  | [], _ => by simp [gFs, fsS]
  | f :: r, h => by
    rw [List.map_cons, gFs, gFn_of (h f (by simp)), gFs_of (fun x hx => h x (by simp [hx])), fsS]
    simp
/-- Of what was read Show's text is the one that is written. -/
theorem gPr_of {p : Pr} (h : WfP VW p) : gPr (ofPr p) = some (prS p) := by
  obtain ⟨_, hs, hf⟩ := h
  have e1 : gSs (ofPr p).states = some (ssS p.states) := gSs_of hs
  have e2 : gFs (ofPr p).fns = some (fsS p.fns) := gFs_of hf
  rw [gPr, if_pos (show 0 ≤ (ofPr p).version by show (0 : Int) ≤ (p.version : Int); omega), e1, e2]
  rfl
end Go.Proofs.YtifebbdjdllfpaaGreatDoor
/- How any program lies in memory: what Show reads of it, the rest as it may be. -/
namespace Go.Proofs.YtifebbdjdllfpaaGreatDoor
open Go.RowKit
set_option linter.unusedVariables false

mutual
/-- The eight cells of an expression. -/
def IsGE (B : Nat → Prop) (w : World) : GE → List Value → Prop
  | .mk k o n t args, cs => ∃ (x p : Int) (y : ByteArray) (sl : Value) (row : List Value), cs = [.int .i64 k, .int .i64 o, .int .i64 n, .string ⟨t.toArray⟩, .int .i64 x, .string y, sl, .int .i64 p] ∧ SlRow B w 8 sl args.length row ∧ AllGE B w args row
def AllGE (B : Nat → Prop) (w : World) : List GE → List Value → Prop
  | [], cs => cs = []
  | e :: r, cs => ∃ c1 c2, cs = c1 ++ c2 ∧ IsGE B w e c1 ∧ AllGE B w r c2
end
mutual
/-- The nine cells of a statement. -/
def IsGS (B : Nat → Prop) (w : World) : GS → List Value → Prop
  | .mk k n es b c, cs => ∃ (x y p : Int) (f : Bool) (s1 s2 s3 : Value) (r1 r2 r3 : List Value), cs = [.int .i64 k, .string ⟨n.toArray⟩, .int .i64 x, .bool f, .int .i64 y, s1, s2, s3, .int .i64 p] ∧ SlRow B w 8 s1 es.length r1 ∧ AllGE B w es r1 ∧ SlRow B w 9 s2 b.length r2 ∧ AllGS B w b r2 ∧ SlRow B w 9 s3 c.length r3 ∧ AllGS B w c r3
def AllGS (B : Nat → Prop) (w : World) : List GS → List Value → Prop
  | [], cs => cs = []
  | e :: r, cs => ∃ c1 c2, cs = c1 ++ c2 ∧ IsGS B w e c1 ∧ AllGS B w r c2
end
/-- The three cells of a name with its type. -/
def IsGL (s : List UInt8 × List UInt8) (cs : List Value) : Prop := ∃ p : Int, cs = [.string ⟨s.1.toArray⟩, .string ⟨s.2.toArray⟩, .int .i64 p]
def AllGL : List (List UInt8 × List UInt8) → List Value → Prop
  | [], cs => cs = []
  | e :: r, cs => ∃ c1 c2, cs = c1 ++ c2 ∧ IsGL e c1 ∧ AllGL r c2
def IsGLs (B : Nat → Prop) (w : World) (l : List (List UInt8 × List UInt8)) (v : Value) : Prop := ∃ row, SlRow B w 3 v l.length row ∧ AllGL l row
def IsGSs (B : Nat → Prop) (w : World) (l : List GS) (v : Value) : Prop := ∃ row, SlRow B w 9 v l.length row ∧ AllGS B w l row
/-- The seven cells of a function. -/
def IsGF (B : Nat → Prop) (w : World) (f : GF) (cs : List Value) : Prop :=
  ∃ (ps bs : Value) (p : Int), cs = [.string ⟨f.name.toArray⟩, .bool f.on, ps, .string ⟨f.result.toArray⟩, .slice none 0 0, bs, .int .i64 p] ∧ IsGLs B w f.params ps ∧ IsGSs B w f.body bs
def AllGF (B : Nat → Prop) (w : World) : List GF → List Value → Prop
  | [], cs => cs = []
  | e :: r, cs => ∃ c1 c2, cs = c1 ++ c2 ∧ IsGF B w e c1 ∧ AllGF B w r c2
def IsGFs (B : Nat → Prop) (w : World) (l : List GF) (v : Value) : Prop := ∃ row, SlRow B w 7 v l.length row ∧ AllGF B w l row
/-- A program's value. -/
def IsGP (B : Nat → Prop) (w : World) (p : GP) (v : Value) : Prop := ∃ ss fs, v = .agg #[.int .i64 p.version, ss, fs] ∧ IsGLs B w p.states ss ∧ IsGFs B w p.fns fs

mutual
theorem IsGE.since {B : Nat → Prop} {w w' : World} (s : Since B w w') : ∀ {e : GE} {cs : List Value}, IsGE B w e cs → IsGE B w' e cs
  | .mk k o n t args, cs, h => by
    rw [IsGE] at h ⊢
    obtain ⟨x, p, y, sl, row, hc, hr, ha⟩ := h
    exact ⟨x, p, y, sl, row, hc, hr.since s, AllGE.since s ha⟩
theorem AllGE.since {B : Nat → Prop} {w w' : World} (s : Since B w w') : ∀ {l : List GE} {cs : List Value}, AllGE B w l cs → AllGE B w' l cs
  | [], cs, h => by rw [AllGE] at h ⊢; exact h
  | e :: r, cs, h => by
    rw [AllGE] at h ⊢
    obtain ⟨c1, c2, hc, h1, h2⟩ := h
    exact ⟨c1, c2, hc, IsGE.since s h1, AllGE.since s h2⟩
end
mutual
theorem IsGS.since {B : Nat → Prop} {w w' : World} (s : Since B w w') : ∀ {e : GS} {cs : List Value}, IsGS B w e cs → IsGS B w' e cs
  | .mk k n es b c, cs, h => by
    rw [IsGS] at h ⊢
    obtain ⟨x, y, p, f, s1, s2, s3, r1, r2, r3, hc, a1, a2, a3, a4, a5, a6⟩ := h
    exact ⟨x, y, p, f, s1, s2, s3, r1, r2, r3, hc, a1.since s, a2.since s, a3.since s, AllGS.since s a4, a5.since s, AllGS.since s a6⟩
theorem AllGS.since {B : Nat → Prop} {w w' : World} (s : Since B w w') : ∀ {l : List GS} {cs : List Value}, AllGS B w l cs → AllGS B w' l cs
  | [], cs, h => by rw [AllGS] at h ⊢; exact h
  | e :: r, cs, h => by
    rw [AllGS] at h ⊢
    obtain ⟨c1, c2, hc, h1, h2⟩ := h
    exact ⟨c1, c2, hc, IsGS.since s h1, AllGS.since s h2⟩
end
theorem IsGLs.since {B : Nat → Prop} {w w' : World} (s : Since B w w') {l : List (List UInt8 × List UInt8)} {v : Value} (h : IsGLs B w l v) : IsGLs B w' l v := by
  obtain ⟨row, h1, h2⟩ := h
  exact ⟨row, h1.since s, h2⟩
theorem IsGSs.since {B : Nat → Prop} {w w' : World} (s : Since B w w') {l : List GS} {v : Value} (h : IsGSs B w l v) : IsGSs B w' l v := by
  obtain ⟨row, h1, h2⟩ := h
  exact ⟨row, h1.since s, h2.since s⟩
theorem IsGF.since {B : Nat → Prop} {w w' : World} (s : Since B w w') {f : GF} {cs : List Value} (h : IsGF B w f cs) : IsGF B w' f cs := by
  obtain ⟨ps, bs, p, h1, h2, h3⟩ := h
  exact ⟨ps, bs, p, h1, h2.since s, h3.since s⟩
theorem AllGF.since {B : Nat → Prop} {w w' : World} (s : Since B w w') : ∀ {l : List GF} {cs : List Value}, AllGF B w l cs → AllGF B w' l cs
  | [], cs, h => h
  | e :: r, cs, h => by
    obtain ⟨c1, c2, hc, h1, h2⟩ := h
    exact ⟨c1, c2, hc, h1.since s, AllGF.since s h2⟩
theorem IsGFs.since {B : Nat → Prop} {w w' : World} (s : Since B w w') {l : List GF} {v : Value} (h : IsGFs B w l v) : IsGFs B w' l v := by
  obtain ⟨row, h1, h2⟩ := h
  exact ⟨row, h1.since s, h2.since s⟩
theorem IsGP.since {B : Nat → Prop} {w w' : World} (s : Since B w w') {p : GP} {v : Value} (h : IsGP B w p v) : IsGP B w' p v := by
  obtain ⟨ss, fs, hv, h1, h2⟩ := h
  exact ⟨ss, fs, hv, h1.since s, h2.since s⟩
theorem IsGE.len {B : Nat → Prop} {w : World} {e : GE} {cs : List Value} (h : IsGE B w e cs) : cs.length = 8 := by
  cases e; rw [IsGE] at h; obtain ⟨x, p, y, sl, row, hc, _⟩ := h; rw [hc]; rfl
theorem IsGS.len {B : Nat → Prop} {w : World} {e : GS} {cs : List Value} (h : IsGS B w e cs) : cs.length = 9 := by
  cases e; rw [IsGS] at h; obtain ⟨x, y, p, f, s1, s2, s3, r1, r2, r3, hc, _⟩ := h; rw [hc]; rfl
theorem IsGL.len {e : List UInt8 × List UInt8} {cs : List Value} (h : IsGL e cs) : cs.length = 3 := by
  obtain ⟨p, hc⟩ := h; rw [hc]; rfl
theorem IsGF.len {B : Nat → Prop} {w : World} {e : GF} {cs : List Value} (h : IsGF B w e cs) : cs.length = 7 := by
  obtain ⟨ps, bs, p, hc, _⟩ := h; rw [hc]; rfl
/-- One element of a row of elements. -/
theorem row_get {α : Type} {sz : Nat} {P : α → List Value → Prop} {A : List α → List Value → Prop} (hlen : ∀ {e cs}, P e cs → cs.length = sz) (hcons : ∀ {e r cs}, A (e :: r) cs → ∃ c1 c2, cs = c1 ++ c2 ∧ P e c1 ∧ A r c2) : ∀ {l : List α} {row : List Value} {i : Nat} {e : α}, A l row → l[i]? = some e → ∃ cs, P e cs ∧ ∀ j, j < sz → row[i * sz + j]? = cs[j]?
  | [], row, i, e, h, hi => by simp at hi
  | a :: r, row, 0, e, h, hi => by
    obtain ⟨c1, c2, hc, h1, h2⟩ := hcons h
    simp at hi; subst hi
    exact ⟨c1, h1, fun j hj => by rw [hc, List.getElem?_append_left (by have := hlen h1; omega)]; simp⟩
  | a :: r, row, i + 1, e, h, hi => by
    obtain ⟨c1, c2, hc, h1, h2⟩ := hcons h
    obtain ⟨cs, k1, k2⟩ := row_get hlen hcons h2 (by simpa using hi)
    refine ⟨cs, k1, fun j hj => ?_⟩
    have hl := hlen h1
    have hm : (i + 1) * sz = i * sz + sz := by rw [Nat.add_mul, Nat.one_mul]
    rw [hc, List.getElem?_append_right (by omega), ← k2 j hj]
    congr 1
    omega
theorem AllGE.cons {B : Nat → Prop} {w : World} {e : GE} {r : List GE} {cs : List Value} (h : AllGE B w (e :: r) cs) : ∃ c1 c2, cs = c1 ++ c2 ∧ IsGE B w e c1 ∧ AllGE B w r c2 := by rw [AllGE] at h; exact h
theorem AllGS.cons {B : Nat → Prop} {w : World} {e : GS} {r : List GS} {cs : List Value} (h : AllGS B w (e :: r) cs) : ∃ c1 c2, cs = c1 ++ c2 ∧ IsGS B w e c1 ∧ AllGS B w r c2 := by rw [AllGS] at h; exact h
theorem AllGE.get {B : Nat → Prop} {w : World} {l : List GE} {row : List Value} {i : Nat} {e : GE} (h : AllGE B w l row) (hi : l[i]? = some e) : ∃ cs, IsGE B w e cs ∧ ∀ j, j < 8 → row[i * 8 + j]? = cs[j]? :=
  row_get (P := IsGE B w) (A := AllGE B w) IsGE.len AllGE.cons h hi
theorem AllGS.get {B : Nat → Prop} {w : World} {l : List GS} {row : List Value} {i : Nat} {e : GS} (h : AllGS B w l row) (hi : l[i]? = some e) : ∃ cs, IsGS B w e cs ∧ ∀ j, j < 9 → row[i * 9 + j]? = cs[j]? :=
  row_get (P := IsGS B w) (A := AllGS B w) IsGS.len AllGS.cons h hi
theorem AllGL.get {l : List (List UInt8 × List UInt8)} {row : List Value} {i : Nat} {e : List UInt8 × List UInt8} (h : AllGL l row) (hi : l[i]? = some e) : ∃ cs, IsGL e cs ∧ ∀ j, j < 3 → row[i * 3 + j]? = cs[j]? :=
  row_get (P := IsGL) (A := AllGL) IsGL.len (fun h => h) h hi
theorem AllGF.get {B : Nat → Prop} {w : World} {l : List GF} {row : List Value} {i : Nat} {e : GF} (h : AllGF B w l row) (hi : l[i]? = some e) : ∃ cs, IsGF B w e cs ∧ ∀ j, j < 7 → row[i * 7 + j]? = cs[j]? :=
  row_get (P := IsGF B w) (A := AllGF B w) IsGF.len (fun h => h) h hi
/- What was read lies so. -/
theorem ofExs_length (l : List Px.Ex) : (ofExs l).length = l.length := by rw [ofExs_map]; simp
theorem ofSts_length (l : List Px.St) : (ofSts l).length = l.length := by rw [ofSts_map]; simp
mutual
theorem IsEx.any {B : Nat → Prop} {w : World} : ∀ {e : Px.Ex} {cs : List Value}, IsEx B w e cs → IsGE B w (ofEx e) cs
  | .mk k o n t args p, cs, h => by
    rw [IsEx] at h
    rw [ofEx, IsGE]
    obtain ⟨sl, row, hc, hr, ha⟩ := h
    exact ⟨0, p, ⟨#[]⟩, sl, row, hc, by rw [ofExs_length]; exact hr, AllEx.any ha⟩
theorem AllEx.any {B : Nat → Prop} {w : World} : ∀ {l : List Px.Ex} {cs : List Value}, AllEx B w l cs → AllGE B w (ofExs l) cs
  | [], cs, h => by rw [AllEx] at h; rw [ofExs, AllGE]; exact h
  | e :: r, cs, h => by
    rw [AllEx] at h
    rw [ofExs, AllGE]
    obtain ⟨c1, c2, hc, h1, h2⟩ := h
    exact ⟨c1, c2, hc, IsEx.any h1, AllEx.any h2⟩
end
mutual
theorem IsSt.any {B : Nat → Prop} {w : World} : ∀ {e : Px.St} {cs : List Value}, IsSt B w e cs → IsGS B w (ofSt e) cs
  | .mk k n es b c p, cs, h => by
    rw [IsSt] at h
    rw [ofSt, IsGS]
    obtain ⟨s1, s2, s3, r1, r2, r3, hc, a1, a2, a3, a4, a5, a6⟩ := h
    exact ⟨0, 0, p, false, s1, s2, s3, r1, r2, r3, hc, by rw [ofExs_length]; exact a1, a2.any, by rw [ofSts_length]; exact a3, AllSt.any a4, by rw [ofSts_length]; exact a5, AllSt.any a6⟩
theorem AllSt.any {B : Nat → Prop} {w : World} : ∀ {l : List Px.St} {cs : List Value}, AllSt B w l cs → AllGS B w (ofSts l) cs
  | [], cs, h => by rw [AllSt] at h; rw [ofSts, AllGS]; exact h
  | e :: r, cs, h => by
    rw [AllSt] at h
    rw [ofSts, AllGS]
    obtain ⟨c1, c2, hc, h1, h2⟩ := h
    exact ⟨c1, c2, hc, IsSt.any h1, AllSt.any h2⟩
end
theorem slCells_any : ∀ l : List Px.Sl, AllGL (l.map ofSl) (l.flatMap slCells)
  | [] => rfl
  | s :: r => ⟨slCells s, r.flatMap slCells, by simp, ⟨s.place, rfl⟩, slCells_any r⟩
theorem IsSls.any {B : Nat → Prop} {w : World} {l : List Px.Sl} {v : Value} (h : IsSls B w l v) : IsGLs B w (l.map ofSl) v :=
  ⟨_, by rw [List.length_map]; exact h, slCells_any l⟩
theorem IsSts.any {B : Nat → Prop} {w : World} {l : List Px.St} {v : Value} (h : IsSts B w l v) : IsGSs B w (ofSts l) v := by
  obtain ⟨row, h1, h2⟩ := h
  exact ⟨row, by rw [ofSts_length]; exact h1, h2.any⟩
theorem AllFn.any {B : Nat → Prop} {w : World} : ∀ {l : List Px.Fn} {cs : List Value}, AllFn B w l cs → AllGF B w (l.map ofFn) cs
  | [], cs, h => h
  | e :: r, cs, h => by
    obtain ⟨c1, c2, hc, ⟨ps, bs, h1, h2, h3⟩, h5⟩ := h
    exact ⟨c1, c2, hc, ⟨ps, bs, e.place, h1, h2.any, h3.any⟩, AllFn.any h5⟩
theorem IsPr.any {B : Nat → Prop} {w : World} {p : Px.Pr} {v : Value} (h : IsPr B w p v) : IsGP B w (ofPr p) v := by
  obtain ⟨ss, fs, hv, h1, row, h2, h3⟩ := h
  exact ⟨ss, fs, hv, h1.any, row, by rw [show (ofPr p).fns.length = p.fns.length from by simp [ofPr]]; exact h2, h3.any⟩
end Go.Proofs.YtifebbdjdllfpaaGreatDoor
/- What lies in memory lies below its end. -/
namespace Go.Proofs.YtifebbdjdllfpaaGreatDoor
open Go.RowKit
set_option linter.unusedVariables false

theorem SlRow.under {B : Nat → Prop} {w : World} {sz : Nat} {v : Value} {n : Nat} {row : List Value} (h : SlRow B w sz v n row) : SlRow (fun k => k < w.heap.size) w sz v n row := by
  obtain ⟨h1, h2⟩ := h
  refine ⟨h1, ?_⟩
  rcases h2 with h2 | ⟨g, o, cap, hv, hn, hc, hb, hg, hr⟩
  · exact Or.inl h2
  · exact Or.inr ⟨g, o, cap, hv, hn, hc, hg, hg, hr⟩
mutual
theorem IsGE.under {B : Nat → Prop} {w : World} : ∀ {e : GE} {cs : List Value}, IsGE B w e cs → IsGE (fun k => k < w.heap.size) w e cs
  | .mk k o n t args, cs, h => by
    rw [IsGE] at h ⊢
    obtain ⟨x, p, y, sl, row, hc, hr, ha⟩ := h
    exact ⟨x, p, y, sl, row, hc, hr.under, AllGE.under ha⟩
theorem AllGE.under {B : Nat → Prop} {w : World} : ∀ {l : List GE} {cs : List Value}, AllGE B w l cs → AllGE (fun k => k < w.heap.size) w l cs
  | [], cs, h => by rw [AllGE] at h ⊢; exact h
  | e :: r, cs, h => by
    rw [AllGE] at h ⊢
    obtain ⟨c1, c2, hc, h1, h2⟩ := h
    exact ⟨c1, c2, hc, IsGE.under h1, AllGE.under h2⟩
end
mutual
theorem IsGS.under {B : Nat → Prop} {w : World} : ∀ {e : GS} {cs : List Value}, IsGS B w e cs → IsGS (fun k => k < w.heap.size) w e cs
  | .mk k n es b c, cs, h => by
    rw [IsGS] at h ⊢
    obtain ⟨x, y, p, f, s1, s2, s3, r1, r2, r3, hc, a1, a2, a3, a4, a5, a6⟩ := h
    exact ⟨x, y, p, f, s1, s2, s3, r1, r2, r3, hc, a1.under, a2.under, a3.under, AllGS.under a4, a5.under, AllGS.under a6⟩
theorem AllGS.under {B : Nat → Prop} {w : World} : ∀ {l : List GS} {cs : List Value}, AllGS B w l cs → AllGS (fun k => k < w.heap.size) w l cs
  | [], cs, h => by rw [AllGS] at h ⊢; exact h
  | e :: r, cs, h => by
    rw [AllGS] at h ⊢
    obtain ⟨c1, c2, hc, h1, h2⟩ := h
    exact ⟨c1, c2, hc, IsGS.under h1, AllGS.under h2⟩
end
theorem IsGLs.under {B : Nat → Prop} {w : World} {l : List (List UInt8 × List UInt8)} {v : Value} (h : IsGLs B w l v) : IsGLs (fun k => k < w.heap.size) w l v := by
  obtain ⟨row, h1, h2⟩ := h
  exact ⟨row, h1.under, h2⟩
theorem IsGSs.under {B : Nat → Prop} {w : World} {l : List GS} {v : Value} (h : IsGSs B w l v) : IsGSs (fun k => k < w.heap.size) w l v := by
  obtain ⟨row, h1, h2⟩ := h
  exact ⟨row, h1.under, h2.under⟩
theorem IsGF.under {B : Nat → Prop} {w : World} {f : GF} {cs : List Value} (h : IsGF B w f cs) : IsGF (fun k => k < w.heap.size) w f cs := by
  obtain ⟨ps, bs, p, h1, h2, h3⟩ := h
  exact ⟨ps, bs, p, h1, h2.under, h3.under⟩
theorem AllGF.under {B : Nat → Prop} {w : World} : ∀ {l : List GF} {cs : List Value}, AllGF B w l cs → AllGF (fun k => k < w.heap.size) w l cs
  | [], cs, h => h
  | e :: r, cs, h => by
    obtain ⟨c1, c2, hc, h1, h2⟩ := h
    exact ⟨c1, c2, hc, h1.under, AllGF.under h2⟩
theorem IsGFs.under {B : Nat → Prop} {w : World} {l : List GF} {v : Value} (h : IsGFs B w l v) : IsGFs (fun k => k < w.heap.size) w l v := by
  obtain ⟨row, h1, h2⟩ := h
  exact ⟨row, h1.under, h2.under⟩
theorem IsGP.under {B : Nat → Prop} {w : World} {p : GP} {v : Value} (h : IsGP B w p v) : IsGP (fun k => k < w.heap.size) w p v := by
  obtain ⟨ss, fs, hv, h1, h2⟩ := h
  exact ⟨ss, fs, hv, h1.under, h2.under⟩
end Go.Proofs.YtifebbdjdllfpaaGreatDoor
