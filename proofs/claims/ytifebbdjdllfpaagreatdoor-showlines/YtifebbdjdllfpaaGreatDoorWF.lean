import Derived.Test.YtifebbdjdllfpaaGreatDoorWC
import Derived.Test.YtifebbdjdllfpaaGreatDoorWD
import Derived.Test.YtifebbdjdllfpaaGreatDoorWE
import Derived.Test.YtifebbdjdllfpaaGreatDoorWB
import Derived.Test.YtifebbdjdllfpaaGreatDoorWA
/- Writing an expression: every one. -/
namespace Go.Proofs.YtifebbdjdllfpaaGreatDoor
open Go.RowKit
open Px (opL opX dg lv)
set_option linter.unusedSimpArgs false
set_option linter.unusedVariables false

theorem gE_0 (k o n : Int) (t : List UInt8) : gE (.mk k o n t []) = gKS k o n t [] [] := by rw [gE]; simp only [gEs]
theorem gE_1 (k o n : Int) (t : List UInt8) (a : GE) : gE (.mk k o n t [a]) = (gE a).bind fun x => gKS k o n t [a] [x] := by
  rw [gE]; simp only [gEs]; rcases gE a with _ | x <;> rfl
theorem gE_2 (k o n : Int) (t : List UInt8) (a c : GE) : gE (.mk k o n t [a, c]) = (gE a).bind fun x => (gE c).bind fun y => gKS k o n t [a, c] [x, y] := by
  rw [gE]; simp only [gEs]; rcases gE a with _ | x <;> rcases gE c with _ | y <;> rfl
theorem allS_len : ∀ {l : List (Option (List UInt8))} {xs : List (List UInt8)}, allS l = some xs → xs.length = l.length
  | [], xs, h => by simp [allS] at h; subst h; rfl
  | x :: r, xs, h => by
    simp only [allS, Option.bind_eq_some_iff, Option.map_eq_some_iff] at h
    obtain ⟨y, rfl, ys, hy, rfl⟩ := h
    simp [allS_len hy]
theorem gKS_count {k o n : Int} {t : List UInt8} {args : List GE} {xs : List (List UInt8)} (hc : xs.length ≠ nArgs k xs.length) : gKS k o n t args xs = none := by
  unfold gKS
  unfold nArgs at hc
  by_cases h1 : k = 1
  · subst h1
    have hc : xs.length ≠ 0 := by simpa using hc
    rw [if_pos rfl, if_neg (fun h => hc h.1)]
  rw [if_neg h1]
  by_cases h2 : k = 2
  · subst h2
    have hc : xs.length ≠ 0 := by simpa using hc
    rw [if_pos rfl, if_neg (fun h => hc h.1)]
  rw [if_neg h2]
  by_cases h3 : k = 3
  · subst h3
    have hc : xs.length ≠ 0 := by simpa using hc
    rw [if_pos rfl, if_neg (fun h => hc h.1)]
  rw [if_neg h3]
  by_cases h6 : k = 6
  · subst h6
    have hc : xs.length ≠ 0 := by simpa using hc
    rw [if_pos rfl, if_neg (fun h => hc h.1)]
  rw [if_neg h6]
  by_cases h7 : k = 7
  · subst h7
    simp at hc
  rw [if_neg h7]
  rw [if_neg h7] at hc
  by_cases h12 : k = 12
  · subst h12
    rw [if_pos (Or.inl rfl)] at hc
    rw [if_pos rfl, if_neg hc]
  rw [if_neg h12]
  by_cases h13 : k = 13
  · subst h13
    rw [if_neg (by omega), if_pos (Or.inl rfl)] at hc
    rw [if_pos rfl, if_neg hc]
  rw [if_neg h13]
  by_cases h14 : k = 14
  · subst h14
    rw [if_neg (by omega), if_pos (Or.inr rfl)] at hc
    rw [if_pos rfl, if_neg hc]
  rw [if_neg h14]
  by_cases h15 : k = 15
  · subst h15
    rw [if_pos (Or.inr rfl)] at hc
    rw [if_pos rfl, if_neg (fun h => hc h.1)]
  rw [if_neg h15]
theorem gE_count {k o n : Int} {t : List UInt8} {args : List GE} (hc : args.length ≠ nArgs k args.length) : gE (.mk k o n t args) = none := by
  rw [gE, gEs_all]
  rcases h : allS (args.map gE) with _ | xs
  · rfl
  · have hl := allS_len h
    rw [List.length_map] at hl
    rw [← hl] at hc
    exact gKS_count hc
theorem low_no {k o n : Int} {t : List UInt8} {args : List GE} (h15 : k ≠ 15) (h13 : k ≠ 13) (h14 : k ≠ 14) (j : Nat) : gLow j (.mk k o n t args) = false := by
  simp [gLow, GE.k, GE.o, h15, h13, h14]
theorem map_low (r : Option (List UInt8)) : r.map (withinS false) = r := by cases r <;> simp [withinS]
theorem expr_whole {base b : Nat} {k o n : Int} {t : List UInt8} {args : List GE} (h1 : n ≤ 9223372036854775807) (h2 : t.length ≤ maxLen) (hs : ∀ e ∈ args, ExOk base b e) : ExOk base b (.mk k o n t args) := by
  intro least l tabs cs w hle hW hx
  by_cases hc' : args.length ≠ nArgs k args.length
  · rw [gE_count hc']
    exact expr_count hW hx hc'
  have hc : args.length = nArgs k args.length := by omega
  by_cases k7 : k = 7
  · subst k7
    rw [low_no (by decide) (by decide) (by decide), map_low]
    have := expr_call hW hx h2 hs hle
    have e : gE (.mk 7 o n t args) = if gName t then (allS (args.map gE)).map fun xs => t ++ 40 :: (commasS xs ++ [41]) else none := by
      rw [gE, gEs_all]
      rcases allS (args.map gE) with _ | xs
      · cases gName t <;> rfl
      · simp [gKS]
    rw [e]
    exact this
  by_cases k12 : k = 12
  · subst k12
    rw [low_no (by decide) (by decide) (by decide), map_low]
    have hl : args.length = 2 := by rw [hc]; rfl
    match args, hl, hs, hx with
    | [a, c], _, hs, hx =>
      have := expr_at hW hx (hs a (by simp)) (hs c (by simp)) hle
      have e : gE (.mk 12 o n t [a, c]) = (gE a).bind fun x => (gE c).map fun y => withinS (gLow 7 a) x ++ 91 :: (y ++ [93]) := by
        rw [gE_2]
        rcases gE a with _ | x <;> rcases gE c with _ | y <;> simp [gKS]
      rw [e]
      exact this
  by_cases k13 : k = 13
  · subst k13
    have hl : args.length = 1 := by rw [hc]; rfl
    match args, hl, hs, hx with
    | [a], _, hs, hx =>
      have := expr_un13 hW hx (hs a (by simp)) hle
      have e : (gE (.mk 13 o n t [a])).map (withinS (gLow (least + 1) (.mk 13 o n t [a]))) = (gE a).map fun x => withinS (gLow (least + 1) (.mk 13 o n t [a])) (45 :: withinS (gLow 6 a) x) := by
        rw [gE_1]
        rcases gE a with _ | x <;> simp [gKS]
      rw [e]
      exact this
  by_cases k14 : k = 14
  · subst k14
    have hl : args.length = 1 := by rw [hc]; rfl
    match args, hl, hs, hx with
    | [a], _, hs, hx =>
      have := expr_un14 hW hx (hs a (by simp)) hle
      have e : (gE (.mk 14 o n t [a])).map (withinS (gLow (least + 1) (.mk 14 o n t [a]))) = (gE a).map fun x => withinS (gLow (least + 1) (.mk 14 o n t [a])) (33 :: withinS (gLow 6 a) x) := by
        rw [gE_1]
        rcases gE a with _ | x <;> simp [gKS]
      rw [e]
      exact this
  by_cases k15 : k = 15
  · subst k15
    have hl : args.length = 2 := by rw [hc]; rfl
    match args, hl, hs, hx with
    | [a, c], _, hs, hx =>
      by_cases hop : gL o = 0
      · have e : gE (.mk 15 o n t [a, c]) = none := by
          rw [gE_2]
          rcases gE a with _ | x <;> rcases gE c with _ | y <;> simp [gKS, hop]
        rw [e]
        exact expr_noop hW hx hop hle
      · obtain ⟨m, rfl, m1, m2⟩ := gL_pos hop
        have := expr_bin hW hx m1 m2 (hs a (by simp)) (hs c (by simp)) hle
        have e : gE (.mk 15 m n t [a, c]) = bnT m a c := by
          rw [gE_2, bnT]
          rw [gL_nat] at hop
          rcases gE a with _ | x <;> rcases gE c with _ | y <;> simp [gKS, gL_nat, hop]
        rw [e]
        exact this
  rw [low_no k15 k13 k14, map_low]
  have hl : args.length = 0 := by rw [hc]; unfold nArgs; rw [if_neg k7, if_neg (by omega), if_neg (by omega)]
  match args, hl, hx with
  | [], _, hx =>
    rw [gE_0]
    by_cases k1 : k = 1
    · subst k1
      have := expr_int hW hx hle h1
      rw [show gKS 1 o n t [] [] = if 0 ≤ n then some (dg n.toNat) else none by simp [gKS]]
      exact this
    by_cases k2 : k = 2
    · subst k2
      have := expr_bool hW hx hle
      rw [show gKS 2 o n t [] [] = if 0 ≤ n ∧ n ≤ 1 then some (if n = 1 then [116, 114, 117, 101] else [102, 97, 108, 115, 101]) else none by simp [gKS]]
      exact this
    by_cases k3 : k = 3
    · subst k3
      have := expr_text hW hx hle h2
      rw [show gKS 3 o n t [] [] = if plainB t then some (quoteT t) else none by simp [gKS]]
      exact this
    by_cases k6 : k = 6
    · subst k6
      have := expr_name hW hx hle h2
      rw [show gKS 6 o n t [] [] = if gName t then some t else none by simp [gKS]]
      exact this
    have := expr_none hW hx ⟨k1, k2, k3, k6, k7, k12, k13, k14, k15⟩ hle
    rw [show gKS k o n t [] [] = none by simp [gKS, k1, k2, k3, k6, k7, k12, k13, k14, k15]]
    exact this
mutual
/-- Every expression is written as it should be. -/
theorem exok {base b : Nat} : ∀ e : GE, OkE e → ExOk base b e
  | .mk k o n t args, h => by
    rw [OkE] at h
    exact expr_whole h.1 h.2.1 (exoks args h.2.2)
theorem exoks {base b : Nat} : ∀ l : List GE, OkEs l → ∀ e ∈ l, ExOk base b e
  | [], _, e, he => by simp at he
  | a :: r, h, e, he => by
    rw [OkEs] at h
    have ha := exok (base := base) (b := b) a h.1
    have hr := exoks (base := base) (b := b) r h.2
    rcases List.mem_cons.1 he with rfl | he
    · exact ha
    · exact hr e he
end
end Go.Proofs.YtifebbdjdllfpaaGreatDoor
/- Writing a statement: what all share. -/
namespace Go.Proofs.YtifebbdjdllfpaaGreatDoor
open Go.RowKit
set_option linter.unusedSimpArgs false
set_option linter.unusedVariables false

set_option maxRecDepth 100000 in
set_option maxHeartbeats 4000000 in
theorem headed_any {base b : Nat} {e : GE} {ss : List GS} (hX : ExOk base b e) (hB : BlOk base b ss) {l : List UInt8} {tabs : Nat} {cs : List Value} {v : Value} {w : World} (hd : tabs + 1 + gsDs ss ≤ 1099511627776) (hW : Wr base b l tabs w) (hx : IsGE (fun k => k < base) w e cs) (hv : IsGSs (fun k => k < base) w ss v) :
    Calls Tryz.prog 110 #[wPtr b, .agg cs.toArray, v] w fun r w' => WPost base b l tabs w ((gE e).bind fun x => (gBlk (gSts ss (indT tabs)) (indT tabs) ss.isEmpty).map fun y => x ++ ([32] ++ y)) r w' := by
  obtain ⟨res, hres⟩ : ∃ res : Option (List UInt8), Aside (res = (gE e).bind fun x => (gBlk (gSts ss (indT tabs)) (indT tabs) ss.isEmpty).map fun y => x ++ ([32] ++ y)) := ⟨_, show _ = _ from rfl⟩
  rw [← hres.out]
  match cs, hx.len, hx with
  | [c0, c1, c2, c3, c4, c5, c6, c7], _, hx =>
  have hE := (In.start hW).alloc #[c0, c1, c2, c3, c4, c5, c6, c7] 24 (by decide)
  clear hW
  go_enter Tryz.func110, Tryz.ntmps110
  go_wp2_with fail
  generalize w.alloc (.cells #[c0, c1, c2, c3, c4, c5, c6, c7] 24) = w1 at *
  generalize w.heap.size = g at *
  have hC := hX.top hE.wr (hx.since hE.fw.since)
  have hF1 := hE.fw
  refine hC.mono ?_
  rcases hq : gE e with _ | x
  · rintro r w3 ⟨rfl, l3, tabs3, h3, hf3⟩
    refine ⟨rfl, ?_⟩
    rw [hres.out, hq]
    exact ⟨rfl, l3, tabs3, h3, hF1.trans hf3⟩
  rintro r w3 ⟨rfl, l3, hw3, h3, hf3⟩
  clear hC hE
  go_wp2_with fail
  refine (put_l h3 [32] (by simp)).mono ?_
  rintro r w4 ⟨rfl, l4, hw4, h4, hf4⟩
  have hF4 := (hF1.trans hf3).trans hf4
  have hC := hB l4 tabs v w4 hd h4 (hv.since hF4.since)
  go_wp2_with fail
  refine hC.mono ?_
  rcases hqb : gBlk (gSts ss (indT tabs)) (indT tabs) ss.isEmpty with _ | y
  · rintro r w5 ⟨rfl, l5, tabs5, h5, hf5⟩
    refine ⟨rfl, ?_⟩
    rw [hres.out, hq, hqb]
    exact ⟨rfl, l5, tabs5, h5, hF4.trans hf5⟩
  · rintro r w5 ⟨rfl, l5, hw5, h5, hf5⟩
    go_wp2
    go_end0
    rw [hres.out, hq, hqb]
    exact ⟨rfl, l5, by simpa using (hw3.trans hw4).trans hw5, h5, hF4.trans hf5⟩
theorem IsGE.shows {B : Nat → Prop} {w : World} {e : GE} {cs : List Value} (h : IsGE B w e cs) : ∃ (k o n : Int) (t : ByteArray) (x : Int) (y : ByteArray) (a : Option Addr) (m q : Nat) (p : Int), cs = [.int .i64 k, .int .i64 o, .int .i64 n, .string t, .int .i64 x, .string y, .slice a m q, .int .i64 p] := by
  obtain ⟨k, o, n, t, args⟩ := e
  rw [IsGE] at h
  obtain ⟨x, p, y, sl, row, rfl, hr, _⟩ := h
  obtain ⟨ao, cap, rfl, _⟩ := hr.slice
  exact ⟨_, _, _, _, _, _, _, _, _, _, rfl⟩
theorem cat2 (a c : List UInt8) : ((⟨a.toArray⟩ ++ ⟨c.toArray⟩ : ByteArray)) = ⟨(a ++ c).toArray⟩ := by
  apply ByteArray.ext
  simp [ByteArray.data_append]
theorem gName_len' {x : List UInt8} (h : gName x = true) : x.length ≤ 16 := by
  cases x with
  | nil => simp
  | cons c r => simp [gName, wordB] at h; simp; omega
abbrev gsBox (k : Int) (n : List UInt8) (x : Int) (f : Bool) (y : Int) (s1 s2 s3 : Value) (p : Int) : Array Value := #[.int .i64 k, .string ⟨n.toArray⟩, .int .i64 x, .bool f, .int .i64 y, s1, s2, s3, .int .i64 p]
abbrev sks (g0 : Nat) (S X : Array Value) : List (Nat × Obj) := [(g0 + 1, xBox X), (g0, sBox S)]
theorem In.sboxes {base b : Nat} {l : List UInt8} {tabs : Nat} {w : World} (h : Wr base b l tabs w) (S X : Array Value) : In base b (sks w.heap.size S X) l tabs w ((w.alloc (sBox S)).alloc (xBox X)) := by
  have := ((In.start h).alloc S 41 (by decide)).alloc X 24 (by decide)
  simpa [sks] using this
set_option maxRecDepth 100000 in
set_option maxHeartbeats 4000000 in
/-- The wrong number of expressions. -/
theorem stmt_count {base b : Nat} {k : Int} {n : List UInt8} {es : List GE} {bo el : List GS} {l : List UInt8} {tabs : Nat} {cs : List Value} {w : World} (hW : Wr base b l tabs w) (hx : IsGS (fun k => k < base) w (.mk k n es bo el) cs) (h1 : es.length ≠ 1) (h2 : es.length ≠ 2 ∨ k ≠ 2) :
    Calls Tryz.prog 89 #[wPtr b, .agg cs.toArray] w fun r w' => WPost base b l tabs w none r w' := by
  rw [IsGS] at hx
  obtain ⟨x, y, p, f, s1, s2, s3, r1, r2, r3, rfl, hr1, ha1, hr2, ha2, hr3, ha3⟩ := hx
  obtain ⟨a1, q1, rfl, hm1⟩ := hr1.slice
  obtain ⟨a2, q2, rfl, hm2⟩ := hr2.slice
  obtain ⟨a3, q3, rfl, hm3⟩ := hr3.slice
  have hE := (In.start hW).alloc (gsBox k n x f y (.slice a1 es.length q1) (.slice a2 bo.length q2) (.slice a3 el.length q3) p) 41 (by decide)
  have e1 : ((es.length : Int) == 1) = false := by rw [beq_eq_false_iff_ne]; omega
  clear hr1 ha1 hr2 ha2 hr3 ha3 hm1 hm2 hm3 hW
  generalize es.length = ne at *
  by_cases e2 : ne = 2
  · have e3 : (k == 2) = false := by rw [beq_eq_false_iff_ne]; omega
    subst e2
    go_enter Tryz.func89, Tryz.ntmps89
    go_wp2_with fail
    refine (need_no _).mono ?_
    rintro e w3 ⟨rfl, rfl⟩
    exact ⟨rfl, rfl, l, tabs, hE.wr, hE.fw⟩
  · have e3 : ((ne : Int) == 2) = false := by rw [beq_eq_false_iff_ne]; omega
    go_enter Tryz.func89, Tryz.ntmps89
    go_wp2_with fail
    refine (need_no _).mono ?_
    rintro e w3 ⟨rfl, rfl⟩
    exact ⟨rfl, rfl, l, tabs, hE.wr, hE.fw⟩
end Go.Proofs.YtifebbdjdllfpaaGreatDoor
/- Writing a statement: a let. -/
namespace Go.Proofs.YtifebbdjdllfpaaGreatDoor
open Go.RowKit
set_option linter.unusedSimpArgs false
set_option linter.unusedVariables false

set_option maxRecDepth 100000 in
set_option maxHeartbeats 8000000 in
/-- A let. -/
theorem stmt_let {base b : Nat}  {n : List UInt8} {a : GE} {bo el : List GS} {l : List UInt8} {tabs : Nat} {cs : List Value} {w : World} (hW : Wr base b l tabs w) (hx : IsGS (fun k => k < base) w (.mk 1 n [a] bo el) cs) (hnl : n.length ≤ maxLen) (hXa : ExOk base b a) :
    Calls Tryz.prog 89 #[wPtr b, .agg cs.toArray] w fun r w' => WPost base b l tabs w (if gName n then (gE a).map fun x => [108, 101, 116, 32] ++ (n ++ ([32, 61, 32] ++ (x ++ [59]))) else none) r w' := by
  obtain ⟨res, hres⟩ : ∃ res : Option (List UInt8), Aside (res = if gName n then (gE a).map fun x => [108, 101, 116, 32] ++ (n ++ ([32, 61, 32] ++ (x ++ [59]))) else none) := ⟨_, show _ = _ from rfl⟩
  rw [← hres.out]
  rw [IsGS] at hx
  obtain ⟨x, y, p, f, s1, s2, s3, r1, r2, r3, rfl, hr1, ha1, hr2, ha2, hr3, ha3⟩ := hx
  obtain ⟨a1, q1, rfl, hm1⟩ := hr1.slice
  obtain ⟨a2, q2, rfl, hm2⟩ := hr2.slice
  obtain ⟨a3, q3, rfl, hm3⟩ := hr3.slice
  have hBo : ∀ w', FW base b w w' → IsGSs (fun k => k < base) w' bo (.slice a2 bo.length q2) := fun w' hF => ⟨r2, hr2.since hF.since, ha2.since hF.since⟩
  have hEl : ∀ w', FW base b w w' → IsGSs (fun k => k < base) w' el (.slice a3 el.length q3) := fun w' hF => ⟨r3, hr3.since hF.since, ha3.since hF.since⟩
  have hArg := fun (q : Nat) (e : GE) (w' : World) (hq : ([a] : List GE)[q]? = some e) (hF : FW base b w w') => arg_at hr1 ha1 hF hq
  obtain ⟨g, o', u0, u1, u2, u3, u4, u5, u6, u7, rfl, hg, ⟨e0, e1, e2, e3, e4, e5, e6, e7⟩, hgs⟩ := hArg 0 a w rfl (FW.refl _ _ _)
  obtain ⟨k1, o1, n1, t1, xx1, yy1, b1, m1, c1, p1, hcs⟩ := hgs.shows
  simp only [List.cons.injEq, and_true] at hcs
  obtain ⟨rfl, rfl, rfl, rfl, rfl, rfl, rfl, rfl⟩ := hcs
  simp only [Nat.zero_mul, Nat.add_zero] at e0 e1 e2 e3 e4 e5 e6 e7
  have hE := In.sboxes hW (gsBox 1 n x f y (.slice (some ⟨g, o', none⟩) 1 q1) (.slice a2 bo.length q2) (.slice a3 el.length q3) p) #[.int .i64 k1, .int .i64 o1, .int .i64 n1, .string t1, .int .i64 xx1, .string yy1, .slice b1 m1 c1, .int .i64 p1]
  have hIl : ∀ w', FW base b w w' → IsGE (fun k => k < base) w' a [.int .i64 k1, .int .i64 o1, .int .i64 n1, .string t1, .int .i64 xx1, .string yy1, .slice b1 m1 c1, .int .i64 p1] := fun w' hF => hgs.since hF.since
  clear hr1 ha1 hr2 ha2 hr3 ha3 hm1 hm2 hW hgs
  unfold maxLen at hm3
  go_enter Tryz.func89, Tryz.ntmps89
  go_wp2_with fail
  refine (need_ok _).mono ?_
  rintro e w1 ⟨rfl, rfl⟩
  have hN := name_any n
  rcases hgn : gName n with _ | _
  · rw [hgn] at hN
    go_wp2_with fail
    generalize ((w.alloc (sBox (gsBox 1 n x f y (.slice (some ⟨g, o', none⟩) 1 q1) (.slice a2 bo.length q2) (.slice a3 el.length q3) p))).alloc (xBox #[.int .i64 k1, .int .i64 o1, .int .i64 n1, .string t1, .int .i64 xx1, .string yy1, .slice b1 m1 c1, .int .i64 p1])) = w2 at *
    generalize w.heap.size = g0 at *
    have l0 : g0 < w2.heap.size := hE.lt (List.mem_cons_of_mem _ (List.mem_cons_self))
    have l1 : g0 + 1 < w2.heap.size := hE.lt (List.mem_cons_self)
    obtain ⟨x0, x1, x2, x3, x4, x5, x6, x7, _⟩ := cells_of8 (hE.kept _ (List.mem_cons_self))
    obtain ⟨z0, z1, z2, z3, z4, z5, z6, z7, z8, _⟩ := cells_of9 (hE.kept _ (List.mem_cons_of_mem _ (List.mem_cons_self)))
    refine (hN _ hnl).mono ?_
    rintro e w3 ⟨rfl, rfl⟩
    refine ⟨rfl, ?_⟩
    rw [hres.out, hgn]
    exact ⟨rfl, l, tabs, hE.wr, hE.fw⟩
  have htl := gName_len' hgn
  rw [hgn] at hN
  go_wp2_with fail
  generalize ((w.alloc (sBox (gsBox 1 n x f y (.slice (some ⟨g, o', none⟩) 1 q1) (.slice a2 bo.length q2) (.slice a3 el.length q3) p))).alloc (xBox #[.int .i64 k1, .int .i64 o1, .int .i64 n1, .string t1, .int .i64 xx1, .string yy1, .slice b1 m1 c1, .int .i64 p1])) = w2 at *
  generalize w.heap.size = g0 at *
  have l0 : g0 < w2.heap.size := hE.lt (List.mem_cons_of_mem _ (List.mem_cons_self))
  have l1 : g0 + 1 < w2.heap.size := hE.lt (List.mem_cons_self)
  obtain ⟨x0, x1, x2, x3, x4, x5, x6, x7, _⟩ := cells_of8 (hE.kept _ (List.mem_cons_self))
  obtain ⟨z0, z1, z2, z3, z4, z5, z6, z7, z8, _⟩ := cells_of9 (hE.kept _ (List.mem_cons_of_mem _ (List.mem_cons_self)))
  refine (hN _ hnl).mono ?_
  rintro e w2' ⟨rfl, rfl⟩
  go_wp2_with fail
  rw [cat2]
  refine (put_l hE.wr ([108, 101, 116, 32] ++ n) (by simp; omega)).mono ?_
  rintro e w3 ⟨rfl, l3, hw3, h3, hf3⟩
  have hE3 := hE.step h3 hf3
  clear l0 l1 x0 x1 x2 x3 x4 x5 x6 x7 z0 z1 z2 z3 z4 z5 z6 z7 z8 hN hf3
  have l0 : g0 < w3.heap.size := hE3.lt (List.mem_cons_of_mem _ (List.mem_cons_self))
  have l1 : g0 + 1 < w3.heap.size := hE3.lt (List.mem_cons_self)
  obtain ⟨x0, x1, x2, x3, x4, x5, x6, x7, _⟩ := cells_of8 (hE3.kept _ (List.mem_cons_self))
  obtain ⟨z0, z1, z2, z3, z4, z5, z6, z7, z8, _⟩ := cells_of9 (hE3.kept _ (List.mem_cons_of_mem _ (List.mem_cons_self)))
  have hC := value_any hXa hE3.wr (hIl w3 hE3.fw)
  go_wp2_with fail
  refine hC.mono ?_
  rcases hq : gE a with _ | x
  · rintro e w9 ⟨rfl, l9, tabs9, h9, hf9⟩
    refine ⟨rfl, ?_⟩
    rw [hres.out, hgn, if_pos rfl, hq]
    exact ⟨rfl, l9, tabs9, h9, hE3.fw.trans hf9⟩
  · rintro e w9 ⟨rfl, l9, hw9, h9, hf9⟩
    go_wp2
    go_end0
    rw [hres.out, hgn, if_pos rfl, hq]
    exact ⟨rfl, l9, by simpa using hw3.trans hw9, h9, hE3.fw.trans hf9⟩
end Go.Proofs.YtifebbdjdllfpaaGreatDoor
/- Writing a statement: a set. -/
namespace Go.Proofs.YtifebbdjdllfpaaGreatDoor
open Go.RowKit
set_option linter.unusedSimpArgs false
set_option linter.unusedVariables false

set_option maxRecDepth 100000 in
set_option maxHeartbeats 8000000 in
/-- A set. -/
theorem stmt_set1 {base b : Nat}  {n : List UInt8} {a : GE} {bo el : List GS} {l : List UInt8} {tabs : Nat} {cs : List Value} {w : World} (hW : Wr base b l tabs w) (hx : IsGS (fun k => k < base) w (.mk 2 n [a] bo el) cs) (hnl : n.length ≤ maxLen) (hXa : ExOk base b a) :
    Calls Tryz.prog 89 #[wPtr b, .agg cs.toArray] w fun r w' => WPost base b l tabs w (if gName n then (gE a).map fun x => [115, 101, 116, 32] ++ (n ++ ([32, 61, 32] ++ (x ++ [59]))) else none) r w' := by
  obtain ⟨res, hres⟩ : ∃ res : Option (List UInt8), Aside (res = if gName n then (gE a).map fun x => [115, 101, 116, 32] ++ (n ++ ([32, 61, 32] ++ (x ++ [59]))) else none) := ⟨_, show _ = _ from rfl⟩
  rw [← hres.out]
  rw [IsGS] at hx
  obtain ⟨x, y, p, f, s1, s2, s3, r1, r2, r3, rfl, hr1, ha1, hr2, ha2, hr3, ha3⟩ := hx
  obtain ⟨a1, q1, rfl, hm1⟩ := hr1.slice
  obtain ⟨a2, q2, rfl, hm2⟩ := hr2.slice
  obtain ⟨a3, q3, rfl, hm3⟩ := hr3.slice
  have hBo : ∀ w', FW base b w w' → IsGSs (fun k => k < base) w' bo (.slice a2 bo.length q2) := fun w' hF => ⟨r2, hr2.since hF.since, ha2.since hF.since⟩
  have hEl : ∀ w', FW base b w w' → IsGSs (fun k => k < base) w' el (.slice a3 el.length q3) := fun w' hF => ⟨r3, hr3.since hF.since, ha3.since hF.since⟩
  have hArg := fun (q : Nat) (e : GE) (w' : World) (hq : ([a] : List GE)[q]? = some e) (hF : FW base b w w') => arg_at hr1 ha1 hF hq
  obtain ⟨g, o', u0, u1, u2, u3, u4, u5, u6, u7, rfl, hg, ⟨e0, e1, e2, e3, e4, e5, e6, e7⟩, hgs⟩ := hArg 0 a w rfl (FW.refl _ _ _)
  obtain ⟨k1, o1, n1, t1, xx1, yy1, b1, m1, c1, p1, hcs⟩ := hgs.shows
  simp only [List.cons.injEq, and_true] at hcs
  obtain ⟨rfl, rfl, rfl, rfl, rfl, rfl, rfl, rfl⟩ := hcs
  simp only [Nat.zero_mul, Nat.add_zero] at e0 e1 e2 e3 e4 e5 e6 e7
  have hE := In.sboxes hW (gsBox 2 n x f y (.slice (some ⟨g, o', none⟩) 1 q1) (.slice a2 bo.length q2) (.slice a3 el.length q3) p) #[.int .i64 k1, .int .i64 o1, .int .i64 n1, .string t1, .int .i64 xx1, .string yy1, .slice b1 m1 c1, .int .i64 p1]
  have hIl : ∀ w', FW base b w w' → IsGE (fun k => k < base) w' a [.int .i64 k1, .int .i64 o1, .int .i64 n1, .string t1, .int .i64 xx1, .string yy1, .slice b1 m1 c1, .int .i64 p1] := fun w' hF => hgs.since hF.since
  clear hr1 ha1 hr2 ha2 hr3 ha3 hm1 hm2 hW hgs
  unfold maxLen at hm3
  go_enter Tryz.func89, Tryz.ntmps89
  go_wp2_with fail
  refine (need_ok _).mono ?_
  rintro e w1 ⟨rfl, rfl⟩
  have hN := name_any n
  rcases hgn : gName n with _ | _
  · rw [hgn] at hN
    go_wp2_with fail
    generalize ((w.alloc (sBox (gsBox 2 n x f y (.slice (some ⟨g, o', none⟩) 1 q1) (.slice a2 bo.length q2) (.slice a3 el.length q3) p))).alloc (xBox #[.int .i64 k1, .int .i64 o1, .int .i64 n1, .string t1, .int .i64 xx1, .string yy1, .slice b1 m1 c1, .int .i64 p1])) = w2 at *
    generalize w.heap.size = g0 at *
    have l0 : g0 < w2.heap.size := hE.lt (List.mem_cons_of_mem _ (List.mem_cons_self))
    have l1 : g0 + 1 < w2.heap.size := hE.lt (List.mem_cons_self)
    obtain ⟨x0, x1, x2, x3, x4, x5, x6, x7, _⟩ := cells_of8 (hE.kept _ (List.mem_cons_self))
    obtain ⟨z0, z1, z2, z3, z4, z5, z6, z7, z8, _⟩ := cells_of9 (hE.kept _ (List.mem_cons_of_mem _ (List.mem_cons_self)))
    refine (hN _ hnl).mono ?_
    rintro e w3 ⟨rfl, rfl⟩
    refine ⟨rfl, ?_⟩
    rw [hres.out, hgn]
    exact ⟨rfl, l, tabs, hE.wr, hE.fw⟩
  have htl := gName_len' hgn
  rw [hgn] at hN
  go_wp2_with fail
  generalize ((w.alloc (sBox (gsBox 2 n x f y (.slice (some ⟨g, o', none⟩) 1 q1) (.slice a2 bo.length q2) (.slice a3 el.length q3) p))).alloc (xBox #[.int .i64 k1, .int .i64 o1, .int .i64 n1, .string t1, .int .i64 xx1, .string yy1, .slice b1 m1 c1, .int .i64 p1])) = w2 at *
  generalize w.heap.size = g0 at *
  have l0 : g0 < w2.heap.size := hE.lt (List.mem_cons_of_mem _ (List.mem_cons_self))
  have l1 : g0 + 1 < w2.heap.size := hE.lt (List.mem_cons_self)
  obtain ⟨x0, x1, x2, x3, x4, x5, x6, x7, _⟩ := cells_of8 (hE.kept _ (List.mem_cons_self))
  obtain ⟨z0, z1, z2, z3, z4, z5, z6, z7, z8, _⟩ := cells_of9 (hE.kept _ (List.mem_cons_of_mem _ (List.mem_cons_self)))
  refine (hN _ hnl).mono ?_
  rintro e w2' ⟨rfl, rfl⟩
  go_wp2_with fail
  rw [cat2]
  refine (put_l hE.wr ([115, 101, 116, 32] ++ n) (by simp; omega)).mono ?_
  rintro e w3 ⟨rfl, l3, hw3, h3, hf3⟩
  have hE3 := hE.step h3 hf3
  clear l0 l1 x0 x1 x2 x3 x4 x5 x6 x7 z0 z1 z2 z3 z4 z5 z6 z7 z8 hN hf3
  have l0 : g0 < w3.heap.size := hE3.lt (List.mem_cons_of_mem _ (List.mem_cons_self))
  have l1 : g0 + 1 < w3.heap.size := hE3.lt (List.mem_cons_self)
  obtain ⟨x0, x1, x2, x3, x4, x5, x6, x7, _⟩ := cells_of8 (hE3.kept _ (List.mem_cons_self))
  obtain ⟨z0, z1, z2, z3, z4, z5, z6, z7, z8, _⟩ := cells_of9 (hE3.kept _ (List.mem_cons_of_mem _ (List.mem_cons_self)))
  have hC := value_any hXa hE3.wr (hIl w3 hE3.fw)
  go_wp2_with fail
  refine hC.mono ?_
  rcases hq : gE a with _ | x
  · rintro e w9 ⟨rfl, l9, tabs9, h9, hf9⟩
    refine ⟨rfl, ?_⟩
    rw [hres.out, hgn, if_pos rfl, hq]
    exact ⟨rfl, l9, tabs9, h9, hE3.fw.trans hf9⟩
  · rintro e w9 ⟨rfl, l9, hw9, h9, hf9⟩
    go_wp2
    go_end0
    rw [hres.out, hgn, if_pos rfl, hq]
    exact ⟨rfl, l9, by simpa using hw3.trans hw9, h9, hE3.fw.trans hf9⟩
end Go.Proofs.YtifebbdjdllfpaaGreatDoor
/- Writing a statement: a set with a place. -/
namespace Go.Proofs.YtifebbdjdllfpaaGreatDoor
open Go.RowKit
set_option linter.unusedSimpArgs false
set_option linter.unusedVariables false

set_option maxRecDepth 100000 in
set_option maxHeartbeats 8000000 in
/-- A set with a place. -/
theorem stmt_set2 {base b : Nat}  {n : List UInt8} {a c : GE} {bo el : List GS} {l : List UInt8} {tabs : Nat} {cs : List Value} {w : World} (hW : Wr base b l tabs w) (hx : IsGS (fun k => k < base) w (.mk 2 n [a, c] bo el) cs) (hnl : n.length ≤ maxLen) (hXa : ExOk base b a) (hXc : ExOk base b c) :
    Calls Tryz.prog 89 #[wPtr b, .agg cs.toArray] w fun r w' => WPost base b l tabs w (if gName n then (gE a).bind fun x => (gE c).map fun y => [115, 101, 116, 32] ++ (n ++ ([91] ++ (x ++ ([93, 32, 61, 32] ++ (y ++ [59]))))) else none) r w' := by
  obtain ⟨res, hres⟩ : ∃ res : Option (List UInt8), Aside (res = if gName n then (gE a).bind fun x => (gE c).map fun y => [115, 101, 116, 32] ++ (n ++ ([91] ++ (x ++ ([93, 32, 61, 32] ++ (y ++ [59]))))) else none) := ⟨_, show _ = _ from rfl⟩
  rw [← hres.out]
  rw [IsGS] at hx
  obtain ⟨x, y, p, f, s1, s2, s3, r1, r2, r3, rfl, hr1, ha1, hr2, ha2, hr3, ha3⟩ := hx
  obtain ⟨a1, q1, rfl, hm1⟩ := hr1.slice
  obtain ⟨a2, q2, rfl, hm2⟩ := hr2.slice
  obtain ⟨a3, q3, rfl, hm3⟩ := hr3.slice
  have hBo : ∀ w', FW base b w w' → IsGSs (fun k => k < base) w' bo (.slice a2 bo.length q2) := fun w' hF => ⟨r2, hr2.since hF.since, ha2.since hF.since⟩
  have hEl : ∀ w', FW base b w w' → IsGSs (fun k => k < base) w' el (.slice a3 el.length q3) := fun w' hF => ⟨r3, hr3.since hF.since, ha3.since hF.since⟩
  have hArg := fun (q : Nat) (e : GE) (w' : World) (hq : ([a, c] : List GE)[q]? = some e) (hF : FW base b w w') => arg_at hr1 ha1 hF hq
  obtain ⟨g, o', u0, u1, u2, u3, u4, u5, u6, u7, rfl, hg, ⟨e0, e1, e2, e3, e4, e5, e6, e7⟩, hgs⟩ := hArg 1 c w rfl (FW.refl _ _ _)
  obtain ⟨k1, o1, n1, t1, xx1, yy1, b1, m1, c1, p1, hcs⟩ := hgs.shows
  simp only [List.cons.injEq, and_true] at hcs
  obtain ⟨rfl, rfl, rfl, rfl, rfl, rfl, rfl, rfl⟩ := hcs
  simp only [Nat.one_mul, Nat.add_assoc, Nat.reduceAdd] at e0 e1 e2 e3 e4 e5 e6 e7
  have hE := In.sboxes hW (gsBox 2 n x f y (.slice (some ⟨g, o', none⟩) 2 q1) (.slice a2 bo.length q2) (.slice a3 el.length q3) p) #[.int .i64 k1, .int .i64 o1, .int .i64 n1, .string t1, .int .i64 xx1, .string yy1, .slice b1 m1 c1, .int .i64 p1]
  have hIl : ∀ w', FW base b w w' → IsGE (fun k => k < base) w' c [.int .i64 k1, .int .i64 o1, .int .i64 n1, .string t1, .int .i64 xx1, .string yy1, .slice b1 m1 c1, .int .i64 p1] := fun w' hF => hgs.since hF.since
  clear hr1 ha1 hr2 ha2 hr3 ha3 hm1 hm2 hW hgs
  unfold maxLen at hm3
  go_enter Tryz.func89, Tryz.ntmps89
  go_wp2_with fail
  refine (need_ok _).mono ?_
  rintro e w1 ⟨rfl, rfl⟩
  have hN := name_any n
  rcases hgn : gName n with _ | _
  · rw [hgn] at hN
    go_wp2_with fail
    generalize ((w.alloc (sBox (gsBox 2 n x f y (.slice (some ⟨g, o', none⟩) 2 q1) (.slice a2 bo.length q2) (.slice a3 el.length q3) p))).alloc (xBox #[.int .i64 k1, .int .i64 o1, .int .i64 n1, .string t1, .int .i64 xx1, .string yy1, .slice b1 m1 c1, .int .i64 p1])) = w2 at *
    generalize w.heap.size = g0 at *
    have l0 : g0 < w2.heap.size := hE.lt (List.mem_cons_of_mem _ (List.mem_cons_self))
    have l1 : g0 + 1 < w2.heap.size := hE.lt (List.mem_cons_self)
    obtain ⟨x0, x1, x2, x3, x4, x5, x6, x7, _⟩ := cells_of8 (hE.kept _ (List.mem_cons_self))
    obtain ⟨z0, z1, z2, z3, z4, z5, z6, z7, z8, _⟩ := cells_of9 (hE.kept _ (List.mem_cons_of_mem _ (List.mem_cons_self)))
    refine (hN _ hnl).mono ?_
    rintro e w3 ⟨rfl, rfl⟩
    refine ⟨rfl, ?_⟩
    rw [hres.out, hgn]
    exact ⟨rfl, l, tabs, hE.wr, hE.fw⟩
  have htl := gName_len' hgn
  rw [hgn] at hN
  go_wp2_with fail
  generalize ((w.alloc (sBox (gsBox 2 n x f y (.slice (some ⟨g, o', none⟩) 2 q1) (.slice a2 bo.length q2) (.slice a3 el.length q3) p))).alloc (xBox #[.int .i64 k1, .int .i64 o1, .int .i64 n1, .string t1, .int .i64 xx1, .string yy1, .slice b1 m1 c1, .int .i64 p1])) = w2 at *
  generalize w.heap.size = g0 at *
  have l0 : g0 < w2.heap.size := hE.lt (List.mem_cons_of_mem _ (List.mem_cons_self))
  have l1 : g0 + 1 < w2.heap.size := hE.lt (List.mem_cons_self)
  obtain ⟨x0, x1, x2, x3, x4, x5, x6, x7, _⟩ := cells_of8 (hE.kept _ (List.mem_cons_self))
  obtain ⟨z0, z1, z2, z3, z4, z5, z6, z7, z8, _⟩ := cells_of9 (hE.kept _ (List.mem_cons_of_mem _ (List.mem_cons_self)))
  refine (hN _ hnl).mono ?_
  rintro e w2' ⟨rfl, rfl⟩
  go_wp2_with fail
  rw [cat2]
  refine (put_l hE.wr ([115, 101, 116, 32] ++ n) (by simp; omega)).mono ?_
  rintro e w3 ⟨rfl, l3, hw3, h3, hf3⟩
  have hE3 := hE.step h3 hf3
  clear l0 l1 x0 x1 x2 x3 x4 x5 x6 x7 z0 z1 z2 z3 z4 z5 z6 z7 z8 hN hf3
  have l0 : g0 < w3.heap.size := hE3.lt (List.mem_cons_of_mem _ (List.mem_cons_self))
  have l1 : g0 + 1 < w3.heap.size := hE3.lt (List.mem_cons_self)
  obtain ⟨x0, x1, x2, x3, x4, x5, x6, x7, _⟩ := cells_of8 (hE3.kept _ (List.mem_cons_self))
  obtain ⟨z0, z1, z2, z3, z4, z5, z6, z7, z8, _⟩ := cells_of9 (hE3.kept _ (List.mem_cons_of_mem _ (List.mem_cons_self)))
  obtain ⟨g', o'', u0, u1, u2, u3, u4, u5, u6, u7, hao, hg', ⟨e0', e1', e2', e3', e4', e5', e6', e7'⟩, hgs'⟩ := hArg 0 a w3 rfl hE3.fw
  simp only [Option.some.injEq, Addr.mk.injEq, and_true] at hao
  obtain ⟨rfl, rfl⟩ := hao
  simp only [Nat.zero_mul, Nat.add_zero] at e0' e1' e2' e3' e4' e5' e6' e7'
  have hC0 := place_any hXa hE3.wr hgs'
  clear hgs' e0 e1 e2 e3 e4 e5 e6 e7
  go_wp2_with fail
  refine hC0.mono ?_
  rcases hq0 : gE a with _ | x'
  · rintro e w4 ⟨rfl, l4, tabs4, h4, hf4⟩
    refine ⟨rfl, ?_⟩
    rw [hres.out, hgn, if_pos rfl, hq0]
    exact ⟨rfl, l4, tabs4, h4, hE3.fw.trans hf4⟩
  rintro e w4 ⟨rfl, l4, hw4, h4, hf4⟩
  have hE4 := hE3.step h4 hf4
  clear l0 l1 x0 x1 x2 x3 x4 x5 x6 x7 z0 z1 z2 z3 z4 z5 z6 z7 z8 hC0 hf4 e0' e1' e2' e3' e4' e5' e6' e7'
  have l0 : g0 < w4.heap.size := hE4.lt (List.mem_cons_of_mem _ (List.mem_cons_self))
  have l1 : g0 + 1 < w4.heap.size := hE4.lt (List.mem_cons_self)
  obtain ⟨x0, x1, x2, x3, x4, x5, x6, x7, _⟩ := cells_of8 (hE4.kept _ (List.mem_cons_self))
  obtain ⟨z0, z1, z2, z3, z4, z5, z6, z7, z8, _⟩ := cells_of9 (hE4.kept _ (List.mem_cons_of_mem _ (List.mem_cons_self)))
  have hC := value_any hXc hE4.wr (hIl w4 hE4.fw)
  go_wp2_with fail
  refine hC.mono ?_
  rcases hq : gE c with _ | x
  · rintro e w9 ⟨rfl, l9, tabs9, h9, hf9⟩
    refine ⟨rfl, ?_⟩
    rw [hres.out, hgn, if_pos rfl, hq0, hq]
    exact ⟨rfl, l9, tabs9, h9, hE4.fw.trans hf9⟩
  · rintro e w9 ⟨rfl, l9, hw9, h9, hf9⟩
    go_wp2
    go_end0
    rw [hres.out, hgn, if_pos rfl, hq0, hq]
    exact ⟨rfl, l9, by simpa using (hw3.trans hw4).trans hw9, h9, hE4.fw.trans hf9⟩
end Go.Proofs.YtifebbdjdllfpaaGreatDoor
/- Writing a statement: a del. -/
namespace Go.Proofs.YtifebbdjdllfpaaGreatDoor
open Go.RowKit
set_option linter.unusedSimpArgs false
set_option linter.unusedVariables false

set_option maxRecDepth 100000 in
set_option maxHeartbeats 8000000 in
/-- A del. -/
theorem stmt_del {base b : Nat}  {n : List UInt8} {a : GE} {bo el : List GS} {l : List UInt8} {tabs : Nat} {cs : List Value} {w : World} (hW : Wr base b l tabs w) (hx : IsGS (fun k => k < base) w (.mk 3 n [a] bo el) cs) (hnl : n.length ≤ maxLen) (hXa : ExOk base b a) :
    Calls Tryz.prog 89 #[wPtr b, .agg cs.toArray] w fun r w' => WPost base b l tabs w (if gName n then (gE a).map fun x => [100, 101, 108, 32] ++ (n ++ ([91] ++ (x ++ [93, 59]))) else none) r w' := by
  obtain ⟨res, hres⟩ : ∃ res : Option (List UInt8), Aside (res = if gName n then (gE a).map fun x => [100, 101, 108, 32] ++ (n ++ ([91] ++ (x ++ [93, 59]))) else none) := ⟨_, show _ = _ from rfl⟩
  rw [← hres.out]
  rw [IsGS] at hx
  obtain ⟨x, y, p, f, s1, s2, s3, r1, r2, r3, rfl, hr1, ha1, hr2, ha2, hr3, ha3⟩ := hx
  obtain ⟨a1, q1, rfl, hm1⟩ := hr1.slice
  obtain ⟨a2, q2, rfl, hm2⟩ := hr2.slice
  obtain ⟨a3, q3, rfl, hm3⟩ := hr3.slice
  have hBo : ∀ w', FW base b w w' → IsGSs (fun k => k < base) w' bo (.slice a2 bo.length q2) := fun w' hF => ⟨r2, hr2.since hF.since, ha2.since hF.since⟩
  have hEl : ∀ w', FW base b w w' → IsGSs (fun k => k < base) w' el (.slice a3 el.length q3) := fun w' hF => ⟨r3, hr3.since hF.since, ha3.since hF.since⟩
  have hArg := fun (q : Nat) (e : GE) (w' : World) (hq : ([a] : List GE)[q]? = some e) (hF : FW base b w w') => arg_at hr1 ha1 hF hq
  obtain ⟨g, o', u0, u1, u2, u3, u4, u5, u6, u7, rfl, hg, ⟨e0, e1, e2, e3, e4, e5, e6, e7⟩, hgs⟩ := hArg 0 a w rfl (FW.refl _ _ _)
  obtain ⟨k1, o1, n1, t1, xx1, yy1, b1, m1, c1, p1, hcs⟩ := hgs.shows
  simp only [List.cons.injEq, and_true] at hcs
  obtain ⟨rfl, rfl, rfl, rfl, rfl, rfl, rfl, rfl⟩ := hcs
  simp only [Nat.zero_mul, Nat.add_zero] at e0 e1 e2 e3 e4 e5 e6 e7
  have hE := In.sboxes hW (gsBox 3 n x f y (.slice (some ⟨g, o', none⟩) 1 q1) (.slice a2 bo.length q2) (.slice a3 el.length q3) p) #[.int .i64 k1, .int .i64 o1, .int .i64 n1, .string t1, .int .i64 xx1, .string yy1, .slice b1 m1 c1, .int .i64 p1]
  have hIl : ∀ w', FW base b w w' → IsGE (fun k => k < base) w' a [.int .i64 k1, .int .i64 o1, .int .i64 n1, .string t1, .int .i64 xx1, .string yy1, .slice b1 m1 c1, .int .i64 p1] := fun w' hF => hgs.since hF.since
  clear hr1 ha1 hr2 ha2 hr3 ha3 hm1 hm2 hW hgs
  unfold maxLen at hm3
  go_enter Tryz.func89, Tryz.ntmps89
  go_wp2_with fail
  refine (need_ok _).mono ?_
  rintro e w1 ⟨rfl, rfl⟩
  have hN := name_any n
  rcases hgn : gName n with _ | _
  · rw [hgn] at hN
    go_wp2_with fail
    generalize ((w.alloc (sBox (gsBox 3 n x f y (.slice (some ⟨g, o', none⟩) 1 q1) (.slice a2 bo.length q2) (.slice a3 el.length q3) p))).alloc (xBox #[.int .i64 k1, .int .i64 o1, .int .i64 n1, .string t1, .int .i64 xx1, .string yy1, .slice b1 m1 c1, .int .i64 p1])) = w2 at *
    generalize w.heap.size = g0 at *
    have l0 : g0 < w2.heap.size := hE.lt (List.mem_cons_of_mem _ (List.mem_cons_self))
    have l1 : g0 + 1 < w2.heap.size := hE.lt (List.mem_cons_self)
    obtain ⟨x0, x1, x2, x3, x4, x5, x6, x7, _⟩ := cells_of8 (hE.kept _ (List.mem_cons_self))
    obtain ⟨z0, z1, z2, z3, z4, z5, z6, z7, z8, _⟩ := cells_of9 (hE.kept _ (List.mem_cons_of_mem _ (List.mem_cons_self)))
    refine (hN _ hnl).mono ?_
    rintro e w3 ⟨rfl, rfl⟩
    refine ⟨rfl, ?_⟩
    rw [hres.out, hgn]
    exact ⟨rfl, l, tabs, hE.wr, hE.fw⟩
  have htl := gName_len' hgn
  rw [hgn] at hN
  go_wp2_with fail
  generalize ((w.alloc (sBox (gsBox 3 n x f y (.slice (some ⟨g, o', none⟩) 1 q1) (.slice a2 bo.length q2) (.slice a3 el.length q3) p))).alloc (xBox #[.int .i64 k1, .int .i64 o1, .int .i64 n1, .string t1, .int .i64 xx1, .string yy1, .slice b1 m1 c1, .int .i64 p1])) = w2 at *
  generalize w.heap.size = g0 at *
  have l0 : g0 < w2.heap.size := hE.lt (List.mem_cons_of_mem _ (List.mem_cons_self))
  have l1 : g0 + 1 < w2.heap.size := hE.lt (List.mem_cons_self)
  obtain ⟨x0, x1, x2, x3, x4, x5, x6, x7, _⟩ := cells_of8 (hE.kept _ (List.mem_cons_self))
  obtain ⟨z0, z1, z2, z3, z4, z5, z6, z7, z8, _⟩ := cells_of9 (hE.kept _ (List.mem_cons_of_mem _ (List.mem_cons_self)))
  refine (hN _ hnl).mono ?_
  rintro e w2' ⟨rfl, rfl⟩
  go_wp2_with fail
  rw [cat2]
  refine (put_l hE.wr ([100, 101, 108, 32] ++ n) (by simp; omega)).mono ?_
  rintro e w3 ⟨rfl, l3, hw3, h3, hf3⟩
  have hE3 := hE.step h3 hf3
  clear l0 l1 x0 x1 x2 x3 x4 x5 x6 x7 z0 z1 z2 z3 z4 z5 z6 z7 z8 hN hf3
  have l0 : g0 < w3.heap.size := hE3.lt (List.mem_cons_of_mem _ (List.mem_cons_self))
  have l1 : g0 + 1 < w3.heap.size := hE3.lt (List.mem_cons_self)
  obtain ⟨x0, x1, x2, x3, x4, x5, x6, x7, _⟩ := cells_of8 (hE3.kept _ (List.mem_cons_self))
  obtain ⟨z0, z1, z2, z3, z4, z5, z6, z7, z8, _⟩ := cells_of9 (hE3.kept _ (List.mem_cons_of_mem _ (List.mem_cons_self)))
  have hC0 := place_any hXa hE3.wr (hIl w3 hE3.fw)
  go_wp2_with fail
  refine hC0.mono ?_
  rcases hq0 : gE a with _ | x'
  · rintro e w4 ⟨rfl, l4, tabs4, h4, hf4⟩
    refine ⟨rfl, ?_⟩
    rw [hres.out, hgn, if_pos rfl, hq0]
    exact ⟨rfl, l4, tabs4, h4, hE3.fw.trans hf4⟩
  rintro e w4 ⟨rfl, l4, hw4, h4, hf4⟩
  have hE4 := hE3.step h4 hf4
  clear l0 l1 x0 x1 x2 x3 x4 x5 x6 x7 z0 z1 z2 z3 z4 z5 z6 z7 z8 hC0 hf4
  have l0 : g0 < w4.heap.size := hE4.lt (List.mem_cons_of_mem _ (List.mem_cons_self))
  have l1 : g0 + 1 < w4.heap.size := hE4.lt (List.mem_cons_self)
  obtain ⟨x0, x1, x2, x3, x4, x5, x6, x7, _⟩ := cells_of8 (hE4.kept _ (List.mem_cons_self))
  obtain ⟨z0, z1, z2, z3, z4, z5, z6, z7, z8, _⟩ := cells_of9 (hE4.kept _ (List.mem_cons_of_mem _ (List.mem_cons_self)))
  go_wp2_with fail
  refine (put_l hE4.wr [59] (by simp)).mono ?_
  rintro e w5 ⟨rfl, l5, hw5, h5, hf5⟩
  go_wp2
  go_end0
  rw [hres.out, hgn, if_pos rfl, hq0]
  exact ⟨rfl, l5, by simpa using (hw3.trans hw4).trans hw5, h5, hE4.fw.trans hf5⟩
end Go.Proofs.YtifebbdjdllfpaaGreatDoor
/- Writing a statement: an if. -/
namespace Go.Proofs.YtifebbdjdllfpaaGreatDoor
open Go.RowKit
set_option linter.unusedSimpArgs false
set_option linter.unusedVariables false

set_option maxRecDepth 100000 in
set_option maxHeartbeats 8000000 in
/-- An if without an else. -/
theorem stmt_if1 {base b : Nat}  {n : List UInt8} {a : GE} {bo el : List GS} {l : List UInt8} {tabs : Nat} {cs : List Value} {w : World} (hW : Wr base b l tabs w) (hx : IsGS (fun k => k < base) w (.mk 4 n [a] bo el) cs) (hXa : ExOk base b a) (hB : BlOk base b bo) (hd : tabs + 1 + gsDs bo ≤ 1099511627776) (hneI : ¬ (0 : Int) < (el.length : Int)) :
    Calls Tryz.prog 89 #[wPtr b, .agg cs.toArray] w fun r w' => WPost base b l tabs w (((gE a).bind fun x => (gBlk (gSts bo (indT tabs)) (indT tabs) bo.isEmpty).map fun y => x ++ ([32] ++ y)).map fun z => [105, 102, 32] ++ z) r w' := by
  obtain ⟨res, hres⟩ : ∃ res : Option (List UInt8), Aside (res = ((gE a).bind fun x => (gBlk (gSts bo (indT tabs)) (indT tabs) bo.isEmpty).map fun y => x ++ ([32] ++ y)).map fun z => [105, 102, 32] ++ z) := ⟨_, show _ = _ from rfl⟩
  rw [← hres.out]
  rw [IsGS] at hx
  obtain ⟨x, y, p, f, s1, s2, s3, r1, r2, r3, rfl, hr1, ha1, hr2, ha2, hr3, ha3⟩ := hx
  obtain ⟨a1, q1, rfl, hm1⟩ := hr1.slice
  obtain ⟨a2, q2, rfl, hm2⟩ := hr2.slice
  obtain ⟨a3, q3, rfl, hm3⟩ := hr3.slice
  have hBo : ∀ w', FW base b w w' → IsGSs (fun k => k < base) w' bo (.slice a2 bo.length q2) := fun w' hF => ⟨r2, hr2.since hF.since, ha2.since hF.since⟩
  have hEl : ∀ w', FW base b w w' → IsGSs (fun k => k < base) w' el (.slice a3 el.length q3) := fun w' hF => ⟨r3, hr3.since hF.since, ha3.since hF.since⟩
  have hArg := fun (q : Nat) (e : GE) (w' : World) (hq : ([a] : List GE)[q]? = some e) (hF : FW base b w w') => arg_at hr1 ha1 hF hq
  obtain ⟨g, o', u0, u1, u2, u3, u4, u5, u6, u7, rfl, hg, ⟨e0, e1, e2, e3, e4, e5, e6, e7⟩, hgs⟩ := hArg 0 a w rfl (FW.refl _ _ _)
  obtain ⟨k1, o1, n1, t1, xx1, yy1, b1, m1, c1, p1, hcs⟩ := hgs.shows
  simp only [List.cons.injEq, and_true] at hcs
  obtain ⟨rfl, rfl, rfl, rfl, rfl, rfl, rfl, rfl⟩ := hcs
  simp only [Nat.zero_mul, Nat.add_zero] at e0 e1 e2 e3 e4 e5 e6 e7
  have hE := In.sboxes hW (gsBox 4 n x f y (.slice (some ⟨g, o', none⟩) 1 q1) (.slice a2 bo.length q2) (.slice a3 el.length q3) p) #[.int .i64 k1, .int .i64 o1, .int .i64 n1, .string t1, .int .i64 xx1, .string yy1, .slice b1 m1 c1, .int .i64 p1]
  have hIl : ∀ w', FW base b w w' → IsGE (fun k => k < base) w' a [.int .i64 k1, .int .i64 o1, .int .i64 n1, .string t1, .int .i64 xx1, .string yy1, .slice b1 m1 c1, .int .i64 p1] := fun w' hF => hgs.since hF.since
  clear hr1 ha1 hr2 ha2 hr3 ha3 hm1 hm2 hW hgs
  unfold maxLen at hm3
  go_enter Tryz.func89, Tryz.ntmps89
  go_wp2_with fail
  refine (need_ok _).mono ?_
  rintro e w1 ⟨rfl, rfl⟩
  go_wp2_with fail
  generalize ((w.alloc (sBox (gsBox 4 n x f y (.slice (some ⟨g, o', none⟩) 1 q1) (.slice a2 bo.length q2) (.slice a3 el.length q3) p))).alloc (xBox #[.int .i64 k1, .int .i64 o1, .int .i64 n1, .string t1, .int .i64 xx1, .string yy1, .slice b1 m1 c1, .int .i64 p1])) = w2 at *
  generalize w.heap.size = g0 at *
  have l0 : g0 < w2.heap.size := hE.lt (List.mem_cons_of_mem _ (List.mem_cons_self))
  have l1 : g0 + 1 < w2.heap.size := hE.lt (List.mem_cons_self)
  obtain ⟨x0, x1, x2, x3, x4, x5, x6, x7, _⟩ := cells_of8 (hE.kept _ (List.mem_cons_self))
  obtain ⟨z0, z1, z2, z3, z4, z5, z6, z7, z8, _⟩ := cells_of9 (hE.kept _ (List.mem_cons_of_mem _ (List.mem_cons_self)))
  refine (put_l hE.wr [105, 102, 32] (by simp)).mono ?_
  rintro e w3 ⟨rfl, l3, hw3, h3, hf3⟩
  have hE3 := hE.step h3 hf3
  clear l0 l1 x0 x1 x2 x3 x4 x5 x6 x7 z0 z1 z2 z3 z4 z5 z6 z7 z8 hf3
  have l0 : g0 < w3.heap.size := hE3.lt (List.mem_cons_of_mem _ (List.mem_cons_self))
  have l1 : g0 + 1 < w3.heap.size := hE3.lt (List.mem_cons_self)
  obtain ⟨x0, x1, x2, x3, x4, x5, x6, x7, _⟩ := cells_of8 (hE3.kept _ (List.mem_cons_self))
  obtain ⟨z0, z1, z2, z3, z4, z5, z6, z7, z8, _⟩ := cells_of9 (hE3.kept _ (List.mem_cons_of_mem _ (List.mem_cons_self)))
  have hC0 := headed_any hXa hB hd hE3.wr (hIl w3 hE3.fw) (hBo w3 hE3.fw)
  go_wp2_with fail
  refine hC0.mono ?_
  rcases hq0 : ((gE a).bind fun x => (gBlk (gSts bo (indT tabs)) (indT tabs) bo.isEmpty).map fun y => x ++ ([32] ++ y)) with _ | z
  · rintro e w4 ⟨rfl, l4, tabs4, h4, hf4⟩
    refine ⟨rfl, ?_⟩
    rw [hres.out, hq0]
    exact ⟨rfl, l4, tabs4, h4, hE3.fw.trans hf4⟩
  rintro e w4 ⟨rfl, l4, hw4, h4, hf4⟩
  have hE4 := hE3.step h4 hf4
  clear l0 l1 x0 x1 x2 x3 x4 x5 x6 x7 z0 z1 z2 z3 z4 z5 z6 z7 z8 hC0 hf4
  have l0 : g0 < w4.heap.size := hE4.lt (List.mem_cons_of_mem _ (List.mem_cons_self))
  have l1 : g0 + 1 < w4.heap.size := hE4.lt (List.mem_cons_self)
  obtain ⟨x0, x1, x2, x3, x4, x5, x6, x7, _⟩ := cells_of8 (hE4.kept _ (List.mem_cons_self))
  obtain ⟨z0, z1, z2, z3, z4, z5, z6, z7, z8, _⟩ := cells_of9 (hE4.kept _ (List.mem_cons_of_mem _ (List.mem_cons_self)))
  go_wp2
  go_end0
  rw [hres.out, hq0]
  exact ⟨rfl, l4, by simpa using hw3.trans hw4, h4, hE4.fw⟩
set_option maxRecDepth 100000 in
set_option maxHeartbeats 8000000 in
/-- An if with an else. -/
theorem stmt_if2 {base b : Nat}  {n : List UInt8} {a : GE} {bo el : List GS} {l : List UInt8} {tabs : Nat} {cs : List Value} {w : World} (hW : Wr base b l tabs w) (hx : IsGS (fun k => k < base) w (.mk 4 n [a] bo el) cs) (hXa : ExOk base b a) (hB : BlOk base b bo) (hd : tabs + 1 + gsDs bo ≤ 1099511627776) (hB2 : BlOk base b el) (hd2 : tabs + 1 + gsDs el ≤ 1099511627776) (hneI : (0 : Int) < (el.length : Int)) :
    Calls Tryz.prog 89 #[wPtr b, .agg cs.toArray] w fun r w' => WPost base b l tabs w (((gE a).bind fun x => (gBlk (gSts bo (indT tabs)) (indT tabs) bo.isEmpty).map fun y => x ++ ([32] ++ y)).bind fun z => (gBlk (gSts el (indT tabs)) (indT tabs) el.isEmpty).map fun u => [105, 102, 32] ++ (z ++ ([32, 101, 108, 115, 101, 32] ++ u))) r w' := by
  obtain ⟨res, hres⟩ : ∃ res : Option (List UInt8), Aside (res = ((gE a).bind fun x => (gBlk (gSts bo (indT tabs)) (indT tabs) bo.isEmpty).map fun y => x ++ ([32] ++ y)).bind fun z => (gBlk (gSts el (indT tabs)) (indT tabs) el.isEmpty).map fun u => [105, 102, 32] ++ (z ++ ([32, 101, 108, 115, 101, 32] ++ u))) := ⟨_, show _ = _ from rfl⟩
  rw [← hres.out]
  rw [IsGS] at hx
  obtain ⟨x, y, p, f, s1, s2, s3, r1, r2, r3, rfl, hr1, ha1, hr2, ha2, hr3, ha3⟩ := hx
  obtain ⟨a1, q1, rfl, hm1⟩ := hr1.slice
  obtain ⟨a2, q2, rfl, hm2⟩ := hr2.slice
  obtain ⟨a3, q3, rfl, hm3⟩ := hr3.slice
  have hBo : ∀ w', FW base b w w' → IsGSs (fun k => k < base) w' bo (.slice a2 bo.length q2) := fun w' hF => ⟨r2, hr2.since hF.since, ha2.since hF.since⟩
  have hEl : ∀ w', FW base b w w' → IsGSs (fun k => k < base) w' el (.slice a3 el.length q3) := fun w' hF => ⟨r3, hr3.since hF.since, ha3.since hF.since⟩
  have hArg := fun (q : Nat) (e : GE) (w' : World) (hq : ([a] : List GE)[q]? = some e) (hF : FW base b w w') => arg_at hr1 ha1 hF hq
  obtain ⟨g, o', u0, u1, u2, u3, u4, u5, u6, u7, rfl, hg, ⟨e0, e1, e2, e3, e4, e5, e6, e7⟩, hgs⟩ := hArg 0 a w rfl (FW.refl _ _ _)
  obtain ⟨k1, o1, n1, t1, xx1, yy1, b1, m1, c1, p1, hcs⟩ := hgs.shows
  simp only [List.cons.injEq, and_true] at hcs
  obtain ⟨rfl, rfl, rfl, rfl, rfl, rfl, rfl, rfl⟩ := hcs
  simp only [Nat.zero_mul, Nat.add_zero] at e0 e1 e2 e3 e4 e5 e6 e7
  have hE := In.sboxes hW (gsBox 4 n x f y (.slice (some ⟨g, o', none⟩) 1 q1) (.slice a2 bo.length q2) (.slice a3 el.length q3) p) #[.int .i64 k1, .int .i64 o1, .int .i64 n1, .string t1, .int .i64 xx1, .string yy1, .slice b1 m1 c1, .int .i64 p1]
  have hIl : ∀ w', FW base b w w' → IsGE (fun k => k < base) w' a [.int .i64 k1, .int .i64 o1, .int .i64 n1, .string t1, .int .i64 xx1, .string yy1, .slice b1 m1 c1, .int .i64 p1] := fun w' hF => hgs.since hF.since
  clear hr1 ha1 hr2 ha2 hr3 ha3 hm1 hm2 hW hgs
  unfold maxLen at hm3
  go_enter Tryz.func89, Tryz.ntmps89
  go_wp2_with fail
  refine (need_ok _).mono ?_
  rintro e w1 ⟨rfl, rfl⟩
  go_wp2_with fail
  generalize ((w.alloc (sBox (gsBox 4 n x f y (.slice (some ⟨g, o', none⟩) 1 q1) (.slice a2 bo.length q2) (.slice a3 el.length q3) p))).alloc (xBox #[.int .i64 k1, .int .i64 o1, .int .i64 n1, .string t1, .int .i64 xx1, .string yy1, .slice b1 m1 c1, .int .i64 p1])) = w2 at *
  generalize w.heap.size = g0 at *
  have l0 : g0 < w2.heap.size := hE.lt (List.mem_cons_of_mem _ (List.mem_cons_self))
  have l1 : g0 + 1 < w2.heap.size := hE.lt (List.mem_cons_self)
  obtain ⟨x0, x1, x2, x3, x4, x5, x6, x7, _⟩ := cells_of8 (hE.kept _ (List.mem_cons_self))
  obtain ⟨z0, z1, z2, z3, z4, z5, z6, z7, z8, _⟩ := cells_of9 (hE.kept _ (List.mem_cons_of_mem _ (List.mem_cons_self)))
  refine (put_l hE.wr [105, 102, 32] (by simp)).mono ?_
  rintro e w3 ⟨rfl, l3, hw3, h3, hf3⟩
  have hE3 := hE.step h3 hf3
  clear l0 l1 x0 x1 x2 x3 x4 x5 x6 x7 z0 z1 z2 z3 z4 z5 z6 z7 z8 hf3
  have l0 : g0 < w3.heap.size := hE3.lt (List.mem_cons_of_mem _ (List.mem_cons_self))
  have l1 : g0 + 1 < w3.heap.size := hE3.lt (List.mem_cons_self)
  obtain ⟨x0, x1, x2, x3, x4, x5, x6, x7, _⟩ := cells_of8 (hE3.kept _ (List.mem_cons_self))
  obtain ⟨z0, z1, z2, z3, z4, z5, z6, z7, z8, _⟩ := cells_of9 (hE3.kept _ (List.mem_cons_of_mem _ (List.mem_cons_self)))
  have hC0 := headed_any hXa hB hd hE3.wr (hIl w3 hE3.fw) (hBo w3 hE3.fw)
  go_wp2_with fail
  refine hC0.mono ?_
  rcases hq0 : ((gE a).bind fun x => (gBlk (gSts bo (indT tabs)) (indT tabs) bo.isEmpty).map fun y => x ++ ([32] ++ y)) with _ | z
  · rintro e w4 ⟨rfl, l4, tabs4, h4, hf4⟩
    refine ⟨rfl, ?_⟩
    rw [hres.out, hq0]
    exact ⟨rfl, l4, tabs4, h4, hE3.fw.trans hf4⟩
  rintro e w4 ⟨rfl, l4, hw4, h4, hf4⟩
  have hE4 := hE3.step h4 hf4
  clear l0 l1 x0 x1 x2 x3 x4 x5 x6 x7 z0 z1 z2 z3 z4 z5 z6 z7 z8 hC0 hf4
  have l0 : g0 < w4.heap.size := hE4.lt (List.mem_cons_of_mem _ (List.mem_cons_self))
  have l1 : g0 + 1 < w4.heap.size := hE4.lt (List.mem_cons_self)
  obtain ⟨x0, x1, x2, x3, x4, x5, x6, x7, _⟩ := cells_of8 (hE4.kept _ (List.mem_cons_self))
  obtain ⟨z0, z1, z2, z3, z4, z5, z6, z7, z8, _⟩ := cells_of9 (hE4.kept _ (List.mem_cons_of_mem _ (List.mem_cons_self)))
  go_wp2_with fail
  refine (put_l hE4.wr [32, 101, 108, 115, 101, 32] (by simp)).mono ?_
  rintro e w5 ⟨rfl, l5, hw5, h5, hf5⟩
  have hE5 := hE4.step h5 hf5
  clear l0 l1 x0 x1 x2 x3 x4 x5 x6 x7 z0 z1 z2 z3 z4 z5 z6 z7 z8 hf5
  have l0 : g0 < w5.heap.size := hE5.lt (List.mem_cons_of_mem _ (List.mem_cons_self))
  have l1 : g0 + 1 < w5.heap.size := hE5.lt (List.mem_cons_self)
  obtain ⟨x0, x1, x2, x3, x4, x5, x6, x7, _⟩ := cells_of8 (hE5.kept _ (List.mem_cons_self))
  obtain ⟨z0, z1, z2, z3, z4, z5, z6, z7, z8, _⟩ := cells_of9 (hE5.kept _ (List.mem_cons_of_mem _ (List.mem_cons_self)))
  have hC := hB2 l5 tabs _ w5 hd2 h5 (hEl w5 hE5.fw)
  go_wp2_with fail
  refine hC.mono ?_
  rcases hq : (gBlk (gSts el (indT tabs)) (indT tabs) el.isEmpty) with _ | u
  · rintro e w9 ⟨rfl, l9, tabs9, h9, hf9⟩
    refine ⟨rfl, ?_⟩
    rw [hres.out, hq0, Option.bind_some, hq]
    exact ⟨rfl, l9, tabs9, h9, hE5.fw.trans hf9⟩
  · rintro e w9 ⟨rfl, l9, hw9, h9, hf9⟩
    go_wp2
    go_end0
    rw [hres.out, hq0, Option.bind_some, hq]
    exact ⟨rfl, l9, by simpa using ((hw3.trans hw4).trans hw5).trans hw9, h9, hE5.fw.trans hf9⟩
end Go.Proofs.YtifebbdjdllfpaaGreatDoor
/- Writing a statement: a for. -/
namespace Go.Proofs.YtifebbdjdllfpaaGreatDoor
open Go.RowKit
set_option linter.unusedSimpArgs false
set_option linter.unusedVariables false

set_option maxRecDepth 100000 in
set_option maxHeartbeats 8000000 in
/-- A for. -/
theorem stmt_for {base b : Nat}  {n : List UInt8} {a : GE} {bo el : List GS} {l : List UInt8} {tabs : Nat} {cs : List Value} {w : World} (hW : Wr base b l tabs w) (hx : IsGS (fun k => k < base) w (.mk 5 n [a] bo el) cs) (hnl : n.length ≤ maxLen) (hXa : ExOk base b a) (hB : BlOk base b bo) (hd : tabs + 1 + gsDs bo ≤ 1099511627776) :
    Calls Tryz.prog 89 #[wPtr b, .agg cs.toArray] w fun r w' => WPost base b l tabs w (if gName n then ((gE a).bind fun x => (gBlk (gSts bo (indT tabs)) (indT tabs) bo.isEmpty).map fun y => x ++ ([32] ++ y)).map fun z => [102, 111, 114, 32] ++ (n ++ ([32, 116, 111, 32] ++ z)) else none) r w' := by
  obtain ⟨res, hres⟩ : ∃ res : Option (List UInt8), Aside (res = if gName n then ((gE a).bind fun x => (gBlk (gSts bo (indT tabs)) (indT tabs) bo.isEmpty).map fun y => x ++ ([32] ++ y)).map fun z => [102, 111, 114, 32] ++ (n ++ ([32, 116, 111, 32] ++ z)) else none) := ⟨_, show _ = _ from rfl⟩
  rw [← hres.out]
  rw [IsGS] at hx
  obtain ⟨x, y, p, f, s1, s2, s3, r1, r2, r3, rfl, hr1, ha1, hr2, ha2, hr3, ha3⟩ := hx
  obtain ⟨a1, q1, rfl, hm1⟩ := hr1.slice
  obtain ⟨a2, q2, rfl, hm2⟩ := hr2.slice
  obtain ⟨a3, q3, rfl, hm3⟩ := hr3.slice
  have hBo : ∀ w', FW base b w w' → IsGSs (fun k => k < base) w' bo (.slice a2 bo.length q2) := fun w' hF => ⟨r2, hr2.since hF.since, ha2.since hF.since⟩
  have hEl : ∀ w', FW base b w w' → IsGSs (fun k => k < base) w' el (.slice a3 el.length q3) := fun w' hF => ⟨r3, hr3.since hF.since, ha3.since hF.since⟩
  have hArg := fun (q : Nat) (e : GE) (w' : World) (hq : ([a] : List GE)[q]? = some e) (hF : FW base b w w') => arg_at hr1 ha1 hF hq
  obtain ⟨g, o', u0, u1, u2, u3, u4, u5, u6, u7, rfl, hg, ⟨e0, e1, e2, e3, e4, e5, e6, e7⟩, hgs⟩ := hArg 0 a w rfl (FW.refl _ _ _)
  obtain ⟨k1, o1, n1, t1, xx1, yy1, b1, m1, c1, p1, hcs⟩ := hgs.shows
  simp only [List.cons.injEq, and_true] at hcs
  obtain ⟨rfl, rfl, rfl, rfl, rfl, rfl, rfl, rfl⟩ := hcs
  simp only [Nat.zero_mul, Nat.add_zero] at e0 e1 e2 e3 e4 e5 e6 e7
  have hE := In.sboxes hW (gsBox 5 n x f y (.slice (some ⟨g, o', none⟩) 1 q1) (.slice a2 bo.length q2) (.slice a3 el.length q3) p) #[.int .i64 k1, .int .i64 o1, .int .i64 n1, .string t1, .int .i64 xx1, .string yy1, .slice b1 m1 c1, .int .i64 p1]
  have hIl : ∀ w', FW base b w w' → IsGE (fun k => k < base) w' a [.int .i64 k1, .int .i64 o1, .int .i64 n1, .string t1, .int .i64 xx1, .string yy1, .slice b1 m1 c1, .int .i64 p1] := fun w' hF => hgs.since hF.since
  clear hr1 ha1 hr2 ha2 hr3 ha3 hm1 hm2 hW hgs
  unfold maxLen at hm3
  go_enter Tryz.func89, Tryz.ntmps89
  go_wp2_with fail
  refine (need_ok _).mono ?_
  rintro e w1 ⟨rfl, rfl⟩
  have hN := name_any n
  rcases hgn : gName n with _ | _
  · rw [hgn] at hN
    go_wp2_with fail
    generalize ((w.alloc (sBox (gsBox 5 n x f y (.slice (some ⟨g, o', none⟩) 1 q1) (.slice a2 bo.length q2) (.slice a3 el.length q3) p))).alloc (xBox #[.int .i64 k1, .int .i64 o1, .int .i64 n1, .string t1, .int .i64 xx1, .string yy1, .slice b1 m1 c1, .int .i64 p1])) = w2 at *
    generalize w.heap.size = g0 at *
    have l0 : g0 < w2.heap.size := hE.lt (List.mem_cons_of_mem _ (List.mem_cons_self))
    have l1 : g0 + 1 < w2.heap.size := hE.lt (List.mem_cons_self)
    obtain ⟨x0, x1, x2, x3, x4, x5, x6, x7, _⟩ := cells_of8 (hE.kept _ (List.mem_cons_self))
    obtain ⟨z0, z1, z2, z3, z4, z5, z6, z7, z8, _⟩ := cells_of9 (hE.kept _ (List.mem_cons_of_mem _ (List.mem_cons_self)))
    refine (hN _ hnl).mono ?_
    rintro e w3 ⟨rfl, rfl⟩
    refine ⟨rfl, ?_⟩
    rw [hres.out, hgn]
    exact ⟨rfl, l, tabs, hE.wr, hE.fw⟩
  have htl := gName_len' hgn
  rw [hgn] at hN
  go_wp2_with fail
  generalize ((w.alloc (sBox (gsBox 5 n x f y (.slice (some ⟨g, o', none⟩) 1 q1) (.slice a2 bo.length q2) (.slice a3 el.length q3) p))).alloc (xBox #[.int .i64 k1, .int .i64 o1, .int .i64 n1, .string t1, .int .i64 xx1, .string yy1, .slice b1 m1 c1, .int .i64 p1])) = w2 at *
  generalize w.heap.size = g0 at *
  have l0 : g0 < w2.heap.size := hE.lt (List.mem_cons_of_mem _ (List.mem_cons_self))
  have l1 : g0 + 1 < w2.heap.size := hE.lt (List.mem_cons_self)
  obtain ⟨x0, x1, x2, x3, x4, x5, x6, x7, _⟩ := cells_of8 (hE.kept _ (List.mem_cons_self))
  obtain ⟨z0, z1, z2, z3, z4, z5, z6, z7, z8, _⟩ := cells_of9 (hE.kept _ (List.mem_cons_of_mem _ (List.mem_cons_self)))
  refine (hN _ hnl).mono ?_
  rintro e w2' ⟨rfl, rfl⟩
  go_wp2_with fail
  rw [cat2, cat2]
  refine (put_l hE.wr ([102, 111, 114, 32] ++ n ++ [32, 116, 111, 32]) (by simp; omega)).mono ?_
  rintro e w3 ⟨rfl, l3, hw3, h3, hf3⟩
  have hE3 := hE.step h3 hf3
  clear l0 l1 x0 x1 x2 x3 x4 x5 x6 x7 z0 z1 z2 z3 z4 z5 z6 z7 z8 hN hf3
  have l0 : g0 < w3.heap.size := hE3.lt (List.mem_cons_of_mem _ (List.mem_cons_self))
  have l1 : g0 + 1 < w3.heap.size := hE3.lt (List.mem_cons_self)
  obtain ⟨x0, x1, x2, x3, x4, x5, x6, x7, _⟩ := cells_of8 (hE3.kept _ (List.mem_cons_self))
  obtain ⟨z0, z1, z2, z3, z4, z5, z6, z7, z8, _⟩ := cells_of9 (hE3.kept _ (List.mem_cons_of_mem _ (List.mem_cons_self)))
  have hC := headed_any hXa hB hd hE3.wr (hIl w3 hE3.fw) (hBo w3 hE3.fw)
  go_wp2_with fail
  refine hC.mono ?_
  rcases hq : ((gE a).bind fun x => (gBlk (gSts bo (indT tabs)) (indT tabs) bo.isEmpty).map fun y => x ++ ([32] ++ y)) with _ | z
  · rintro e w9 ⟨rfl, l9, tabs9, h9, hf9⟩
    refine ⟨rfl, ?_⟩
    rw [hres.out, hgn, if_pos rfl, hq]
    exact ⟨rfl, l9, tabs9, h9, hE3.fw.trans hf9⟩
  · rintro e w9 ⟨rfl, l9, hw9, h9, hf9⟩
    go_wp2
    go_end0
    rw [hres.out, hgn, if_pos rfl, hq]
    exact ⟨rfl, l9, by simpa using hw3.trans hw9, h9, hE3.fw.trans hf9⟩
end Go.Proofs.YtifebbdjdllfpaaGreatDoor
/- Writing a statement: a ret. -/
namespace Go.Proofs.YtifebbdjdllfpaaGreatDoor
open Go.RowKit
set_option linter.unusedSimpArgs false
set_option linter.unusedVariables false

set_option maxRecDepth 100000 in
set_option maxHeartbeats 8000000 in
/-- A ret. -/
theorem stmt_ret {base b : Nat}  {n : List UInt8} {a : GE} {bo el : List GS} {l : List UInt8} {tabs : Nat} {cs : List Value} {w : World} (hW : Wr base b l tabs w) (hx : IsGS (fun k => k < base) w (.mk 6 n [a] bo el) cs) (hXa : ExOk base b a) :
    Calls Tryz.prog 89 #[wPtr b, .agg cs.toArray] w fun r w' => WPost base b l tabs w ((gE a).map fun x => [114, 101, 116, 32] ++ (x ++ [59])) r w' := by
  obtain ⟨res, hres⟩ : ∃ res : Option (List UInt8), Aside (res = (gE a).map fun x => [114, 101, 116, 32] ++ (x ++ [59])) := ⟨_, show _ = _ from rfl⟩
  rw [← hres.out]
  rw [IsGS] at hx
  obtain ⟨x, y, p, f, s1, s2, s3, r1, r2, r3, rfl, hr1, ha1, hr2, ha2, hr3, ha3⟩ := hx
  obtain ⟨a1, q1, rfl, hm1⟩ := hr1.slice
  obtain ⟨a2, q2, rfl, hm2⟩ := hr2.slice
  obtain ⟨a3, q3, rfl, hm3⟩ := hr3.slice
  have hBo : ∀ w', FW base b w w' → IsGSs (fun k => k < base) w' bo (.slice a2 bo.length q2) := fun w' hF => ⟨r2, hr2.since hF.since, ha2.since hF.since⟩
  have hEl : ∀ w', FW base b w w' → IsGSs (fun k => k < base) w' el (.slice a3 el.length q3) := fun w' hF => ⟨r3, hr3.since hF.since, ha3.since hF.since⟩
  have hArg := fun (q : Nat) (e : GE) (w' : World) (hq : ([a] : List GE)[q]? = some e) (hF : FW base b w w') => arg_at hr1 ha1 hF hq
  obtain ⟨g, o', u0, u1, u2, u3, u4, u5, u6, u7, rfl, hg, ⟨e0, e1, e2, e3, e4, e5, e6, e7⟩, hgs⟩ := hArg 0 a w rfl (FW.refl _ _ _)
  obtain ⟨k1, o1, n1, t1, xx1, yy1, b1, m1, c1, p1, hcs⟩ := hgs.shows
  simp only [List.cons.injEq, and_true] at hcs
  obtain ⟨rfl, rfl, rfl, rfl, rfl, rfl, rfl, rfl⟩ := hcs
  simp only [Nat.zero_mul, Nat.add_zero] at e0 e1 e2 e3 e4 e5 e6 e7
  have hE := In.sboxes hW (gsBox 6 n x f y (.slice (some ⟨g, o', none⟩) 1 q1) (.slice a2 bo.length q2) (.slice a3 el.length q3) p) #[.int .i64 k1, .int .i64 o1, .int .i64 n1, .string t1, .int .i64 xx1, .string yy1, .slice b1 m1 c1, .int .i64 p1]
  have hIl : ∀ w', FW base b w w' → IsGE (fun k => k < base) w' a [.int .i64 k1, .int .i64 o1, .int .i64 n1, .string t1, .int .i64 xx1, .string yy1, .slice b1 m1 c1, .int .i64 p1] := fun w' hF => hgs.since hF.since
  clear hr1 ha1 hr2 ha2 hr3 ha3 hm1 hm2 hW hgs
  unfold maxLen at hm3
  go_enter Tryz.func89, Tryz.ntmps89
  go_wp2_with fail
  refine (need_ok _).mono ?_
  rintro e w1 ⟨rfl, rfl⟩
  go_wp2_with fail
  generalize ((w.alloc (sBox (gsBox 6 n x f y (.slice (some ⟨g, o', none⟩) 1 q1) (.slice a2 bo.length q2) (.slice a3 el.length q3) p))).alloc (xBox #[.int .i64 k1, .int .i64 o1, .int .i64 n1, .string t1, .int .i64 xx1, .string yy1, .slice b1 m1 c1, .int .i64 p1])) = w2 at *
  generalize w.heap.size = g0 at *
  have l0 : g0 < w2.heap.size := hE.lt (List.mem_cons_of_mem _ (List.mem_cons_self))
  have l1 : g0 + 1 < w2.heap.size := hE.lt (List.mem_cons_self)
  obtain ⟨x0, x1, x2, x3, x4, x5, x6, x7, _⟩ := cells_of8 (hE.kept _ (List.mem_cons_self))
  obtain ⟨z0, z1, z2, z3, z4, z5, z6, z7, z8, _⟩ := cells_of9 (hE.kept _ (List.mem_cons_of_mem _ (List.mem_cons_self)))
  refine (put_l hE.wr [114, 101, 116, 32] (by simp)).mono ?_
  rintro e w3 ⟨rfl, l3, hw3, h3, hf3⟩
  have hE3 := hE.step h3 hf3
  clear l0 l1 x0 x1 x2 x3 x4 x5 x6 x7 z0 z1 z2 z3 z4 z5 z6 z7 z8 hf3
  have l0 : g0 < w3.heap.size := hE3.lt (List.mem_cons_of_mem _ (List.mem_cons_self))
  have l1 : g0 + 1 < w3.heap.size := hE3.lt (List.mem_cons_self)
  obtain ⟨x0, x1, x2, x3, x4, x5, x6, x7, _⟩ := cells_of8 (hE3.kept _ (List.mem_cons_self))
  obtain ⟨z0, z1, z2, z3, z4, z5, z6, z7, z8, _⟩ := cells_of9 (hE3.kept _ (List.mem_cons_of_mem _ (List.mem_cons_self)))
  have hC0 := hXa.top hE3.wr (hIl w3 hE3.fw)
  go_wp2_with fail
  refine hC0.mono ?_
  rcases hq0 : gE a with _ | x'
  · rintro e w4 ⟨rfl, l4, tabs4, h4, hf4⟩
    refine ⟨rfl, ?_⟩
    rw [hres.out, hq0]
    exact ⟨rfl, l4, tabs4, h4, hE3.fw.trans hf4⟩
  rintro e w4 ⟨rfl, l4, hw4, h4, hf4⟩
  have hE4 := hE3.step h4 hf4
  clear l0 l1 x0 x1 x2 x3 x4 x5 x6 x7 z0 z1 z2 z3 z4 z5 z6 z7 z8 hC0 hf4
  have l0 : g0 < w4.heap.size := hE4.lt (List.mem_cons_of_mem _ (List.mem_cons_self))
  have l1 : g0 + 1 < w4.heap.size := hE4.lt (List.mem_cons_self)
  obtain ⟨x0, x1, x2, x3, x4, x5, x6, x7, _⟩ := cells_of8 (hE4.kept _ (List.mem_cons_self))
  obtain ⟨z0, z1, z2, z3, z4, z5, z6, z7, z8, _⟩ := cells_of9 (hE4.kept _ (List.mem_cons_of_mem _ (List.mem_cons_self)))
  go_wp2_with fail
  refine (put_l hE4.wr [59] (by simp)).mono ?_
  rintro e w5 ⟨rfl, l5, hw5, h5, hf5⟩
  go_wp2
  go_end0
  rw [hres.out, hq0]
  exact ⟨rfl, l5, by simpa using (hw3.trans hw4).trans hw5, h5, hE4.fw.trans hf5⟩
end Go.Proofs.YtifebbdjdllfpaaGreatDoor
/- Writing a statement: none such. -/
namespace Go.Proofs.YtifebbdjdllfpaaGreatDoor
open Go.RowKit
set_option linter.unusedSimpArgs false
set_option linter.unusedVariables false

set_option maxRecDepth 100000 in
set_option maxHeartbeats 8000000 in
/-- No such statement. -/
theorem stmt_none {base b : Nat} {k : Int} {n : List UInt8} {a : GE} {bo el : List GS} {l : List UInt8} {tabs : Nat} {cs : List Value} {w : World} (hW : Wr base b l tabs w) (hx : IsGS (fun k => k < base) w (.mk k n [a] bo el) cs) (hk : k ≠ 1 ∧ k ≠ 2 ∧ k ≠ 3 ∧ k ≠ 4 ∧ k ≠ 5 ∧ k ≠ 6) :
    Calls Tryz.prog 89 #[wPtr b, .agg cs.toArray] w fun r w' => WPost base b l tabs w (none) r w' := by
  obtain ⟨res, hres⟩ : ∃ res : Option (List UInt8), Aside (res = none) := ⟨_, show _ = _ from rfl⟩
  rw [← hres.out]
  rw [IsGS] at hx
  obtain ⟨x, y, p, f, s1, s2, s3, r1, r2, r3, rfl, hr1, ha1, hr2, ha2, hr3, ha3⟩ := hx
  obtain ⟨a1, q1, rfl, hm1⟩ := hr1.slice
  obtain ⟨a2, q2, rfl, hm2⟩ := hr2.slice
  obtain ⟨a3, q3, rfl, hm3⟩ := hr3.slice
  have hBo : ∀ w', FW base b w w' → IsGSs (fun k => k < base) w' bo (.slice a2 bo.length q2) := fun w' hF => ⟨r2, hr2.since hF.since, ha2.since hF.since⟩
  have hEl : ∀ w', FW base b w w' → IsGSs (fun k => k < base) w' el (.slice a3 el.length q3) := fun w' hF => ⟨r3, hr3.since hF.since, ha3.since hF.since⟩
  have hArg := fun (q : Nat) (e : GE) (w' : World) (hq : ([a] : List GE)[q]? = some e) (hF : FW base b w w') => arg_at hr1 ha1 hF hq
  obtain ⟨g, o', u0, u1, u2, u3, u4, u5, u6, u7, rfl, hg, ⟨e0, e1, e2, e3, e4, e5, e6, e7⟩, hgs⟩ := hArg 0 a w rfl (FW.refl _ _ _)
  obtain ⟨k1, o1, n1, t1, xx1, yy1, b1, m1, c1, p1, hcs⟩ := hgs.shows
  simp only [List.cons.injEq, and_true] at hcs
  obtain ⟨rfl, rfl, rfl, rfl, rfl, rfl, rfl, rfl⟩ := hcs
  simp only [Nat.zero_mul, Nat.add_zero] at e0 e1 e2 e3 e4 e5 e6 e7
  have hE := In.sboxes hW (gsBox k n x f y (.slice (some ⟨g, o', none⟩) 1 q1) (.slice a2 bo.length q2) (.slice a3 el.length q3) p) #[.int .i64 k1, .int .i64 o1, .int .i64 n1, .string t1, .int .i64 xx1, .string yy1, .slice b1 m1 c1, .int .i64 p1]
  have hIl : ∀ w', FW base b w w' → IsGE (fun k => k < base) w' a [.int .i64 k1, .int .i64 o1, .int .i64 n1, .string t1, .int .i64 xx1, .string yy1, .slice b1 m1 c1, .int .i64 p1] := fun w' hF => hgs.since hF.since
  clear hr1 ha1 hr2 ha2 hr3 ha3 hm1 hm2 hW hgs
  unfold maxLen at hm3
  have kq1 : (k == 1) = false := by simpa using hk.1
  have kq2 : (k == 2) = false := by simpa using hk.2.1
  have kq3 : (k == 3) = false := by simpa using hk.2.2.1
  have kq4 : (k == 4) = false := by simpa using hk.2.2.2.1
  have kq5 : (k == 5) = false := by simpa using hk.2.2.2.2.1
  have kq6 : (k == 6) = false := by simpa using hk.2.2.2.2.2
  clear hk
  go_enter Tryz.func89, Tryz.ntmps89
  go_wp2_with fail
  refine (need_ok _).mono ?_
  rintro e w1 ⟨rfl, rfl⟩
  go_wp2_with fail
  generalize ((w.alloc (sBox (gsBox k n x f y (.slice (some ⟨g, o', none⟩) 1 q1) (.slice a2 bo.length q2) (.slice a3 el.length q3) p))).alloc (xBox #[.int .i64 k1, .int .i64 o1, .int .i64 n1, .string t1, .int .i64 xx1, .string yy1, .slice b1 m1 c1, .int .i64 p1])) = w2 at *
  generalize w.heap.size = g0 at *
  have l0 : g0 < w2.heap.size := hE.lt (List.mem_cons_of_mem _ (List.mem_cons_self))
  have l1 : g0 + 1 < w2.heap.size := hE.lt (List.mem_cons_self)
  obtain ⟨x0, x1, x2, x3, x4, x5, x6, x7, _⟩ := cells_of8 (hE.kept _ (List.mem_cons_self))
  obtain ⟨z0, z1, z2, z3, z4, z5, z6, z7, z8, _⟩ := cells_of9 (hE.kept _ (List.mem_cons_of_mem _ (List.mem_cons_self)))
  refine (need_no _).mono ?_
  rintro e w3 ⟨rfl, rfl⟩
  refine ⟨rfl, ?_⟩
  rw [hres.out]
  exact ⟨rfl, l, tabs, hE.wr, hE.fw⟩
end Go.Proofs.YtifebbdjdllfpaaGreatDoor
/- Writing statements and blocks: every one. -/
namespace Go.Proofs.YtifebbdjdllfpaaGreatDoor
open Go.RowKit
set_option linter.unusedSimpArgs false
set_option linter.unusedVariables false

mutual
def OkS : GS → Prop
  | .mk k n es b c => n.length ≤ maxLen ∧ OkEs es ∧ OkSs b ∧ OkSs c
def OkSs : List GS → Prop
  | [] => True
  | s :: r => OkS s ∧ OkSs r
end
theorem blok_of {base b : Nat} {ss : List GS} (h : ∀ s ∈ ss, StOk base b s) : BlOk base b ss := by
  cases ss with
  | nil => exact block_none
  | cons s r => exact block_any (by simp) h
theorem gSK_count {k : Int} {n : List UInt8} {es : List GE} {x y : Option (List UInt8)} {z : Bool} (h1 : es.length ≠ 1) (h2 : es.length ≠ 2 ∨ k ≠ 2) : gSK k n es x y z = none := by
  unfold gSK
  rw [if_pos (by omega)]
theorem stmt_whole {base b : Nat} {k : Int} {n : List UInt8} {es : List GE} {bo el : List GS} (hn : n.length ≤ maxLen) (he : ∀ e ∈ es, ExOk base b e) (hb : BlOk base b bo) (hc : BlOk base b el) : StOk base b (.mk k n es bo el) := by
  intro l tabs cs w hd hW hx
  rw [gsD] at hd
  rw [gSt]
  by_cases h1 : es.length = 1
  · match es, h1, he, hx with
    | [a], _, he, hx =>
      have hXa := he a (by simp)
      by_cases k1 : k = 1
      · subst k1
        have := stmt_let hW hx hn hXa
        rw [show gSK 1 n [a] (gBlk (gSts bo (indT tabs)) (indT tabs) bo.isEmpty) (gBlk (gSts el (indT tabs)) (indT tabs) el.isEmpty) el.isEmpty = if gName n then (gE a).map fun x => [108, 101, 116, 32] ++ (n ++ ([32, 61, 32] ++ (x ++ [59]))) else none by
          cases hg : gName n <;> rcases hq : gE a with _ | x <;> simp [gSK, hg, hq]]
        exact this
      by_cases k2 : k = 2
      · subst k2
        have := stmt_set1 hW hx hn hXa
        rw [show gSK 2 n [a] (gBlk (gSts bo (indT tabs)) (indT tabs) bo.isEmpty) (gBlk (gSts el (indT tabs)) (indT tabs) el.isEmpty) el.isEmpty = if gName n then (gE a).map fun x => [115, 101, 116, 32] ++ (n ++ ([32, 61, 32] ++ (x ++ [59]))) else none by
          cases hg : gName n <;> rcases hq : gE a with _ | x <;> simp [gSK, hg, hq]]
        exact this
      by_cases k3 : k = 3
      · subst k3
        have := stmt_del hW hx hn hXa
        rw [show gSK 3 n [a] (gBlk (gSts bo (indT tabs)) (indT tabs) bo.isEmpty) (gBlk (gSts el (indT tabs)) (indT tabs) el.isEmpty) el.isEmpty = if gName n then (gE a).map fun x => [100, 101, 108, 32] ++ (n ++ ([91] ++ (x ++ [93, 59]))) else none by
          cases hg : gName n <;> rcases hq : gE a with _ | x <;> simp [gSK, hg, hq]]
        exact this
      by_cases k4 : k = 4
      · subst k4
        by_cases hel : el.length = 0
        · have hel0 : el = [] := List.length_eq_zero_iff.1 hel
          have := stmt_if1 hW hx hXa hb (by omega) (by omega)
          rw [show gSK 4 n [a] (gBlk (gSts bo (indT tabs)) (indT tabs) bo.isEmpty) (gBlk (gSts el (indT tabs)) (indT tabs) el.isEmpty) el.isEmpty = ((gE a).bind fun x => (gBlk (gSts bo (indT tabs)) (indT tabs) bo.isEmpty).map fun y => x ++ ([32] ++ y)).map fun z => [105, 102, 32] ++ z by
            rcases hq : gE a with _ | x <;> rcases gBlk (gSts bo (indT tabs)) (indT tabs) bo.isEmpty with _ | y <;> simp [gSK, hq, hel0]]
          exact this
        · have hel0 : el.isEmpty = false := by cases el with | nil => simp at hel | cons _ _ => rfl
          have := stmt_if2 hW hx hXa hb (by omega) hc (by omega) (by omega)
          rw [show gSK 4 n [a] (gBlk (gSts bo (indT tabs)) (indT tabs) bo.isEmpty) (gBlk (gSts el (indT tabs)) (indT tabs) el.isEmpty) el.isEmpty = ((gE a).bind fun x => (gBlk (gSts bo (indT tabs)) (indT tabs) bo.isEmpty).map fun y => x ++ ([32] ++ y)).bind fun z => (gBlk (gSts el (indT tabs)) (indT tabs) el.isEmpty).map fun u => [105, 102, 32] ++ (z ++ ([32, 101, 108, 115, 101, 32] ++ u)) by
            rw [hel0]
            rcases hq : gE a with _ | x <;> rcases gBlk (gSts bo (indT tabs)) (indT tabs) bo.isEmpty with _ | y <;> rcases gBlk (gSts el (indT tabs)) (indT tabs) false with _ | z <;> simp [gSK, hq]]
          exact this
      by_cases k5 : k = 5
      · subst k5
        have := stmt_for hW hx hn hXa hb (by omega)
        rw [show gSK 5 n [a] (gBlk (gSts bo (indT tabs)) (indT tabs) bo.isEmpty) (gBlk (gSts el (indT tabs)) (indT tabs) el.isEmpty) el.isEmpty = if gName n then ((gE a).bind fun x => (gBlk (gSts bo (indT tabs)) (indT tabs) bo.isEmpty).map fun y => x ++ ([32] ++ y)).map fun z => [102, 111, 114, 32] ++ (n ++ ([32, 116, 111, 32] ++ z)) else none by
          cases hg : gName n <;> rcases hq : gE a with _ | x <;> rcases gBlk (gSts bo (indT tabs)) (indT tabs) bo.isEmpty with _ | y <;> simp [gSK, hg, hq]]
        exact this
      by_cases k6 : k = 6
      · subst k6
        have := stmt_ret hW hx hXa
        rw [show gSK 6 n [a] (gBlk (gSts bo (indT tabs)) (indT tabs) bo.isEmpty) (gBlk (gSts el (indT tabs)) (indT tabs) el.isEmpty) el.isEmpty = (gE a).map fun x => [114, 101, 116, 32] ++ (x ++ [59]) by
          rcases hq : gE a with _ | x <;> simp [gSK, hq]]
        exact this
      have := stmt_none hW hx ⟨k1, k2, k3, k4, k5, k6⟩
      rw [show gSK k n [a] (gBlk (gSts bo (indT tabs)) (indT tabs) bo.isEmpty) (gBlk (gSts el (indT tabs)) (indT tabs) el.isEmpty) el.isEmpty = none by
        unfold gSK; rw [if_pos (by omega)]]
      exact this
  by_cases h2 : es.length = 2 ∧ k = 2
  · obtain ⟨hl, rfl⟩ := h2
    match es, hl, he, hx with
    | [a, c], _, he, hx =>
      have := stmt_set2 hW hx hn (he a (by simp)) (he c (by simp))
      rw [show gSK 2 n [a, c] (gBlk (gSts bo (indT tabs)) (indT tabs) bo.isEmpty) (gBlk (gSts el (indT tabs)) (indT tabs) el.isEmpty) el.isEmpty = if gName n then (gE a).bind fun x => (gE c).map fun y => [115, 101, 116, 32] ++ (n ++ ([91] ++ (x ++ ([93, 32, 61, 32] ++ (y ++ [59]))))) else none by
        cases hg : gName n <;> rcases hq : gE a with _ | x <;> rcases hq2 : gE c with _ | y <;> simp [gSK, hg, hq, hq2]]
      exact this
  rw [gSK_count h1 (by omega)]
  exact stmt_count hW hx h1 (by omega)
mutual
theorem stok {base b : Nat} : ∀ s : GS, OkS s → StOk base b s
  | .mk k n es bo el, h => by
    rw [OkS] at h
    exact stmt_whole h.1 (exoks es h.2.1) (blok_of (stoks bo h.2.2.1)) (blok_of (stoks el h.2.2.2))
theorem stoks {base b : Nat} : ∀ l : List GS, OkSs l → ∀ s ∈ l, StOk base b s
  | [], _, s, hs => by simp at hs
  | a :: r, h, s, hs => by
    rw [OkSs] at h
    have ha := stok (base := base) (b := b) a h.1
    have hr := stoks (base := base) (b := b) r h.2
    rcases List.mem_cons.1 hs with rfl | hs
    · exact ha
    · exact hr s hs
end
/-- Every block is written as it should be. -/
theorem blok {base b : Nat} (ss : List GS) (h : OkSs ss) : BlOk base b ss := blok_of (stoks ss h)
end Go.Proofs.YtifebbdjdllfpaaGreatDoor
/- Writing a name with its type. -/
namespace Go.Proofs.YtifebbdjdllfpaaGreatDoor
open Go.RowKit
set_option linter.unusedSimpArgs false
set_option linter.unusedVariables false

theorem gType_len {y : List UInt8} (h : gType y = true) : y.length ≤ 28 := by
  unfold gType at h
  split at h
  · rename_i ht
    obtain ⟨c, hc⟩ := ht
    have : ∀ {k : Nat} {y : List UInt8} {c : List Lx.Tok}, Px.Ty k y c → y.length ≤ 7 * k := by
      intro k y c h
      induction h with
      | int => simp; omega
      | bool => simp; omega
      | text => simp; omega
      | list _ ih => simp at ih ⊢; omega
      | map ha _ ih => rcases ha with rfl | rfl <;> (simp at ih ⊢; omega)
    have := this hc
    omega
  · cases h
theorem slot_cat (n y : List UInt8) : ((⟨n.toArray⟩ ++ ⟨#[58, 32]⟩ ++ ⟨y.toArray⟩ : ByteArray)) = ⟨(n ++ ([58, 32] ++ y)).toArray⟩ := by
  apply ByteArray.ext
  simp [ByteArray.data_append]
abbrev lBox (n y : List UInt8) (p : Int) : Array Value := #[.string ⟨n.toArray⟩, .string ⟨y.toArray⟩, .int .i64 p]
set_option maxRecDepth 100000 in
set_option maxHeartbeats 8000000 in
theorem wslot_any {base b : Nat} {s : List UInt8 × List UInt8} {l : List UInt8} {tabs : Nat} {cs : List Value} {w : World} (hW : Wr base b l tabs w) (hx : IsGL s cs) (h1 : s.1.length ≤ maxLen) (h2 : s.2.length ≤ maxLen) :
    Calls Tryz.prog 40 #[wPtr b, .agg cs.toArray] w fun r w' => WPost base b l tabs w (gSl s) r w' := by
  obtain ⟨n, y⟩ := s
  obtain ⟨p, rfl⟩ := hx
  simp only at h1 h2
  have hE := (In.start hW).alloc (lBox n y p) 90 (by decide)
  have hN := name_any n
  have hY := typet_any y
  clear hW
  rcases hgn : gName n with _ | _
  · rw [hgn] at hN
    rw [show gSl (n, y) = none by simp [gSl, hgn]]
    go_enter Tryz.func40, Tryz.ntmps40
    go_upto_region 1 with fail
    generalize w.alloc (.cells (lBox n y p) 90) = w2 at *
    generalize w.heap.size = g0 at *
    have l0 : g0 < w2.heap.size := hE.lt (List.mem_cons_self)
    obtain ⟨x0, x1, x2, _⟩ := cells_of3 (hE.kept _ (List.mem_cons_self))
    go_region_with (go_at_call 59; refine (hN _ h1).mono ?_; rintro e w3 ⟨rfl, rfl⟩; refine skip_way w2.drew ⟨rfl, rfl, l, tabs, hE.drew.wr, hE.drew.fw⟩ ?_)
    all_goals trivial
  rw [hgn] at hN
  have hnl := gName_len' hgn
  rcases hgy : gType y with _ | _
  · rw [hgy] at hY
    rw [show gSl (n, y) = none by simp [gSl, hgy]]
    go_enter Tryz.func40, Tryz.ntmps40
    go_upto_region 1 with fail
    generalize w.alloc (.cells (lBox n y p) 90) = w2 at *
    generalize w.heap.size = g0 at *
    have l0 : g0 < w2.heap.size := hE.lt (List.mem_cons_self)
    obtain ⟨x0, x1, x2, _⟩ := cells_of3 (hE.kept _ (List.mem_cons_self))
    go_region_with (first
      | (go_at_call 59; refine (hN _ h1).mono ?_; rintro e w3 ⟨rfl, rfl⟩)
      | (go_at_call 60; refine (hY _ h2).mono ?_; rintro e w3 ⟨rfl, rfl⟩; refine skip_way w2.drew ⟨rfl, rfl, l, tabs, hE.drew.wr, hE.drew.fw⟩ ?_))
    all_goals trivial
  rw [hgy] at hY
  have hyl := gType_len hgy
  rw [show gSl (n, y) = some (n ++ ([58, 32] ++ y)) by simp [gSl, hgn, hgy]]
  go_enter Tryz.func40, Tryz.ntmps40
  go_upto_region 1 with fail
  generalize w.alloc (.cells (lBox n y p) 90) = w2 at *
  generalize w.heap.size = g0 at *
  have l0 : g0 < w2.heap.size := hE.lt (List.mem_cons_self)
  obtain ⟨x0, x1, x2, _⟩ := cells_of3 (hE.kept _ (List.mem_cons_self))
  have hP := put_l hE.drew.wr (n ++ ([58, 32] ++ y)) (by simp; omega)
  rw [← slot_cat] at hP
  go_region_with (first
    | (go_at_call 59; refine (hN _ h1).mono ?_; rintro e w3 ⟨rfl, rfl⟩)
    | (go_at_call 60; refine (hY _ h2).mono ?_; rintro e w3 ⟨rfl, rfl⟩)
    | (go_at_call 38; refine hP.mono ?_; rintro e w4 ⟨rfl, l4, hw4, h4, hf4⟩))
  all_goals
    go_wp2
    go_end0
    exact ⟨rfl, l4, hw4, h4, hE.fw.trans (FW.from_drewN 1 hf4)⟩
end Go.Proofs.YtifebbdjdllfpaaGreatDoor
