/- What the statement's function CrcKeeps does. -/
import Derived.Test.YtpplhafbmcgahaaDoorMixes
import Derived.Test.YtpplhafbmcgahaaDoorParts
import Derived.Laws.BytesArg
namespace Go.Proofs.YtpplhafbmcgahaaDoor
open Go.RowKit

theorem grown_same (w : World) (row : Option Nat) : w.grownBy w row := ⟨rfl, rfl, rfl, Nat.le_refl _, fun _ _ _ => rfl⟩
/-- append of all of a slice, nil or not, onto one that the call owns. -/
theorem append_all {P : Program} (w : World) {ops : Array Oper} {rest : List Oper} {o : Oper} {a : Act} {Q : Exit → Act → World → Prop} (hgd : o.guard = none) (s x : Operand) (t : TypeId)
    (ho : o.op = .call { callee := .builtin .append, args := #[s, x], argTypes := #[t, t] })
    (base : Nat) (e : TypeId) (i : TypeInfo) (z : Value) (size bytes : Nat) (ht : P.underlying t = some (.slice e)) (hi : P.info? e = some i) (hz : i.zero = some z)
    (hsize : i.size = size) (hby : i.bytes = bytes) (hzs : z.cells.size = size) (hsz : 0 < size)
    (v : Value) (n : Nat) (xs : List Value) (hs : a.eval s = v) (hown : w.ownsRow base e size v n xs)
    (ad : Option Addr) (m c : Nat) (news : List Value) (hx : a.eval x = .slice ad m c) (hl : news.length = m * size) (hnil : ad = none → m = 0 ∧ c = 0)
    (hnews : ∀ b, ad = some b → ∀ j u, news[j]? = some u → w.cell? (b.add j) = some u) (h1 : ∀ u ∈ news, u.oneCell' = true)
    (h63 : n + m ≤ maxLen) (hbytes : (n + m) * bytes ≤ 140737488355328) (hbase : base ≤ w.heap.size)
    (h : ∀ v' w', w'.ownsRow base e size v' (n + m) (xs ++ news) → w.grownBy w' v.ownBlock → wpList P ops Q rest (a.put o.dst v') w') : wpList P ops Q (o :: rest) a w := by
  cases ad with
  | none =>
    obtain ⟨rfl, rfl⟩ := hnil rfl
    have hn : news = [] := List.length_eq_zero_iff.1 (by omega)
    subst hn
    refine wpList_append_own_none hgd s x t ho base e i size ht hi v n xs hs hown hx (h v w ?_ (grown_same w _))
    simpa using hown
  | some b =>
    exact wpList_append_own w hgd s x t ho base e i z size bytes ht hi hz hsize hby hzs hsz v n xs hs hown b m c news hx hl (hnews b rfl) h1 h63 hbytes hbase (fun v' w' h2 h3 _ => h v' w' h2 h3)
theorem owns_below {w w' : World} {B base e size g n cap : Nat} {xs : List Value} (h : w.ownsRow base e size (.slice (some ⟨g, 0, none⟩) n cap) n xs) (hb : Below B w w') (hg : g < B) : w'.ownsRow base e size (.slice (some ⟨g, 0, none⟩) n cap) n xs := by
  refine ⟨h.1, ?_⟩
  rcases h.2 with hn | ⟨g', cap', cur, hv, h1, h2, r⟩
  · exact .inl hn
  · refine .inr ⟨g', cap', cur, hv, h1, ?_, r⟩
    simp only [Value.slice.injEq, Option.some.injEq, Addr.mk.injEq, and_true, true_and] at hv
    rw [hb.block g' (by omega)]
    exact h2
theorem news_any {w : World} {a : Option Addr} {len : Nat} {l : List Int} (h : Bytes w a len l) : ∀ b, a = some b → ∀ j u, (cells8 l)[j]? = some u → w.cell? (b.add j) = some u := by
  intro b hb j u hu
  subst hb
  have hs := h.size
  have hj : j < l.length := by
    have := (List.getElem?_eq_some_iff.1 hu).1
    rwa [cells8_length] at this
  obtain ⟨b', o', e, _⟩ := h.cell j (by omega)
  cases e
  exact h.news j u hu

theorem owns_cap {w : World} {base e size g n cap : Nat} {xs : List Value} (h : w.ownsRow base e size (.slice (some ⟨g, 0, none⟩) n cap) n xs) : n ≤ cap := by
  rcases h.2 with ⟨h', _⟩ | ⟨g', cap', cur, hv, _, _, r, _⟩
  · cases h'
  · simp only [Value.slice.injEq, true_and] at hv
    omega
theorem all8_snoc {l : List Int} {c : Int} (h : Crc.All8 l) (h0 : 0 ≤ c) (h1 : c < 256) : Crc.All8 (l ++ [c]) := by
  intro x hx
  rcases List.mem_append.1 hx with hx | hx
  · exact h x hx
  · simp only [List.mem_singleton] at hx
    subst hx
    exact ⟨h0, h1⟩

theorem lists2 {w : World} {a b : Option Addr} {la ca lb cb : Nat} {xs ys : List Int} (ha : Bytes w a la xs) (hb : Bytes w b lb ys) :
    Lists (w.alloc (Obj.cells #[.slice a la ca, .slice b lb cb] 23)) (some ⟨w.heap.size, 0, none⟩) 2 [xs, ys] := by
  have hbel : Below w.heap.size w (w.alloc (Obj.cells #[.slice a la ca, .slice b lb cb] 23)) := (Below.refl _ w).alloc (Nat.le_refl _) _
  refine ⟨rfl, by unfold maxLen; omega, ?_⟩
  intro i hi
  rcases i with _ | _ | i
  · exact ⟨w.heap.size, 0, a, la, ca, rfl, by rw [World.cell?_alloc_mark]; rfl, ha.below hbel⟩
  · exact ⟨w.heap.size, 0, b, lb, cb, rfl, by rw [World.cell?_alloc_mark]; rfl, hb.below hbel⟩
  · omega
theorem Lists.drew {w : World} {a : Option Addr} {len : Nat} {ls : List (List Int)} (h : Lists w a len ls) : Lists w.drew a len ls := ⟨h.size, h.most, fun i hi => by
  obtain ⟨b, o, x, n, c, e, hx, hy⟩ := h.cell i hi
  exact ⟨b, o, x, n, c, e, hx, ⟨hy.size, hy.most, hy.cell, hy.byte⟩⟩⟩

theorem TabOk.heap {w w' : World} (h : TabOk w) (e : w'.heap = w.heap) : TabOk w' := by
  intro i hi
  rw [World.cell?_of_block (w := w) (by rw [e])]
  exact h i hi
theorem Bytes.heap {w w' : World} {a : Option Addr} {len : Nat} {l : List Int} (h : Bytes w a len l) (e : w'.heap = w.heap) : Bytes w' a len l := by
  refine ⟨h.size, h.most, ?_, h.byte⟩
  intro i hi
  obtain ⟨b, o, ea, hx⟩ := h.cell i hi
  exact ⟨b, o, ea, by rw [World.cell?_of_block (w := w) (by rw [e])]; exact hx⟩
theorem owns_heap {w w' : World} {base e size n : Nat} {v : Value} {xs : List Value} (h : w.ownsRow base e size v n xs) (eh : w'.heap = w.heap) : w'.ownsRow base e size v n xs := by
  unfold World.ownsRow at *
  rw [eh]
  exact h
theorem conv_any {w : World} {a : Option Addr} {len : Nat} {l : List Int} (h : Bytes w a len l) (cap : Nat) : (convert 23 9 (.slice a len cap)).run Tryd.prog w = .ok (.string (strOfNums l)) w := by
  have hs := h.size
  by_cases hz : len = 0
  · subst hz
    have hl : l = [] := List.length_eq_zero_iff.1 hs
    subst hl
    cases a with
    | none => exact run_convert_bytes_nil w 23 5 Tryd.underlying23 Tryd.underlying5 0 cap 9 Tryd.underlying9
    | some ad =>
      have hl : (loadCells ad 0).run Tryd.prog w = .ok (([] : List Int).map (Value.int .u8)).toArray w := run_loadCells_list (P := Tryd.prog) w ad [] (fun j v hj => by simp at hj)
      rw [run_convert_bytes_string w 23 9 5 _ 0 cap Tryd.underlying23 Tryd.underlying5 Tryd.underlying9, run_bytesToString w _ 0 cap [] hl]
      rfl
  · obtain ⟨b, o, rfl, _⟩ := h.cell 0 (by omega)
    refine run_convert_bytes_arg w 23 5 Tryd.underlying23 Tryd.underlying5 b o len cap l hs ?_ 9 Tryd.underlying9
    intro i hi
    obtain ⟨b', o', e, hx⟩ := h.cell i hi
    simp only [Option.some.injEq, Addr.mk.injEq, and_true] at e
    obtain ⟨rfl, rfl⟩ := e
    exact hx

theorem snoc_at {l : List Int} {n : Nat} (c : Int) (h : l.length = n) : (l ++ [c]).getD n 0 = c := by
  subst h
  simp [List.getD]

set_option maxHeartbeats 1000000 in
theorem keeps_walk (aa ab : Option Addr) (la ca lb cb : Nat) (xs ys : List Int) (w : World) (hc : TabOk w) (hla : la * 1 ≤ 140737488351232) (hlb : lb * 1 ≤ 140737488351232)
    (na : aa = none → la = 0 ∧ ca = 0) (nb : ab = none → lb = 0 ∧ cb = 0) (ha : Bytes w aa la xs) (hb : Bytes w ab lb ys) :
    Calls Tryd.prog 7 #[.slice aa la ca, .slice ab lb cb] w fun e w' => e = .returned (.bool true) ∧ Below w.heap.size w w' := by
  obtain ⟨i0, hi, hz0, hz1, hz2⟩ := info_parts info5
  have Hx : Hid (xs.length = la) := ha.size
  have Hy : Hid (ys.length = lb) := hb.size
  have Hna : Hid (aa = none → la = 0 ∧ ca = 0) := na
  have Hnb : Hid (ab = none → lb = 0 ∧ cb = 0) := nb
  clear na nb
  go_enter Tryd.func7, Tryd.ntmps7
  go_wp2_with fail
  refine (wakes_any _ hc).mono ?_
  rintro e w1 ⟨rfl, hw⟩
  have hsz1 : w.heap.size ≤ w1.heap.size := hw.size
  have hw1 : Below w.heap.size w (w1.alloc (Obj.cells #[] 5)) := hw.alloc hsz1 _
  have hown0 := World.ownsRow_lit (e := 5) (size := 1) w1 #[] 0 hsz1 (by unfold maxLen; omega) (by simp)
  go_wp2_with (at_builtin; refine append_all _ rfl _ _ 23 rfl w.heap.size 5 i0 (.int .u8 0) 1 1 Tryd.underlying23 hi hz0 hz1 hz2 rfl (by decide) _ 0 [] rfl hown0 aa la ca (cells8 xs) rfl ?c0 Hna.out ?c1 ?c2 ?c3 ?c4 ?c5 ?_)
  case c0 => rw [cells8_length, Hx.out]; omega
  case c1 => exact news_any (ha.below hw1)
  case c2 => exact cells8_one xs
  case c3 => unfold maxLen; omega
  case c4 => omega
  case c5 => simp; omega
  intro v2 w2 hown2 hgrow2
  have hw2 : Below w.heap.size w w2 := hw1.grown hgrow2 (by simp; omega) (fun k hk => (hown0.lt k hk).1)
  have hsz2 : w.heap.size ≤ w2.heap.size := hw2.size
  clear hgrow2 hw1 hown0 hw hsz1
  go_wp2_with (at_builtin; refine wpList_append_lies _ rfl _ _ 23 rfl w.heap.size 5 i0 (.int .u8 0) 1 1 Tryd.underlying23 hi hz0 hz1 hz2 rfl (by decide) _ la _ rfl (hown2.alloc _) ⟨w2.heap.size, 0, none⟩ 1 1 [.int .u8 7] rfl rfl (cell_one_new _ _ _) ?d2 (by omega) ?d3 ?d4 ?d5 _ rfl ?_)
  case d2 => intro u hu; simp at hu; subst hu; rfl
  case d3 => unfold maxLen; omega
  case d4 => omega
  case d5 => simp; omega
  intro gx cx w3 hownx hgrow3 _ hltx
  have hw3 : Below w.heap.size w w3 := (hw2.alloc hsz2 _).grown hgrow3 (by simp; omega) (fun k hk => (hown2.lt k hk).1)
  have hsz3 : w.heap.size ≤ w3.heap.size := hw3.size
  have hgx : w.heap.size ≤ gx := (hownx.lt gx rfl).1
  clear hgrow3 hw2 hsz2 hown2
  have hw3' : Below w3.heap.size w3 (w3.alloc (Obj.cells #[] 5)) := (Below.refl _ w3).alloc (Nat.le_refl _) _
  have hown3 := World.ownsRow_lit (e := 5) (size := 1) w3 #[] 0 (Nat.le_refl _) (by unfold maxLen; omega) (by simp)
  have hb4 := hb.below (hw3.trans (hw3'.mono hsz3))
  go_wp2_with (at_builtin; refine append_all _ rfl _ _ 23 rfl w3.heap.size 5 i0 (.int .u8 0) 1 1 Tryd.underlying23 hi hz0 hz1 hz2 rfl (by decide) _ 0 [] rfl hown3 ab lb cb (cells8 ys) rfl ?c0 Hnb.out ?c1 ?c2 ?c3 ?c4 ?c5 ?_)
  case c0 => rw [cells8_length, Hy.out]
  case c1 => exact news_any hb4
  case c2 => exact cells8_one ys
  case c3 => unfold maxLen; omega
  case c4 => omega
  intro v4 w4 hown4 hgrow4
  have hw4 : Below w3.heap.size w3 w4 := hw3'.grown hgrow4 (by simp) (fun k hk => (hown3.lt k hk).1)
  have hsz4 : w3.heap.size ≤ w4.heap.size := hw4.size
  clear hgrow4 hw3' hown3 hb4
  go_wp2_with (at_builtin; refine wpList_append_lies _ rfl _ _ 23 rfl w3.heap.size 5 i0 (.int .u8 0) 1 1 Tryd.underlying23 hi hz0 hz1 hz2 rfl (by decide) _ lb _ rfl (hown4.alloc _) ⟨w4.heap.size, 0, none⟩ 1 1 [.int .u8 8] rfl rfl (cell_one_new _ _ _) ?d2 (by omega) ?d3 ?d4 ?d5 _ rfl ?_)
  case d2 => intro u hu; simp at hu; subst hu; rfl
  case d3 => unfold maxLen; omega
  case d4 => omega
  case d5 => simp; omega
  intro gy cy w5 howny hgrow5 _ hlty
  have hw5' : Below w3.heap.size w3 w5 := (hw4.alloc hsz4 _).grown hgrow5 (by simp; omega) (fun k hk => (hown4.lt k hk).1)
  have hw5 : Below w.heap.size w w5 := hw3.trans (hw5'.mono hsz3)
  have hgy : w3.heap.size ≤ gy := (howny.lt gy rfl).1
  have hownx5 := owns_below hownx hw5' hltx
  have hcx : la + 1 ≤ cx := owns_cap hownx
  have hcy : lb + 1 ≤ cy := owns_cap howny
  have ex : cells8 xs ++ [Value.int IntKind.u8 7] = cells8 (xs ++ [7]) := by simp [cells8]
  have ey : cells8 ys ++ [Value.int IntKind.u8 8] = cells8 (ys ++ [8]) := by simp [cells8]
  rw [ex] at hownx5
  rw [ey] at howny
  have hxy : gx < gy := by omega
  clear hgrow5 hw4 hsz4 hown4 hownx hw5' hw3 ex ey
  have hbx : Bytes w5 (some ⟨gx, 0, none⟩) la xs := by
    have h := (bytes_of_owns hownx5 (by unfold maxLen; omega) (all8_snoc ha.all8 (by omega) (by omega))).take la (by omega)
    rwa [List.take_left' Hx.out] at h
  have hby : Bytes w5 (some ⟨gy, 0, none⟩) lb ys := by
    have h := (bytes_of_owns howny (by unfold maxLen; omega) (all8_snoc hb.all8 (by omega) (by omega))).take lb (by omega)
    rwa [List.take_left' Hy.out] at h
  have hax : (la : Int) ≤ (cx : Int) := by omega
  have hay : (lb : Int) ≤ (cy : Int) := by omega
  have ht5 := hc.below hw5
  have hL := lists2 (ca := cx) (cb := cy) hbx hby
  have hT : TabOk (w5.alloc (Obj.cells #[.slice (some ⟨gx, 0, none⟩) la cx, .slice (some ⟨gy, 0, none⟩) lb cy] 23)) := ht5.below ((Below.refl _ w5).alloc (Nat.le_refl _) _)
  go_wp2_with fail
  go_region_with (go_at_call 14; refine (parts_any _ _ _ [xs, ys] _ ?_ ?_).mono ?_; exact hT; exact hL.drew; rintro e w' ⟨rfl, rfl⟩)
  have hb6 : Below w.heap.size w (w5.alloc (Obj.cells #[.slice (some ⟨gx, 0, none⟩) la cx, .slice (some ⟨gy, 0, none⟩) lb cy] 23)).drew := (hw5.alloc hw5.size _).drew
  have hx6 := hbx.below ((Below.refl _ w5).alloc (Nat.le_refl _) (Obj.cells #[.slice (some ⟨gx, 0, none⟩) la cx, .slice (some ⟨gy, 0, none⟩) lb cy] 23)).drew
  have hy6 := hby.below ((Below.refl _ w5).alloc (Nat.le_refl _) (Obj.cells #[.slice (some ⟨gx, 0, none⟩) la cx, .slice (some ⟨gy, 0, none⟩) lb cy] 23)).drew
  have ho6 := owns_below hownx5 ((Below.refl w5.heap.size w5).alloc (Nat.le_refl _) (Obj.cells #[.slice (some ⟨gx, 0, none⟩) la cx, .slice (some ⟨gy, 0, none⟩) lb cy] 23)).drew (by have := (hownx5.lt gx rfl).2; omega)
  have hp6 := owns_below howny ((Below.refl w5.heap.size w5).alloc (Nat.le_refl _) (Obj.cells #[.slice (some ⟨gx, 0, none⟩) la cx, .slice (some ⟨gy, 0, none⟩) lb cy] 23)).drew hlty
  have ht6 : TabOk (w5.alloc (Obj.cells #[.slice (some ⟨gx, 0, none⟩) la cx, .slice (some ⟨gy, 0, none⟩) lb cy] 23)).drew := hT
  generalize (w5.alloc (Obj.cells #[.slice (some ⟨gx, 0, none⟩) la cx, .slice (some ⟨gy, 0, none⟩) lb cy] 23)).drew = w6 at *
  clear hT hL hbx hby hownx5 howny ht5
  go_wp2_with fail
  go_quiet (first
    | (go_at_call_of 12 (Value.slice (some ⟨gx, 0, none⟩) la cx); refine Calls.quiet_of_same (sum_any _ _ _ xs _ ?_ ?_); exact ht6.heap rfl; exact hx6.heap rfl)
    | (go_at_call_of 10 (Value.slice (some ⟨gy, 0, none⟩) lb cy); refine Calls.quiet_of_same (add_any _ _ _ _ ys _ ?_ ?_ ?_ ?_); exact (Crc.add_range _ _).1; exact (Crc.add_range _ _).2; exact ht6.heap rfl; exact hy6.heap rfl))
  have hb7 : Below w.heap.size w (w6.drewN nq) := below_drewN hb6 nq
  have hx7 : Bytes (w6.drewN nq) _ _ _ := hx6.heap rfl
  have hy7 : Bytes (w6.drewN nq) _ _ _ := hy6.heap rfl
  have ho7 : (w6.drewN nq).ownsRow _ _ _ _ _ _ := owns_heap ho6 rfl
  have hp7 : (w6.drewN nq).ownsRow _ _ _ _ _ _ := owns_heap hp6 rfl
  generalize w6.drewN nq = w7 at *
  rw [← Crc.add_append]
  clear hx6 hy6 ho6 hp6 hb6 ht6
  have cx7 : w7.cell? ⟨gx, la, none⟩ = some (.int .u8 7) := by
    rw [ho7.cellAt la (by omega), cells8_at _ _ (by simp [Hx.out]), snoc_at 7 Hx.out]
  have cy7 : w7.cell? ⟨gy, lb, none⟩ = some (.int .u8 8) := by
    rw [hp7.cellAt lb (by omega), cells8_at _ _ (by simp [Hy.out]), snoc_at 8 Hy.out]
  have va1 : ∀ n, (convert 23 9 (.slice (some ⟨gx, 0, none⟩) la cx)).run Tryd.prog (w7.drewN n) = .ok (.string (strOfNums xs)) (w7.drewN n) := fun n => conv_any (w := w7.drewN n) (hx7.heap rfl) cx
  have va2 : ∀ n, (convert 23 9 (.slice aa la ca)).run Tryd.prog (w7.drewN n) = .ok (.string (strOfNums xs)) (w7.drewN n) := fun n => conv_any (w := w7.drewN n) ((ha.below hb7).heap rfl) ca
  have vb1 : ∀ n, (convert 23 9 (.slice (some ⟨gy, 0, none⟩) lb cy)).run Tryd.prog (w7.drewN n) = .ok (.string (strOfNums ys)) (w7.drewN n) := fun n => conv_any (w := w7.drewN n) (hy7.heap rfl) cy
  have vb2 : ∀ n, (convert 23 9 (.slice ab lb cb)).run Tryd.prog (w7.drewN n) = .ok (.string (strOfNums ys)) (w7.drewN n) := fun n => conv_any (w := w7.drewN n) ((hb.below hb7).heap rfl) cb
  generalize strOfNums xs = S at *
  generalize strOfNums ys = S' at *
  have hlx : (la : Int) < ((la + 1 : Nat) : Int) := by omega
  have hly : (lb : Int) < ((lb + 1 : Nat) : Int) := by omega
  go_wp2_with fail
  go_quiet (fail)
  have hb8 : Below w.heap.size w (w7.drewN nq) := below_drewN hb7 nq
  have ho8 : (w7.drewN nq).ownsRow _ _ _ _ _ _ := owns_heap ho7 rfl
  generalize w7.drewN nq = w8 at *
  clear va1 va2 vb1 vb2 cx7 cy7 hx7 hy7 ho7 hp7 hb7 hlx hly
  go_wp2_with fail
  go_loopw [9, 78] (fun _ ix wr => ∃ (k : Nat) (L : List Value), k ≤ la + 1 ∧ ix = .int .i64 k ∧ wr.ownsRow w.heap.size 5 1 (.slice (some ⟨gx, 0, none⟩) (la + 1) cx) (la + 1) L ∧ Below w.heap.size w wr) (fun _ ix _ => la + 1 - (intOf ix).toNat)
  case atStart => exact ⟨0, _, by omega, rfl, ho8, hb8⟩
  case round =>
    obtain ⟨k, L, hk, rfl, hown, hwr⟩ := hrel
    by_cases hkl : k < la + 1
    · have hkl' : (k : Int) < (la : Int) + 1 := by omega
      have hfr := hown.frozenAt k
      obtain ⟨v, hv⟩ : ∃ v, wr.cell? ⟨gx, k, none⟩ = some v := by
        have hL := hown.1
        rw [hown.cellAt k (by omega), List.getElem?_eq_getElem (by omega)]
        exact ⟨_, rfl⟩
      have ho9 := (hown.stored k (.int .u8 3)).1
      have hb9 : Below w.heap.size w (wr.setCell ⟨gx, k, none⟩ (.int .u8 3)) := hwr.setCell hgx _
      go_wp2_with fail
      exact ⟨⟨k + 1, _, by omega, by go_num, ho9, hb9⟩, by simp [intOf]; omega⟩
    · have hkl' : ¬ (k : Int) < (la : Int) + 1 := by omega
      have hL := lists2 (ca := ca) (cb := cb) (ha.below hwr) (hb.below hwr)
      have hB : Below w.heap.size w (wr.alloc (Obj.cells #[.slice aa la ca, .slice ab lb cb] 23)) := hwr.alloc hwr.size _
      have hT := hc.below hB
      go_wp2_with fail
      refine (parts_any _ _ _ [xs, ys] _ hT hL).mono ?_
      rintro e w' ⟨rfl, rfl⟩
      have ef : [xs, ys].flatten = xs ++ ys := by simp
      rw [ef]
      go_wp2_with fail
      go_ret
      exact ⟨by simp, hB⟩
theorem row_nil {k : IntKind} {w : World} {a : Option Addr} {len cap : Nat} {zs : List Int} (h : IsRow k w a len cap zs) : a = none → len = 0 ∧ cap = 0 := by
  intro hn
  rcases h with ⟨_, h1, h2, _⟩ | ⟨x, h, _⟩
  · exact ⟨h1, h2⟩
  · rw [hn] at h; cases h
end Go.Proofs.YtpplhafbmcgahaaDoor
