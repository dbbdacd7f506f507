import Derived.Test.YtifebbdjdllfpaaGreatDoorPsD
import Derived.Test.YtifebbdjdllfpaaGreatDoorPlA
/- Blocks: the parser's reading. -/
namespace Go.Proofs.YtifebbdjdllfpaaGreatDoor
open Go.RowKit
set_option linter.unusedSimpArgs false
set_option linter.unusedVariables false

theorem stmtInfo : (Tryz.prog.info? 41).map (fun i => (i.zero, i.size, i.bytes)) = some (some (sV 0 [] (.slice none 0 0) (.slice none 0 0) (.slice none 0 0) 0), 9, 128) := by kernel_rfl
mutual
theorem IsSt.plow {B B' : Nat → Prop} {w : World} (hb : ∀ k, B k → k < w.heap.size → B' k) : ∀ {e : Px.St} {cs : List Value}, IsSt B w e cs → IsSt B' w e cs
  | .mk k n es b c p, cs, h => by
    rw [IsSt] at h ⊢
    obtain ⟨s1, s2, s3, r1, r2, r3, hc, a1, a2, a3, a4, a5, a6⟩ := h
    exact ⟨s1, s2, s3, r1, r2, r3, hc, plow hb a1, a2.plow hb, plow hb a3, AllSt.plow hb a4, plow hb a5, AllSt.plow hb a6⟩
theorem AllSt.plow {B B' : Nat → Prop} {w : World} (hb : ∀ k, B k → k < w.heap.size → B' k) : ∀ {l : List Px.St} {cs : List Value}, AllSt B w l cs → AllSt B' w l cs
  | [], cs, h => by rw [AllSt] at h ⊢; exact h
  | e :: r, cs, h => by
    rw [AllSt] at h ⊢
    obtain ⟨c1, c2, hc, h1, h2⟩ := h
    exact ⟨c1, c2, hc, IsSt.plow hb h1, AllSt.plow hb h2⟩
end
/-- A list of statements that is being gathered. -/
def GathS (m : Nat) (w : World) (sl : Value) (acc : List Px.St) : Prop := ∃ row, w.ownsRow m 41 9 sl acc.length row ∧ AllSt (fun k => m ≤ k ∧ sl.ownBlock ≠ some k) w acc row
theorem GathS.nil (m : Nat) (w : World) : GathS m w (.slice none 0 0) [] := ⟨[], ⟨rfl, Or.inl ⟨rfl, rfl⟩⟩, by rw [AllSt]⟩
theorem GathS.fo {b m : Nat} {w w' : World} {sl : Value} {acc : List Px.St} (h : GathS m w sl acc) (f : Fo b w.heap.size w w') (hb : b < m) : GathS m w' sl acc := by
  obtain ⟨row, h1, h2⟩ := h
  exact ⟨row, owns_fo h1 f hb, h2.since (f.sinceB (fun hh => by omega))⟩
theorem GathS.sts {m : Nat} {w : World} {sl : Value} {acc : List Px.St} {B : Nat → Prop} (h : GathS m w sl acc) (hB : ∀ k, m ≤ k → k < w.heap.size → B k) : IsSts B w acc sl := by
  obtain ⟨row, h1, h2⟩ := h
  exact ⟨row, owns_slrow h1 hB, h2.plow (fun k hk hl => hB k hk.1 hl)⟩
/-- One statement more: gathered. -/
theorem gathS_snoc {w4 w5 : World} {m g cap4 : Nat} {sl : Value} {acc : List Px.St} {row cs : List Value} {x : Px.St} (hown4 : w4.ownsRow m 41 9 sl acc.length row) (hall : AllSt (fun k => m ≤ k ∧ sl.ownBlock ≠ some k) w4 acc row) (hx : IsSt (fun k => m ≤ k ∧ sl.ownBlock ≠ some k) w4 x cs)
    (hG : Grew w4 w5 sl g) (hown5 : w5.ownsRow m 41 9 (.slice (some ⟨g, 0, none⟩) (acc.length + 1) cap4) (acc.length + 1) (row ++ cs)) : GathS m w5 (.slice (some ⟨g, 0, none⟩) (acc.length + 1) cap4) (acc ++ [x]) := by
  have hne : ∀ k, m ≤ k ∧ sl.ownBlock ≠ some k → k < w4.heap.size → k ≠ g := by
    intro k hk hl he
    subst he
    rcases hG.place with h | h
    · exact hk.2 h
    · omega
  have hlow : ∀ k, (m ≤ k ∧ sl.ownBlock ≠ some k) → k < w4.heap.size → m ≤ k ∧ (Value.slice (some ⟨g, 0, none⟩) (acc.length + 1) cap4).ownBlock ≠ some k ∧ (m ≤ k ∧ sl.ownBlock ≠ some k) := fun k h1 h2 => ⟨h1.1, fun e => hne k h1 h2 (by simpa [Value.ownBlock] using e.symm), h1⟩
  have hsince : Since (fun k => m ≤ k ∧ (Value.slice (some ⟨g, 0, none⟩) (acc.length + 1) cap4).ownBlock ≠ some k ∧ (m ≤ k ∧ sl.ownBlock ≠ some k)) w4 w5 := ⟨hG.size, fun k h1 h2 => hG.block k h2 (fun e => h1.2.2.2 e.symm)⟩
  exact ⟨row ++ cs, by simpa using hown5, ((hall.plow hlow).since hsince |>.base (fun k h => ⟨h.1, h.2.1⟩)).snoc ((hx.plow hlow).since hsince |>.base (fun k h => ⟨h.1, h.2.1⟩))⟩
theorem stmts_fuel {q : Px.P Px.St} (hq : Px.Ok q) : ∀ (f g : Nat) (acc : List Px.St) (l : List Lx.Tok), Px.Good l → l.length < f → l.length < g → Px.stmts q f acc l = Px.stmts q g acc l
  | 0, _, _, _, _, h, _ => by omega
  | _, 0, _, _, _, _, h => by omega
  | f + 1, g + 1, acc, l, hg, h1, h2 => by
    simp only [Px.stmts]
    split
    · rfl
    · refine Px.bind_congr fun s l1 e1 => ?_
      have a1 := (hq l hg).ok s l1 e1
      have := a1.less
      exact stmts_fuel hq f g _ l1 a1.good (by omega) (by omega)

set_option maxRecDepth 100000 in
set_option maxHeartbeats 8000000 in
theorem pblock_step {d : Nat} {q : Px.P Px.St} (hok : Px.Ok q) (hst : StmtOk d q) (b ga : Nat) (l : List Lx.Tok) (w : World) (h : Ps b ga l w) :
    Calls Tryz.prog 83 #[.pointer (some ⟨b, 0, none⟩), .int .i64 d] w fun e w' => PPost b ga w (Px.bind (Px.need [123] l) fun _ l1 => Px.stmts q (l1.length + 1) [] l1) (fun x v w' => IsSts (From w.heap.size) w' x v) e w' := by
  obtain ⟨i0, hi0, hz0, hz1, hz2⟩ := info_parts stmtInfo
  obtain ⟨res, hres⟩ : ∃ res, Aside (res = Px.bind (Px.need [123] l) fun _ l1 => Px.stmts q (l1.length + 1) [] l1) := ⟨_, rfl⟩
  rw [← hres.out]
  have hbt := h.there
  have hgt := h.gl
  go_enter Tryz.func83, Tryz.ntmps83
  go_wp2_with fail
  refine (pneed_any h 4 [123] (by decide) (by decide)).mono ?_
  rcases hq : Px.need [123] l with ⟨u, l1⟩ | ⟨a, er⟩
  rotate_left
  · rw [show Px.needK 4 [123] l = _ from hq]
    rintro e w1 ⟨rfl, hf1⟩
    refine ⟨rfl, ?_⟩
    rw [hres.out, hq]
    exact ⟨rfl, hf1⟩
  rw [show Px.needK 4 [123] l = _ from hq]
  rintro e w1 ⟨v, rfl, rfl, h1, hf1⟩
  replace hres : Aside (res = Px.stmts q (l1.length + 1) [] l1) := by
    show _ = _
    rw [hres.out, hq]; rfl
  have hfew := h1.few
  clear hq
  go_wp2_with fail
  go_loopg [5] (l1.length + 1) (fun m v wr => ∃ (acc : List Px.St) (l4 : List Lx.Tok), m = l4.length + 1 ∧ Ps b ga l4 wr ∧ GathS w.heap.size wr v acc ∧ Fo b w.heap.size w wr ∧ acc.length + l4.length ≤ 4096 ∧ Aside (res = Px.stmts q (l4.length + 1) acc l4))
  case atStart => exact ⟨[], l1, rfl, h1, GathS.nil _ _, hf1, by simpa using hfew, hres⟩
  case round =>
    clear hres h1 hf1 hfew
    obtain ⟨acc, l4, rfl, h4, hg4, hF4, hal, hres⟩ := hrel
    have hz4 := hF4.size
    rcases hs : Px.sees 4 [125] l4 with _ | _
    · replace hres : Aside (res = Px.bind (q l4) fun s l1 => Px.stmts q l4.length (acc ++ [s]) l1) := by
        show _ = _
        rw [hres.out]
        simp only [Px.stmts]
        rw [if_neg (by rw [hs]; simp)]
      go_wp2_with fail
      refine (ptakes_no h4 [125] hs).mono ?_
      rintro e w5 ⟨rfl, h5, hb5⟩
      have hg5 := hg4.fo (Fo.of_below (b := b) hb5) hbt
      have hF5 := hF4.below hb5 hz4
      have hz5 := hF5.size
      clear hs h4 hg4 hF4 hb5
      have hC := hst b ga l4 w5 h5
      go_wp2_with fail
      refine hC.mono ?_
      rcases hq : q l4 with ⟨s, l6⟩ | ⟨a, er⟩
      rotate_left
      · rintro e w6 ⟨rfl, hf6⟩
        refine ⟨rfl, ?_⟩
        rw [hres.out, hq]
        exact ⟨rfl, hF5.call hf6 hz5⟩
      rintro e w6 ⟨v, rfl, ⟨k, nm, a1, n1, c1, a2, n2, c2, a3, n3, c3, pl, rfl, hx⟩, h6, hf6⟩
      have hgd := ((hok l4 h5.good).ok s l6 hq).good
      have hle := ((hok l4 h5.good).ok s l6 hq).less
      replace hres : Aside (res = Px.stmts q (l6.length + 1) (acc ++ [s]) l6) := by
        show _ = _
        rw [hres.out, hq]
        exact stmts_fuel hok _ _ _ _ hgd (by omega) (by omega)
      obtain ⟨row, hown5, hall5⟩ := hg5
      have hown6 := owns_fo hown5 hf6 hbt
      have hall6 := hall5.since (hf6.sinceB (fun hh => by omega))
      have hx6 := hx.plow (B' := fun k => w.heap.size ≤ k ∧ u5.ownBlock ≠ some k) (fun k hk _ => ⟨by have : w5.heap.size ≤ k := hk; omega, fun e => by have := (hown5.lt k e).2; have : w5.heap.size ≤ k := hk; omega⟩)
      have hF6 := hF5.call hf6 hz5
      have hz6 := hF6.size
      obtain ⟨ao, cap, rfl⟩ := slice_of hown6
      clear hC hq hx hown5 hall5 hf6 h5 hF5
      go_wp2_with (at_builtin; refine wpList_append_lies _ rfl _ _ 36 rfl w.heap.size 41 i0 _ 9 128 Tryz.underlying36 hi0 hz0 hz1 hz2 rfl (by decide) _ acc.length row rfl (hown6.alloc _) ⟨w6.heap.size, 0, none⟩ 1 1 (sL k nm (.slice a1 n1 c1) (.slice a2 n2 c2) (.slice a3 n3 c3) pl) rfl rfl (World.news_of_block (heap_new w6 _)) ?c1 (by decide) ?c3 ?c4 ?c5 (w6.heap.size + 1) ?c6 ?_)
      case c1 => simp [Value.oneCell']
      case c3 => unfold maxLen; omega
      case c4 => omega
      case c5 => simp; omega
      case c6 => simp
      intro g cap7 w7 hown7 hgrow hat hlt7
      have hG := grewB hgrow hat
      have hg7 := gathS_snoc hown6 hall6 hx6 hG hown7
      have far : ∀ j, j < w.heap.size → w7.heap[j]? = w6.heap[j]? := fun j hj => hG.block j (by omega) (fun e => by have := (hown6.lt j e.symm).1; omega)
      have h7 : Ps b ga l6 w7 := h6.keep (far b hbt) (far ga hgt) hG.size
      have hF7 : Fo b w.heap.size w w7 := hF6.trans ⟨hG.os, hG.tape, hG.output, hG.size, fun j hj _ => far j hj⟩
      clear hown6 hall6 hx6 hgrow hat hown7 hG far
      go_wp2
      go_roundg (l6.length + 1)
      case measure => omega
      case rel => exact ⟨acc ++ [s], l6, rfl, h7, hg7, hF7, by simp; omega, hres⟩
    · replace hres : Aside (res = .inl (acc, l4.tail)) := by
        show _ = _
        rw [hres.out]
        simp only [Px.stmts]
        rw [if_pos hs]
      go_wp2_with fail
      refine (ptakes_yes h4 [125] (by decide) hs).mono ?_
      rintro e w5 ⟨rfl, h5, hf5⟩
      have hg5 := hg4.fo hf5 hbt
      have hF5 := hF4.call hf5 hz4
      obtain ⟨row, hown5, hall5⟩ := id hg5
      obtain ⟨ao, cap, rfl⟩ := slice_of hown5
      clear hs h4 hg4 hF4 hf5 hown5 hall5
      go_wp2
      go_ret
      rw [hres.out]
      exact ⟨_, rfl, hg5.sts (fun k hk _ => hk), h5, hF5⟩
/-- A block, d deep. -/
theorem pblock_any : ∀ (k d : Nat), d + (k + 1) = 25 → BlockOk d (Px.block (k + 1))
  | k, d, hd => by
    intro b ga l w h
    rw [Px.block_as h.good]
    refine pblock_step (Px.stmt'_ok k) (pstmt_any hd (pexpr_deep k (d + 1) (by omega)) (fun hk => ?_)) b ga l w h
    match k, hk with
    | k + 1, _ => exact pblock_any k (d + 1) (by omega)
end Go.Proofs.YtifebbdjdllfpaaGreatDoor
/- Functions: the parser's reading. -/
namespace Go.Proofs.YtifebbdjdllfpaaGreatDoor
open Go.RowKit
set_option linter.unusedSimpArgs false
set_option linter.unusedVariables false

theorem eParam (args : Array Value) (w : World) : (callFunc 82 args).run Tryz.prog w = .ok (.enter 82 args) w := enters_of Tryz.func82 (by kernel_rfl) rfl args w
abbrev zeroF : Obj := fnObj [] false (.slice none 0 0) [] (.slice none 0 0) 0
abbrev fV (nm : Lx.B) (on : Bool) (ps : Value) (y : Lx.B) (bs : Value) (pl : Nat) : Value := .agg #[.string ⟨nm.toArray⟩, .bool on, ps, .string ⟨y.toArray⟩, .slice none 0 0, bs, .int .i64 pl]
abbrev fL (nm : Lx.B) (on : Bool) (ps : Value) (y : Lx.B) (bs : Value) (pl : Nat) : List Value := [.string ⟨nm.toArray⟩, .bool on, ps, .string ⟨y.toArray⟩, .slice none 0 0, bs, .int .i64 pl]
abbrev fS (w : World) (g : Nat) (nm : Lx.B) (on : Bool) (ps : Value) (y : Lx.B) (bs : Value) (pl : Nat) : World := w7 w g (.string ⟨nm.toArray⟩) (.bool on) ps (.string ⟨y.toArray⟩) (.slice none 0 0) bs (.int .i64 pl)
/-- A function's value. -/
def FnV (B : Nat → Prop) (w : World) (f : Px.Fn) (v : Value) : Prop := ∃ nm on a1 n1 c1 y a2 n2 c2 pl, v = fV nm on (.slice a1 n1 c1) y (.slice a2 n2 c2) pl ∧ IsFn B w f (fL nm on (.slice a1 n1 c1) y (.slice a2 n2 c2) pl)
abbrev twoB (w : World) (b : Nat) : World := (w.alloc (ptrObj b)).alloc zeroF
theorem twoB_ptr (w : World) (b : Nat) : (twoB w b).heap[w.heap.size]? = some (ptrObj b) := by
  rw [heap_old (by simp)]; exact heap_new w _
theorem twoB_out (w : World) (b : Nat) : (twoB w b).heap[w.heap.size + 1]? = some zeroF := by
  have := heap_new (w.alloc (ptrObj b)) zeroF
  simpa using this
theorem twoB_size (w : World) (b : Nat) : (twoB w b).heap.size = w.heap.size + 2 := by simp
theorem twoB_below (w : World) (b : Nat) : Below w.heap.size w (twoB w b) := ((Below.refl _ _).alloc (Nat.le_refl _) _).alloc (by simp) _
theorem function_as (on : Bool) (l : List Lx.Tok) : Px.function on l = Px.bind (Px.name l) fun t l1 => Px.bind (Px.bind (Px.need [40] l1) fun _ l2 => Px.items Px.slot (l2.length + 1) 0 [] l2) fun ps l3 => Px.bind (Px.need [58] l3) fun _ l4 => Px.bind (Px.typ 4 l4) fun y l5 => Px.bind (Px.block 24 l5) fun b l6 => .inl (⟨t.text, on, ps, y, b, t.place⟩, l6) := by
  simp only [Px.function, bind_assoc]
set_option maxRecDepth 100000 in
set_option maxHeartbeats 8000000 in
theorem pfunction_any (on : Bool) (b ga : Nat) (l : List Lx.Tok) (w : World) (h : Ps b ga l w) :
    Calls Tryz.prog 55 #[.pointer (some ⟨b, 0, none⟩), .bool on] w fun e w' => PPost b ga w (Px.function on l) (fun x v w' => FnV (From w.heap.size) w' x v) e w' := by
  have hblk := pblock_any 23 1 (by decide)
  obtain ⟨res, hres⟩ : ∃ res, Aside (res = Px.function on l) := ⟨_, rfl⟩
  rw [← hres.out]
  replace hres : Aside (res = _) := hres.out.trans (function_as on l)
  have hmf : ∀ (fn : Fn) (first cap : Array Value) (w : World), (Instr.makeFunc fn first cap).run Tryz.prog w = .ok (.func fn first cap) w := fun _ _ _ _ => rfl
  have hbt := h.there
  have hgt := h.gl
  have hB0 := twoB_below w b
  have h0 := h.below hB0
  have p0 := twoB_ptr w b
  have o0 := twoB_out w b
  have z0 := twoB_size w b
  have hF0 : Fo b w.heap.size w (twoB w b) := Fo.of_below hB0
  have c0 := cell_of_one p0
  go_enter Tryz.func55, Tryz.ntmps55
  go_upto_region 1 with fail
  generalize hw0 : (w.alloc (ptrObj b)).alloc zeroF = w0
  replace hw0 : twoB w b = w0 := hw0
  rw [hw0] at hB0 h0 p0 o0 z0 hF0 c0
  clear hw0
  have hwg : w.heap.size < w0.heap.size := by omega
  go_wp2_with fail
  refine (pname_any h0).mono ?_
  rcases hq : Px.name l with ⟨t, l1⟩ | ⟨a, er⟩
  rotate_left
  · rintro r w1 ⟨rfl, hf1⟩
    refine ⟨rfl, ?_⟩
    rw [hres.out, hq]
    exact ⟨rfl, hF0.call hf1 hF0.size⟩
  rintro r w1 ⟨v, rfl, rfl, h1, hf1⟩
  replace hres : Aside (res = Px.bind (Px.bind (Px.need [40] l1) fun _ l2 => Px.items Px.slot (l2.length + 1) 0 [] l2) fun ps l3 => Px.bind (Px.need [58] l3) fun _ l4 => Px.bind (Px.typ 4 l4) fun y l5 => Px.bind (Px.block 24 l5) fun b l6 => .inl (⟨t.text, on, ps, y, b, t.place⟩, l6)) := by
    show _ = _
    rw [hres.out, hq]; rfl
  have p1 := (hf1.block _ (by omega) (by omega)).trans p0
  have o1 := (hf1.block _ (by omega) (by omega)).trans o0
  have hF1 := hF0.call hf1 hF0.size
  have hz1 := hf1.size
  have hB3 : Below w1.heap.size w1 ((w1.alloc (tokB t)).alloc (fnObj t.text on (.slice none 0 0) [] (.slice none 0 0) t.place)) := ((Below.refl _ _).alloc (Nat.le_refl _) _).alloc (by simp) _
  have h3 := h1.below hB3
  have p3 := (hB3.block _ (by omega)).trans p1
  have o3 := (hB3.block _ (by omega)).trans o1
  have hF3 := hF1.below hB3 (by omega)
  have x3 : ((w1.alloc (tokB t)).alloc (fnObj t.text on (.slice none 0 0) [] (.slice none 0 0) t.place)).heap[w1.heap.size + 1]? = some (fnObj t.text on (.slice none 0 0) [] (.slice none 0 0) t.place) := by
    have := heap_new (w1.alloc (tokB t)) (fnObj t.text on (.slice none 0 0) [] (.slice none 0 0) t.place)
    simpa using this
  have z3 : ((w1.alloc (tokB t)).alloc (fnObj t.text on (.slice none 0 0) [] (.slice none 0 0) t.place)).heap.size = w1.heap.size + 2 := by simp
  clear hq p0 o0 c0 hF0 h0 hf1 p1 o1 hF1 h1
  go_upto_region 3 with fail
  generalize (w1.alloc (tokB t)).alloc (fnObj t.text on (.slice none 0 0) [] (.slice none 0 0) t.place) = w3 at *
  obtain ⟨gf, hgf⟩ : ∃ gf, gf = w1.heap.size + 1 := ⟨_, rfl⟩
  rw [← hgf] at x3 ⊢
  have hgl : gf < w3.heap.size := by omega
  have hgw : w.heap.size + 2 < gf := by omega
  have c3 := cell_of_one p3
  have hz3 : w.heap.size + 3 < w3.heap.size := by omega
  clear hB3 hgf z3 hz1
  have hA : FnBox b w.heap.size gf t.text on t.place [] w3 := ⟨p3, _, x3, ⟨rfl, Or.inl ⟨rfl, rfl⟩⟩⟩
  have hL := plisted_any (n := gf) (K := 82) (caps := #[.pointer (some ⟨gf, 0, none⟩), .pointer (some ⟨w.heap.size, 0, none⟩)]) (Inv := fun acc w' => FnBox b w.heap.size gf t.text on t.place acc w') h3 (by omega) Px.slot_ok eParam
    (fun acc la wa ha hia hna hla => pparam_any (by omega) (by omega) (by omega) (Nat.le_refl _) acc la wa ha hia hna hla)
    (fun acc wa wb hia hf => hia.fo hf (by omega) (by omega)) hA
  clear hA x3
  go_wp2_with fail
  refine hL.mono ?_
  rcases hq : (Px.bind (Px.need [40] l1) fun _ l2 => Px.items Px.slot (l2.length + 1) 0 [] l2) with ⟨ps, l2⟩ | ⟨a, er⟩
  rotate_left
  · rintro r w4 ⟨rfl, hf4⟩
    refine ⟨rfl, ?_⟩
    rw [hres.out, hq]
    exact ⟨rfl, hF3.trans (hf4.mono (by omega))⟩
  rintro r w4 ⟨rfl, hA4, h4, hf4⟩
  replace hres : Aside (res = Px.bind (Px.need [58] l2) fun _ l4 => Px.bind (Px.typ 4 l4) fun y l5 => Px.bind (Px.block 24 l5) fun b l6 => .inl (⟨t.text, on, ps, y, b, t.place⟩, l6)) := by
    show _ = _
    rw [hres.out, hq]; rfl
  have o4 := (hf4.block _ (by omega) (by omega)).trans o3
  have hF4 : Fo b w.heap.size w w4 := hF3.trans (hf4.mono (by omega))
  obtain ⟨p4, sl, x4, own4⟩ := hA4
  obtain ⟨ao, ac, rfl⟩ := slice_of own4
  have c4 := cell_of_one p4
  have hz4 := hf4.size
  clear hq hL hf4 o3 hF3 p3 c3 h3
  go_wp2_with fail
  refine (pneed_any h4 4 [58] (by decide) (by decide)).mono ?_
  rcases hq : Px.need [58] l2 with ⟨u, l3⟩ | ⟨a, er⟩
  rotate_left
  · rw [show Px.needK 4 [58] l2 = _ from hq]
    rintro r w5 ⟨rfl, hf5⟩
    refine ⟨rfl, ?_⟩
    rw [hres.out, hq]
    exact ⟨rfl, hF4.call hf5 hF4.size⟩
  rw [show Px.needK 4 [58] l2 = _ from hq]
  rintro r w5 ⟨v, rfl, rfl, h5, hf5⟩
  replace hres : Aside (res = Px.bind (Px.typ 4 l3) fun y l5 => Px.bind (Px.block 24 l5) fun b l6 => .inl (⟨t.text, on, ps, y, b, t.place⟩, l6)) := by
    show _ = _
    rw [hres.out, hq]; rfl
  have o5 := (hf5.block _ (by omega) (by omega)).trans o4
  have p5 := (hf5.block _ (by omega) (by omega)).trans p4
  have x5 := (hf5.block _ (by omega) (by omega)).trans x4
  have own5 := owns_fo own4 hf5 (by omega)
  have hF5 := hF4.call hf5 hF4.size
  have c5 := cell_of_one p5
  have hz5 := hf5.size
  clear hq hf5 o4 p4 x4 own4 hF4 c4 h4
  go_wp2_with fail
  refine (show Calls Tryz.prog 80 #[.pointer (some ⟨b, 0, none⟩), .int .i64 1] w5 _ from ptype_any 4 1 b ga l3 w5 (by decide) h5).mono ?_
  rcases hq : Px.typ 4 l3 with ⟨y, l4⟩ | ⟨a, er⟩
  rotate_left
  · rintro r w6 ⟨rfl, hf6⟩
    refine ⟨rfl, ?_⟩
    rw [hres.out, hq]
    exact ⟨rfl, hF5.call hf6 hF5.size⟩
  rintro r w6 ⟨v, rfl, rfl, h6, hf6⟩
  replace hres : Aside (res = Px.bind (Px.block 24 l4) fun b l6 => .inl (⟨t.text, on, ps, y, b, t.place⟩, l6)) := by
    show _ = _
    rw [hres.out, hq]; rfl
  have o6 := (hf6.block _ (by omega) (by omega)).trans o5
  have p6 := (hf6.block _ (by omega) (by omega)).trans p5
  have x6 := (hf6.block _ (by omega) (by omega)).trans x5
  have own6 := owns_fo own5 hf6 (by omega)
  have hF6 := hF5.call hf6 hF5.size
  have hz6 := hf6.size
  clear hq hf6 o5 p5 x5 own5 hF5 c5 h5
  -- the result's type is stored
  have x7 : (w6.setCell ⟨gf, 3, none⟩ (.string ⟨y.toArray⟩)).heap[gf]? = some (fnObj t.text on (.slice ao ps.length ac) y (.slice none 0 0) t.place) := by simp [World.setCell, Array.getElem?_modify, x6]
  have oth7 : ∀ j, j ≠ gf → (w6.setCell ⟨gf, 3, none⟩ (.string ⟨y.toArray⟩)).heap[j]? = w6.heap[j]? := fun j hj => Below.heap_setCell _ _ _ _ hj
  have h7 := h6.other (g := gf) 3 (.string ⟨y.toArray⟩) (by omega) (by omega)
  have o7 := (oth7 (w.heap.size + 1) (by omega)).trans o6
  have p7 := (oth7 w.heap.size (by omega)).trans p6
  have own7 := ownsRow_setCell_below own6 (a := ⟨gf, 3, none⟩) (by show gf < gf + 1; omega) (.string ⟨y.toArray⟩)
  have hF7 := hF6.fresh (g := gf) (by omega) 3 (.string ⟨y.toArray⟩)
  have z7 : (w6.setCell ⟨gf, 3, none⟩ (.string ⟨y.toArray⟩)).heap.size = w6.heap.size := by simp [World.setCell]
  have c63 := (cells_of7 x6).2.2.2.1
  have f63 := (cells_of7 x6).2.2.2.2.2.2.2.2.2.2.1
  have hg6 : gf < w6.heap.size := by omega
  have c7 := cell_of_one p7
  go_upto_region 6 with fail
  generalize w6.setCell ⟨gf, 3, none⟩ (.string ⟨y.toArray⟩) = w7s at *
  clear oth7 o6 p6 x6 own6 hF6 h6 c63 f63
  go_wp2_with fail
  refine (show Calls Tryz.prog 83 #[.pointer (some ⟨b, 0, none⟩), .int .i64 1] w7s _ from hblk b ga l4 w7s h7).mono ?_
  rcases hq : Px.block (23 + 1) l4 with ⟨body, l5⟩ | ⟨a, er⟩
  rotate_left
  · rintro r w8s ⟨rfl, hf8⟩
    refine ⟨rfl, ?_⟩
    rw [hres.out, show Px.block 24 l4 = _ from hq]
    exact ⟨rfl, hF7.call hf8 hF7.size⟩
  rintro r w8s ⟨v, rfl, hv8, h8, hf8⟩
  obtain ⟨a2, n2, c2, rfl⟩ := hv8.slc
  replace hres : Aside (res = .inl (⟨t.text, on, ps, y, body, t.place⟩, l5)) := by
    show _ = _
    rw [hres.out, show Px.block 24 l4 = _ from hq]; rfl
  have o8 := (hf8.block _ (by omega) (by omega)).trans o7
  have x8 := (hf8.block _ (by omega) (by omega)).trans x7
  have own8 := owns_fo own7 hf8 (by omega)
  have hF8 := hF7.call hf8 hF7.size
  have hz8 := hf8.size
  have hv8' := hv8.base' (B' := From (gf + 1)) (from_mono (by omega))
  clear hq hf8 o7 p7 x7 own7 hF7 h7 c7 hv8
  -- the body is stored
  have x9 : (w8s.setCell ⟨gf, 5, none⟩ (.slice a2 n2 c2)).heap[gf]? = some (fnObj t.text on (.slice ao ps.length ac) y (.slice a2 n2 c2) t.place) := by simp [World.setCell, Array.getElem?_modify, x8]
  have oth9 : ∀ j, j ≠ gf → (w8s.setCell ⟨gf, 5, none⟩ (.slice a2 n2 c2)).heap[j]? = w8s.heap[j]? := fun j hj => Below.heap_setCell _ _ _ _ hj
  have h9 := h8.other (g := gf) 5 (.slice a2 n2 c2) (by omega) (by omega)
  have o9 := (oth9 (w.heap.size + 1) (by omega)).trans o8
  have own9 := ownsRow_setCell_below own8 (a := ⟨gf, 5, none⟩) (by show gf < gf + 1; omega) (.slice a2 n2 c2)
  have hF9 := hF8.fresh (g := gf) (by omega) 5 (.slice a2 n2 c2)
  have hv9 := hv8'.since' (w' := w8s.setCell ⟨gf, 5, none⟩ (.slice a2 n2 c2)) ⟨by simp [World.setCell], fun j hj _ => oth9 j (by have : gf + 1 ≤ j := hj; omega)⟩
  have z9 : (w8s.setCell ⟨gf, 5, none⟩ (.slice a2 n2 c2)).heap.size = w8s.heap.size := by simp [World.setCell]
  have c85 := (cells_of7 x8).2.2.2.2.2.1
  have f85 := (cells_of7 x8).2.2.2.2.2.2.2.2.2.2.2.2.1
  have hg8 : gf < w8s.heap.size := by omega
  go_upto_region 7 with fail
  generalize w8s.setCell ⟨gf, 5, none⟩ (.slice a2 n2 c2) = w9s at *
  clear oth9 o8 x8 own8 hF8 h8 c85 f85 hv8'
  have hg9 : gf < w9s.heap.size := by omega
  have hol : w.heap.size + 1 < w9s.heap.size := by omega
  have hne1 : gf ≠ w.heap.size + 1 := by omega
  have hne2 : w.heap.size + 1 ≠ gf := by omega
  have hfn : IsFn (From (gf + 1)) w9s ⟨t.text, on, ps, y, body, t.place⟩ (fL t.text on (.slice ao ps.length ac) y (.slice a2 n2 c2) t.place) := ⟨_, _, rfl, owns_slrow own9 (fun k hk _ => hk), hv9⟩
  obtain ⟨y0, y1, y2, y3, y4, y5, y6, _⟩ := cells_of7 x9
  obtain ⟨e0, e1, e2, e3, e4, e5, e6, m0, m1, m2, m3, m4, m5, m6⟩ := cells_of7 o9
  have hend : PPost b ga w (.inl (⟨t.text, on, ps, y, body, t.place⟩, l5)) (fun x v w' => FnV (From w.heap.size) w' x v) (.returned (fV t.text on (.slice ao ps.length ac) y (.slice a2 n2 c2) t.place)) (fS w9s (w.heap.size + 1) t.text on (.slice ao ps.length ac) y (.slice a2 n2 c2) t.place) := by
    refine ⟨_, rfl, ⟨t.text, on, ao, ps.length, ac, y, a2, n2, c2, t.place, rfl, ?_⟩, h9.set7 (by omega) (by omega) _ _ _ _ _ _ _, hF9.set7 (by omega) _ _ _ _ _ _ _⟩
    have hs : Since (From (gf + 1)) w9s (fS w9s (w.heap.size + 1) t.text on (.slice ao ps.length ac) y (.slice a2 n2 c2) t.place) := Since.set7' (fun hh => by have : gf + 1 ≤ w.heap.size + 1 := hh; omega) _ _ _ _ _ _ _
    exact ⟨_, _, rfl, (SlRow.since (owns_slrow own9 (fun k hk _ => hk)) hs).base (from_mono (by omega)), (hv9.since' hs).base' (from_mono (by omega))⟩
  clear own9 hF9 hv9 hfn h9
  generalize w.heap.size + 1 = gr at *
  go_wp2
  rw [hres.out]
  exact bodyPost_ret (v := fV t.text on (.slice ao ps.length ac) y (.slice a2 n2 c2) t.place) (by simp [results, Tryz.results55, go_sem, e0, e1, e2, e3, e4, e5, e6]) rfl hend
end Go.Proofs.YtifebbdjdllfpaaGreatDoor
/- Items of a program: the parser's reading. -/
namespace Go.Proofs.YtifebbdjdllfpaaGreatDoor
open Go.RowKit
set_option linter.unusedSimpArgs false
set_option linter.unusedVariables false

theorem fnInfo : (Tryz.prog.info? 38).map (fun i => (i.zero, i.size, i.bytes)) = some (some (fV [] false (.slice none 0 0) [] (.slice none 0 0) 0), 7, 120) := by kernel_rfl
theorem AllFn.plow {B B' : Nat → Prop} {w : World} (hb : ∀ k, B k → k < w.heap.size → B' k) : ∀ {l : List Px.Fn} {cs : List Value}, AllFn B w l cs → AllFn B' w l cs
  | [], cs, h => h
  | e :: r, cs, h => by
    obtain ⟨c1, c2, hc, ⟨ps, bs, h1, h2, row, h3, h4⟩, h5⟩ := h
    exact ⟨c1, c2, hc, ⟨ps, bs, h1, Go.Proofs.YtifebbdjdllfpaaGreatDoor.plow hb h2, row, Go.Proofs.YtifebbdjdllfpaaGreatDoor.plow hb h3, h4.plow hb⟩, AllFn.plow hb h5⟩
theorem IsFn.plow {B B' : Nat → Prop} {w : World} (hb : ∀ k, B k → k < w.heap.size → B' k) {f : Px.Fn} {cs : List Value} (h : IsFn B w f cs) : IsFn B' w f cs := by
  obtain ⟨ps, bs, h1, h2, row, h3, h4⟩ := h
  exact ⟨ps, bs, h1, Go.Proofs.YtifebbdjdllfpaaGreatDoor.plow hb h2, row, Go.Proofs.YtifebbdjdllfpaaGreatDoor.plow hb h3, h4.plow hb⟩
theorem IsFn.since {B : Nat → Prop} {w w' : World} (s : Since B w w') {f : Px.Fn} {cs : List Value} (h : IsFn B w f cs) : IsFn B w' f cs := by
  obtain ⟨ps, bs, h1, h2, row, h3, h4⟩ := h
  exact ⟨ps, bs, h1, h2.since s, row, h3.since s, h4.since s⟩
theorem IsFn.base {B B' : Nat → Prop} {w : World} (hb : ∀ k, B k → B' k) {f : Px.Fn} {cs : List Value} (h : IsFn B w f cs) : IsFn B' w f cs := h.plow (fun k hk _ => hb k hk)
theorem owns_type {w : World} {m : Nat} {T : TypeId} {sz n : Nat} {v : Value} {xs : List Value} {k : Nat} (h : w.ownsRow m T sz v n xs) (hk : v.ownBlock = some k) : ∃ cur, w.heap[k]? = some (.cells cur T (0, 0)) := by
  rcases h.2 with ⟨hv, _⟩ | ⟨g, cap, cur, hv, _, hh, _⟩
  · rw [hv] at hk; simp [Value.ownBlock] at hk
  · rw [hv] at hk; simp [Value.ownBlock] at hk; subst hk; exact ⟨cur, hh⟩
abbrev prO (v : Nat) (ss fs : Value) : Obj := .cells #[.int .i64 v, ss, fs] 31 (0, 0)
/-- At gq lies a program. -/
structure PPrBox (gq : Nat) (p : Px.Pr) (w : World) : Prop where
  box : ∃ ss fs rf, w.heap[gq]? = some (prO p.version ss fs) ∧ w.ownsRow (gq + 1) 90 3 ss p.states.length (p.states.flatMap slCells) ∧ w.ownsRow (gq + 1) 38 7 fs p.fns.length rf ∧ AllFn (fun k => gq + 1 ≤ k ∧ fs.ownBlock ≠ some k ∧ ss.ownBlock ≠ some k) w p.fns rf
theorem PPrBox.fo {b gq : Nat} {p : Px.Pr} {w w' : World} (h : PPrBox gq p w) (f : Fo b w.heap.size w w') (hb : b < gq) : PPrBox gq p w' := by
  obtain ⟨ss, fs, rf, h1, h2, h3, h4⟩ := h.box
  exact ⟨ss, fs, rf, (f.block gq (Array.getElem?_eq_some_iff.1 h1).1 (by omega)).trans h1, owns_fo h2 f (by omega), owns_fo h3 f (by omega), h4.since (f.sinceB (fun hh => by omega))⟩
theorem owns_far {w w' : World} {m : Nat} {T : TypeId} {sz n : Nat} {v : Value} {xs : List Value} (h : w.ownsRow m T sz v n xs) (f : ∀ k, v.ownBlock = some k → w'.heap[k]? = w.heap[k]?) : w'.ownsRow m T sz v n xs := by
  obtain ⟨h1, h2⟩ := h
  refine ⟨h1, ?_⟩
  rcases h2 with h2 | ⟨g, cap, cur, hv, hg, hh, r⟩
  · exact Or.inl h2
  · exact Or.inr ⟨g, cap, cur, hv, hg, (f g (by rw [hv]; rfl)).trans hh, r⟩
/-- A state more. -/
theorem box_state {b ga n gq g cap : Nat} {p : Px.Pr} {w w4 w5 : World} {ss fs : Value} {rf : List Value} {s : Px.Sl} {l' : List Lx.Tok} (hb : b < gq) (hga : ga < gq) (hn : n ≤ gq) (hnw : n ≤ w.heap.size) (h1 : w.heap[gq]? = some (prO p.version ss fs)) (h2 : w.ownsRow (gq + 1) 90 3 ss p.states.length (p.states.flatMap slCells)) (h3 : w.ownsRow (gq + 1) 38 7 fs p.fns.length rf) (h4 : AllFn (fun k => gq + 1 ≤ k ∧ fs.ownBlock ≠ some k ∧ ss.ownBlock ≠ some k) w p.fns rf)
    (fo4 : Fo b w.heap.size w w4) (hP4 : Ps b ga l' w4) (hG : Grew w4 w5 ss g) (hown5 : w5.ownsRow (gq + 1) 90 3 (.slice (some ⟨g, 0, none⟩) (p.states.length + 1) cap) (p.states.length + 1) (p.states.flatMap slCells ++ slCells s)) :
    PPrBox gq { p with states := p.states ++ [s] } (w5.setCell ⟨gq, 1, none⟩ (.slice (some ⟨g, 0, none⟩) (p.states.length + 1) cap)) ∧ Ps b ga l' (w5.setCell ⟨gq, 1, none⟩ (.slice (some ⟨g, 0, none⟩) (p.states.length + 1) cap)) ∧ Fo b n w (w5.setCell ⟨gq, 1, none⟩ (.slice (some ⟨g, 0, none⟩) (p.states.length + 1) cap)) := by
  have hl : gq < w.heap.size := (Array.getElem?_eq_some_iff.1 h1).1
  have h14 := (fo4.block gq hl (by omega)).trans h1
  have h24 := owns_fo h2 fo4 (by omega)
  have h34 := owns_fo h3 fo4 (by omega)
  have h44 := h4.since (fo4.sinceB (fun hh => by omega))
  have hz4 := fo4.size
  have hz5 := hG.size
  have far : ∀ k, k ≤ gq → w5.heap[k]? = w4.heap[k]? := fun k hk => hG.block k (by omega) (fun e => by have := (h24.lt k e.symm).1; omega)
  have hgq := (hown5.lt g rfl).1
  have oth : ∀ k, k ≠ gq → (w5.setCell ⟨gq, 1, none⟩ (.slice (some ⟨g, 0, none⟩) (p.states.length + 1) cap)).heap[k]? = w5.heap[k]? := fun k hk => Below.heap_setCell _ _ _ _ hk
  have hsz : (w5.setCell ⟨gq, 1, none⟩ (.slice (some ⟨g, 0, none⟩) (p.states.length + 1) cap)).heap.size = w5.heap.size := by simp [World.setCell]
  have hblk : (w5.setCell ⟨gq, 1, none⟩ (.slice (some ⟨g, 0, none⟩) (p.states.length + 1) cap)).heap[gq]? = some (prO p.version (.slice (some ⟨g, 0, none⟩) (p.states.length + 1) cap) fs) := by
    have := (far gq (Nat.le_refl _)).trans h14
    simp [World.setCell, Array.getElem?_modify, this]
  have hown6 := ownsRow_setCell_below hown5 (a := ⟨gq, 1, none⟩) (by show gq < gq + 1; omega) (.slice (some ⟨g, 0, none⟩) (p.states.length + 1) cap)
  have hq : (w5.setCell ⟨gq, 1, none⟩ (.slice (some ⟨g, 0, none⟩) (p.states.length + 1) cap)).os = w5.os ∧ (w5.setCell ⟨gq, 1, none⟩ (.slice (some ⟨g, 0, none⟩) (p.states.length + 1) cap)).tape = w5.tape ∧ (w5.setCell ⟨gq, 1, none⟩ (.slice (some ⟨g, 0, none⟩) (p.states.length + 1) cap)).output = w5.output := ⟨rfl, rfl, rfl⟩
  generalize w5.setCell ⟨gq, 1, none⟩ (.slice (some ⟨g, 0, none⟩) (p.states.length + 1) cap) = w6 at *
  have hfs : ∀ k, fs.ownBlock = some k → ss.ownBlock ≠ some k := fun k hk hs => by
    obtain ⟨c1, e1⟩ := owns_type h34 hk
    obtain ⟨c2, e2⟩ := owns_type h24 hs
    rw [e1] at e2; simp at e2
  have hne : ∀ k, gq + 1 ≤ k ∧ fs.ownBlock ≠ some k ∧ ss.ownBlock ≠ some k → k < w4.heap.size → k ≠ g := by
    intro k hk hlt he
    subst he
    rcases hG.place with h | h
    · exact hk.2.2 h
    · omega
  refine ⟨⟨_, fs, rf, hblk, by simpa using hown6, owns_far h34 (fun k hk => (oth k (by have := (h34.lt k hk).1; omega)).trans (hG.block k (h34.lt k hk).2 (fun e => hfs k hk e.symm))), ?_⟩, ?_, ⟨hq.1.trans (hG.os.trans fo4.os), hq.2.1.trans (hG.tape.trans fo4.tape), hq.2.2.trans (hG.output.trans fo4.output), by omega, fun k hk hkb => (oth k (by omega)).trans ((far k (by omega)).trans (fo4.block k (by omega) hkb))⟩⟩
  · have hlow : ∀ k, (gq + 1 ≤ k ∧ fs.ownBlock ≠ some k ∧ ss.ownBlock ≠ some k) → k < w4.heap.size → (gq + 1 ≤ k ∧ fs.ownBlock ≠ some k ∧ (Value.slice (some ⟨g, 0, none⟩) (p.states.length + 1) cap).ownBlock ≠ some k) ∧ ss.ownBlock ≠ some k := fun k h1 h2 => ⟨⟨h1.1, h1.2.1, fun e => hne k h1 h2 (by simpa [Value.ownBlock] using e.symm)⟩, h1.2.2⟩
    exact ((h44.plow hlow).since ⟨by omega, fun k hk hl => (oth k (by have := hk.1.1; omega)).trans (hG.block k hl (fun e => hk.2 e.symm))⟩).base (fun k hk => hk.1)
  · exact hP4.keep ((oth b (by omega)).trans (far b (by omega))) ((oth ga (by omega)).trans (far ga (by omega))) (by omega)
/-- A function more. -/
theorem box_fn {b ga n gq g cap : Nat} {p : Px.Pr} {w w4 w5 : World} {ss fs : Value} {rf cs : List Value} {s : Px.Fn} {l' : List Lx.Tok} (hb : b < gq) (hga : ga < gq) (hn : n ≤ gq) (hnw : n ≤ w.heap.size) (h1 : w.heap[gq]? = some (prO p.version ss fs)) (h2 : w.ownsRow (gq + 1) 90 3 ss p.states.length (p.states.flatMap slCells)) (h3 : w.ownsRow (gq + 1) 38 7 fs p.fns.length rf) (h4 : AllFn (fun k => gq + 1 ≤ k ∧ fs.ownBlock ≠ some k ∧ ss.ownBlock ≠ some k) w p.fns rf)
    (fo4 : Fo b w.heap.size w w4) (hP4 : Ps b ga l' w4) (hx : IsFn (From w.heap.size) w4 s cs) (hG : Grew w4 w5 fs g) (hown5 : w5.ownsRow (gq + 1) 38 7 (.slice (some ⟨g, 0, none⟩) (p.fns.length + 1) cap) (p.fns.length + 1) (rf ++ cs)) :
    PPrBox gq { p with fns := p.fns ++ [s] } (w5.setCell ⟨gq, 2, none⟩ (.slice (some ⟨g, 0, none⟩) (p.fns.length + 1) cap)) ∧ Ps b ga l' (w5.setCell ⟨gq, 2, none⟩ (.slice (some ⟨g, 0, none⟩) (p.fns.length + 1) cap)) ∧ Fo b n w (w5.setCell ⟨gq, 2, none⟩ (.slice (some ⟨g, 0, none⟩) (p.fns.length + 1) cap)) := by
  have hl : gq < w.heap.size := (Array.getElem?_eq_some_iff.1 h1).1
  have h14 := (fo4.block gq hl (by omega)).trans h1
  have h24 := owns_fo h2 fo4 (by omega)
  have h34 := owns_fo h3 fo4 (by omega)
  have h44 := h4.since (fo4.sinceB (fun hh => by omega))
  have hz4 := fo4.size
  have hz5 := hG.size
  have far : ∀ k, k ≤ gq → w5.heap[k]? = w4.heap[k]? := fun k hk => hG.block k (by omega) (fun e => by have := (h34.lt k e.symm).1; omega)
  have hgq := (hown5.lt g rfl).1
  have oth : ∀ k, k ≠ gq → (w5.setCell ⟨gq, 2, none⟩ (.slice (some ⟨g, 0, none⟩) (p.fns.length + 1) cap)).heap[k]? = w5.heap[k]? := fun k hk => Below.heap_setCell _ _ _ _ hk
  have hsz : (w5.setCell ⟨gq, 2, none⟩ (.slice (some ⟨g, 0, none⟩) (p.fns.length + 1) cap)).heap.size = w5.heap.size := by simp [World.setCell]
  have hblk : (w5.setCell ⟨gq, 2, none⟩ (.slice (some ⟨g, 0, none⟩) (p.fns.length + 1) cap)).heap[gq]? = some (prO p.version ss (.slice (some ⟨g, 0, none⟩) (p.fns.length + 1) cap)) := by
    have := (far gq (Nat.le_refl _)).trans h14
    simp [World.setCell, Array.getElem?_modify, this]
  have hown6 := ownsRow_setCell_below hown5 (a := ⟨gq, 2, none⟩) (by show gq < gq + 1; omega) (.slice (some ⟨g, 0, none⟩) (p.fns.length + 1) cap)
  have hq : (w5.setCell ⟨gq, 2, none⟩ (.slice (some ⟨g, 0, none⟩) (p.fns.length + 1) cap)).os = w5.os ∧ (w5.setCell ⟨gq, 2, none⟩ (.slice (some ⟨g, 0, none⟩) (p.fns.length + 1) cap)).tape = w5.tape ∧ (w5.setCell ⟨gq, 2, none⟩ (.slice (some ⟨g, 0, none⟩) (p.fns.length + 1) cap)).output = w5.output := ⟨rfl, rfl, rfl⟩
  generalize w5.setCell ⟨gq, 2, none⟩ (.slice (some ⟨g, 0, none⟩) (p.fns.length + 1) cap) = w6 at *
  have hfs : ∀ k, ss.ownBlock = some k → fs.ownBlock ≠ some k := fun k hk hs => by
    obtain ⟨c1, e1⟩ := owns_type h24 hk
    obtain ⟨c2, e2⟩ := owns_type h34 hs
    rw [e1] at e2; simp at e2
  have hne : ∀ k, gq + 1 ≤ k ∧ fs.ownBlock ≠ some k ∧ ss.ownBlock ≠ some k → k < w4.heap.size → k ≠ g := by
    intro k hk hlt he
    subst he
    rcases hG.place with h | h
    · exact hk.2.1 h
    · omega
  have hlow : ∀ k, (gq + 1 ≤ k ∧ fs.ownBlock ≠ some k ∧ ss.ownBlock ≠ some k) → k < w4.heap.size → (gq + 1 ≤ k ∧ (Value.slice (some ⟨g, 0, none⟩) (p.fns.length + 1) cap).ownBlock ≠ some k ∧ ss.ownBlock ≠ some k) ∧ fs.ownBlock ≠ some k := fun k h1 h2 => ⟨⟨h1.1, fun e => hne k h1 h2 (by simpa [Value.ownBlock] using e.symm), h1.2.2⟩, h1.2.1⟩
  have hsn : Since (fun k => (gq + 1 ≤ k ∧ (Value.slice (some ⟨g, 0, none⟩) (p.fns.length + 1) cap).ownBlock ≠ some k ∧ ss.ownBlock ≠ some k) ∧ fs.ownBlock ≠ some k) w4 w6 := ⟨by omega, fun k hk hl => (oth k (by have := hk.1.1; omega)).trans (hG.block k hl (fun e => hk.2 e.symm))⟩
  have hx4 : IsFn (fun k => gq + 1 ≤ k ∧ fs.ownBlock ≠ some k ∧ ss.ownBlock ≠ some k) w4 s cs := hx.plow (fun k hk _ => ⟨by have : w.heap.size ≤ k := hk; omega, fun e => by have := (h3.lt k e).2; have : w.heap.size ≤ k := hk; omega, fun e => by have := (h2.lt k e).2; have : w.heap.size ≤ k := hk; omega⟩)
  refine ⟨⟨ss, _, rf ++ cs, hblk, owns_far h24 (fun k hk => (oth k (by have := (h24.lt k hk).1; omega)).trans (hG.block k (h24.lt k hk).2 (fun e => hfs k hk e.symm))), by simpa using hown6, ?_⟩, ?_, ⟨hq.1.trans (hG.os.trans fo4.os), hq.2.1.trans (hG.tape.trans fo4.tape), hq.2.2.trans (hG.output.trans fo4.output), by omega, fun k hk hkb => (oth k (by omega)).trans ((far k (by omega)).trans (fo4.block k (by omega) hkb))⟩⟩
  · exact (((h44.plow hlow).since hsn).base (fun k hk => hk.1)).snoc (((hx4.plow hlow).since hsn).base (fun k hk => hk.1))
  · exact hP4.keep ((oth b (by omega)).trans (far b (by omega))) ((oth ga (by omega)).trans (far ga (by omega))) (by omega)
def itemR (p : Px.Pr) (l : List Lx.Tok) : Px.R Px.Pr :=
  if Px.sees 1 [115, 116, 97, 116, 101] l then Px.bind (Px.slot l.tail) fun s l1 => Px.bind (Px.need [59] l1) fun _ l2 => .inl ({ p with states := p.states ++ [s] }, l2)
  else if Px.sees 1 [102, 110] l then Px.bind (Px.function false l.tail) fun g l1 => .inl ({ p with fns := p.fns ++ [g] }, l1)
  else if Px.sees 1 [111, 110] l then Px.bind (Px.function true l.tail) fun g l1 => .inl ({ p with fns := p.fns ++ [g] }, l1)
  else Px.fail 31 l
def ItemPost (b ga n gq : Nat) (w : World) (r : Px.R Px.Pr) (e : Ending) (w' : World) : Prop :=
  match r with
  | .inl (p, l') => e = .returned (.tuple #[]) ∧ PPrBox gq p w' ∧ Ps b ga l' w' ∧ Fo b n w w'
  | .inr (a, er) => e = .panicked (thrownP a er) ∧ Fo b n w w'
set_option maxRecDepth 100000 in
set_option maxHeartbeats 16000000 in
theorem pitem_any {b ga n gq : Nat} {p : Px.Pr} {l : List Lx.Tok} {w : World} (hb : b < gq) (hga : ga < gq) (hn : n ≤ gq) (h : Ps b ga l w) (hi : PPrBox gq p w) (hal : p.states.length + p.fns.length + l.length ≤ 4096) :
    Calls Tryz.prog 37 #[.pointer (some ⟨b, 0, none⟩), .pointer (some ⟨gq, 0, none⟩)] w fun e w' => ItemPost b ga n gq w (itemR p l) e w' := by
  obtain ⟨j0, hj0, hy0, hy1, hy2⟩ := info_parts slotInfo
  obtain ⟨i0, hi0, hv0, hv1, hv2⟩ := info_parts fnInfo
  obtain ⟨res, hres⟩ : ∃ res, Aside (res = itemR p l) := ⟨_, rfl⟩
  rw [← hres.out]
  go_enter Tryz.func37, Tryz.ntmps37
  have hlq0 : gq < w.heap.size := by
    obtain ⟨ss, fs, rf, x1, _⟩ := hi.box
    exact (Array.getElem?_eq_some_iff.1 x1).1
  rcases hs : Px.sees 1 [115, 116, 97, 116, 101] l with _ | _
  rotate_left
  · obtain ⟨t, r, rfl, _, _⟩ := Px.sees_head hs
    replace hres : Aside (res = Px.bind (Px.slot r) fun s l1 => Px.bind (Px.need [59] l1) fun _ l2 => .inl ({ p with states := p.states ++ [s] }, l2)) := by
      show _ = _
      rw [hres.out, itemR, if_pos hs]; rfl
    go_wp2_with fail
    refine (ptakes_yes h [115, 116, 97, 116, 101] (by decide) hs).mono ?_
    rintro e w1 ⟨rfl, h1, hf1⟩
    replace h1 : Ps b ga r w1 := h1
    have i1 := hi.fo hf1 hb
    have hz1 := hf1.size
    have hF : Fo b n w w1 := hf1.mono (by omega)
    have hal1 : p.states.length + p.fns.length + r.length + 1 ≤ 4096 := by simp only [List.length_cons] at hal; omega
    clear hs hi h
    obtain ⟨ss, fs, rf, x1, x2, x3, x4⟩ := i1.box
    obtain ⟨sa, sc, rfl⟩ := slice_of x2
    obtain ⟨fa, fc, rfl⟩ := slice_of x3
    have hlq : gq < w1.heap.size := (Array.getElem?_eq_some_iff.1 x1).1
    obtain ⟨_, y1, y2, _, g1, g2⟩ := cells_of3 x1
    have hC : ∀ w', Ps b ga r w' → Calls Tryz.prog 54 #[.pointer (some ⟨b, 0, none⟩)] w' fun e w'' => PPost b ga w' (Px.slot r) (fun s v w'' => SlV s v) e w'' := fun w' h' => pslot_any h'
    rcases hq : Px.slot r with ⟨s, l'⟩ | ⟨a, er⟩
    rotate_left
    · rw [hq] at hC
      replace hC : ∀ w', Ps b ga r w' → Calls Tryz.prog 54 #[.pointer (some ⟨b, 0, none⟩)] w' fun e w'' => e = .panicked (thrownP a er) ∧ Fo b w'.heap.size w' w'' := hC
      have hpost : ∀ w4, Fo b w1.drew.heap.size w1.drew w4 → ItemPost b ga n gq w res (.panicked (thrownP a er)) w4 := fun w4 fo4 => by
        rw [hres.out, hq]
        exact ⟨rfl, (hF.trans (Fo.drew b n w1)).trans (fo4.mono (by show n ≤ w1.heap.size; omega))⟩
      clear hq
      go_upto_region 2 with fail
      go_region_law (go_simp; go_at_call 54; refine (hC w1.drew (h1.keep rfl rfl (Nat.le_refl _))).mono ?_; rintro e w4 ⟨rfl, fo4⟩; refine skip_way w4 ⟨rfl, hpost w4 fo4⟩ ?_)
      all_goals trivial
    rw [hq] at hC
    replace hC : ∀ w', Ps b ga r w' → Calls Tryz.prog 54 #[.pointer (some ⟨b, 0, none⟩)] w' fun e w'' => ∃ v, e = .returned v ∧ SlV s v ∧ Ps b ga l' w'' ∧ Fo b w'.heap.size w' w'' := hC
    go_upto_region 2 with fail
    go_region_law (first
      | (refine step_append_lies _ (by rfl) _ _ 28 (by rfl) (gq + 1) 90 j0 _ 3 40 Tryz.underlying28 hj0 hy0 hy1 hy2 rfl (by omega) _ p.states.length (p.states.flatMap slCells) (by rfl) (hown4.alloc _)
            ⟨w4.heap.size, 0, none⟩ 1 1 [.string ⟨s.name.toArray⟩, .string ⟨s.type.toArray⟩, .int .i64 s.place] (by rfl) (by rfl) (World.news_of_block (cs := #[.string ⟨s.name.toArray⟩, .string ⟨s.type.toArray⟩, .int .i64 s.place]) (t := 90) (fr := (0, 0)) (heap_new w4 _)) (by simp [Value.oneCell'])
            (by omega) (by unfold maxLen; omega) (by omega) (by simp; omega) (w4.heap.size + 1) (by simp) ?_; intro g cap5 w5 hown5 hgrow hat hlt5; have hf5 := (grown_far hgrow hown4 (Nat.lt_succ_self gq) hlf4).trans hf4; have e2 := (cells_of3 hf5).2.1; have m2 := (cells_of3 hf5).2.2.2.2.1)
      | (go_simp; go_at_call 54; refine (hC w1.drew (h1.keep rfl rfl (Nat.le_refl _))).mono ?_; rintro e w4 ⟨v, rfl, rfl, h4, fo4⟩; have hown4 := owns_fo (w := w1.drew) (w' := w4) x2.drew fo4 (by omega); have hlf4 : gq < w4.heap.size := Nat.lt_of_lt_of_le hlq fo4.size; have hf4 := (fo4.block gq hlq (by omega)).trans x1; have ya := (cells_of3 hf4).2.1))
    all_goals
      have hG := grewB hgrow hat
      have hbx := box_state (n := n) (w := w1) hb hga hn (by omega) x1 x2 x3 x4 ((Fo.drew b _ w1).trans fo4) h4 hG hown5
      replace hres : Aside (res = Px.bind (Px.need [59] l') fun _ l2 => .inl ({ p with states := p.states ++ [s] }, l2)) := by
        show _ = _
        rw [hres.out, hq]; rfl
      obtain ⟨hb6, hP6, hF6⟩ := hbx
      generalize w5.setCell ⟨gq, 1, none⟩ (.slice (some ⟨g, 0, none⟩) (p.states.length + 1) cap5) = w6 at *
      have hz6 := hF6.size
      clear hq hC x1 x2 x3 x4 hown5 hgrow hat hG hf5 e2 m2
      go_wp2_with fail
      refine (pneed_any hP6 4 [59] (by decide) (by decide)).mono ?_
      rcases hq : Px.need [59] l' with ⟨u, l2⟩ | ⟨a, er⟩
      · rw [show Px.needK 4 [59] l' = _ from hq]
        rintro e w7 ⟨v, rfl, rfl, h7, hf7⟩
        replace hres : Aside (res = .inl ({ p with states := p.states ++ [s] }, l2)) := by
          show _ = _
          rw [hres.out, hq]; rfl
        have hb7 := hb6.fo hf7 hb
        clear hq
        go_wp2
        go_end0
        rw [hres.out]
        exact ⟨rfl, hb7, h7, (hF.trans hF6).trans (hf7.mono (by omega))⟩
      · rw [show Px.needK 4 [59] l' = _ from hq]
        rintro e w7 ⟨rfl, hf7⟩
        refine ⟨rfl, ?_⟩
        rw [hres.out, hq]
        exact ⟨rfl, (hF.trans hF6).trans (hf7.mono (by omega))⟩
  replace hres : Aside (res = if Px.sees 1 [102, 110] l then Px.bind (Px.function false l.tail) fun g l1 => .inl ({ p with fns := p.fns ++ [g] }, l1) else if Px.sees 1 [111, 110] l then Px.bind (Px.function true l.tail) fun g l1 => .inl ({ p with fns := p.fns ++ [g] }, l1) else Px.fail 31 l) := by
    show _ = _
    rw [hres.out, itemR, if_neg (by rw [hs]; simp)]
  go_wp2_with fail
  refine (ptakes_no h [115, 116, 97, 116, 101] hs).mono ?_
  rintro e wa ⟨rfl, ha, hba⟩
  have ia := hi.fo (Fo.of_below (b := b) hba) hb
  have hza := hba.size
  have hFa : Fo b n w wa := Fo.of_below (hba.mono (by omega))
  clear hs hi h hba
  rcases hs : Px.sees 1 [102, 110] l with _ | _
  rotate_left
  · obtain ⟨t, r, rfl, _, _⟩ := Px.sees_head hs
    replace hres : Aside (res = Px.bind (Px.function false r) fun g l1 => .inl ({ p with fns := p.fns ++ [g] }, l1)) := by
      show _ = _
      rw [hres.out, if_pos hs]; rfl
    go_wp2_with fail
    refine (ptakes_yes ha [102, 110] (by decide) hs).mono ?_
    rintro e w1 ⟨rfl, h1, hf1⟩
    replace h1 : Ps b ga r w1 := h1
    have i1 := ia.fo hf1 hb
    have hz1 := hf1.size
    have hF : Fo b n w w1 := hFa.trans (hf1.mono (by omega))
    have hal1 : p.states.length + p.fns.length + r.length + 1 ≤ 4096 := by simp only [List.length_cons] at hal; omega
    clear hs ia ha
    obtain ⟨ss, fs, rf, x1, x2, x3, x4⟩ := i1.box
    obtain ⟨sa, sc, rfl⟩ := slice_of x2
    obtain ⟨fa, fc, rfl⟩ := slice_of x3
    have hlq : gq < w1.heap.size := (Array.getElem?_eq_some_iff.1 x1).1
    obtain ⟨_, y1, y2, _, g1, g2⟩ := cells_of3 x1
    have hC : ∀ w', Ps b ga r w' → Calls Tryz.prog 55 #[.pointer (some ⟨b, 0, none⟩), .bool false] w' fun e w'' => PPost b ga w' (Px.function false r) (fun s v w'' => FnV (From w'.heap.size) w'' s v) e w'' := fun w' h' => pfunction_any false b ga r w' h'
    rcases hq : Px.function false r with ⟨s, l'⟩ | ⟨a, er⟩
    rotate_left
    · rw [hq] at hC
      replace hC : ∀ w', Ps b ga r w' → Calls Tryz.prog 55 #[.pointer (some ⟨b, 0, none⟩), .bool false] w' fun e w'' => e = .panicked (thrownP a er) ∧ Fo b w'.heap.size w' w'' := hC
      have hpost : ∀ w4, Fo b w1.drew.heap.size w1.drew w4 → ItemPost b ga n gq w res (.panicked (thrownP a er)) w4 := fun w4 fo4 => by
        rw [hres.out, hq]
        exact ⟨rfl, (hF.trans (Fo.drew b n w1)).trans (fo4.mono (by show n ≤ w1.heap.size; omega))⟩
      clear hq
      go_upto_region 5 with fail
      go_region_law (go_simp; go_at_call 55; refine (hC w1.drew (h1.keep rfl rfl (Nat.le_refl _))).mono ?_; rintro e w4 ⟨rfl, fo4⟩; refine skip_way w4 ⟨rfl, hpost w4 fo4⟩ ?_)
      all_goals trivial
    rw [hq] at hC
    replace hC : ∀ w', Ps b ga r w' → Calls Tryz.prog 55 #[.pointer (some ⟨b, 0, none⟩), .bool false] w' fun e w'' => ∃ v, e = .returned v ∧ FnV (From w'.heap.size) w'' s v ∧ Ps b ga l' w'' ∧ Fo b w'.heap.size w' w'' := hC
    go_upto_region 5 with fail
    go_region_law (first
      | (refine step_append_lies _ (by rfl) _ _ 29 (by rfl) (gq + 1) 38 i0 _ 7 120 Tryz.underlying29 hi0 hv0 hv1 hv2 rfl (by omega) _ p.fns.length rf (by rfl) (hown4.alloc _)
            ⟨w4.heap.size, 0, none⟩ 1 1 (fL nm on (.slice a1 n1 c1) y (.slice a2 n2 c2) pl) (by rfl) (by rfl) (World.news_of_block (cs := #[.string ⟨nm.toArray⟩, .bool on, .slice a1 n1 c1, .string ⟨y.toArray⟩, .slice none 0 0, .slice a2 n2 c2, .int .i64 pl]) (t := 38) (fr := (0, 0)) (heap_new w4 _)) (by simp [Value.oneCell'])
            (by omega) (by unfold maxLen; omega) (by omega) (by simp; omega) (w4.heap.size + 1) (by simp) ?_; intro g cap5 w5 hown5 hgrow hat hlt5; have hf5 := (grown_far hgrow hown4 (Nat.lt_succ_self gq) hlf4).trans hf4; have e2 := (cells_of3 hf5).2.2.1; have m2 := (cells_of3 hf5).2.2.2.2.2)
      | (go_simp; go_at_call 55; refine (hC w1.drew (h1.keep rfl rfl (Nat.le_refl _))).mono ?_; rintro e w4 ⟨v, rfl, ⟨nm, on, a1, n1, c1, y, a2, n2, c2, pl, rfl, hxx⟩, h4, fo4⟩; have hown4 := owns_fo (w := w1.drew) (w' := w4) x3.drew fo4 (by omega); have hlf4 : gq < w4.heap.size := Nat.lt_of_lt_of_le hlq fo4.size; have hf4 := (fo4.block gq hlq (by omega)).trans x1; have ya := (cells_of3 hf4).2.2.1))
    all_goals
      have hG := grewB hgrow hat
      have hbx := box_fn (n := n) (w := w1) hb hga hn (by omega) x1 x2 x3 x4 ((Fo.drew b _ w1).trans fo4) h4 hxx hG hown5
      replace hres : Aside (res = .inl ({ p with fns := p.fns ++ [s] }, l')) := by
        show _ = _
        rw [hres.out, hq]; rfl
      obtain ⟨hb6, hP6, hF6⟩ := hbx
      clear hq hC x1 x2 x3 x4 hown5 hgrow hat hG hf5
      go_wp2
      go_end0
      rw [hres.out]
      exact ⟨rfl, hb6, hP6, hF.trans hF6⟩
  replace hres : Aside (res = if Px.sees 1 [111, 110] l then Px.bind (Px.function true l.tail) fun g l1 => .inl ({ p with fns := p.fns ++ [g] }, l1) else Px.fail 31 l) := by
    show _ = _
    rw [hres.out, if_neg (by rw [hs]; simp)]
  go_wp2_with fail
  refine (ptakes_no ha [102, 110] hs).mono ?_
  rintro e wb ⟨rfl, hbb, hbl⟩
  have ib := ia.fo (Fo.of_below (b := b) hbl) hb
  have hzb := hbl.size
  have hFb : Fo b n w wb := hFa.trans (Fo.of_below (hbl.mono (by omega)))
  clear hs ia ha hbl
  rcases hs : Px.sees 1 [111, 110] l with _ | _
  rotate_left
  · obtain ⟨t, r, rfl, _, _⟩ := Px.sees_head hs
    replace hres : Aside (res = Px.bind (Px.function true r) fun g l1 => .inl ({ p with fns := p.fns ++ [g] }, l1)) := by
      show _ = _
      rw [hres.out, if_pos hs]; rfl
    go_wp2_with fail
    refine (ptakes_yes hbb [111, 110] (by decide) hs).mono ?_
    rintro e w1 ⟨rfl, h1, hf1⟩
    replace h1 : Ps b ga r w1 := h1
    have i1 := ib.fo hf1 hb
    have hz1 := hf1.size
    have hF : Fo b n w w1 := hFb.trans (hf1.mono (by omega))
    have hal1 : p.states.length + p.fns.length + r.length + 1 ≤ 4096 := by simp only [List.length_cons] at hal; omega
    clear hs ib hbb
    obtain ⟨ss, fs, rf, x1, x2, x3, x4⟩ := i1.box
    obtain ⟨sa, sc, rfl⟩ := slice_of x2
    obtain ⟨fa, fc, rfl⟩ := slice_of x3
    have hlq : gq < w1.heap.size := (Array.getElem?_eq_some_iff.1 x1).1
    obtain ⟨_, y1, y2, _, g1, g2⟩ := cells_of3 x1
    have hC : ∀ w', Ps b ga r w' → Calls Tryz.prog 55 #[.pointer (some ⟨b, 0, none⟩), .bool true] w' fun e w'' => PPost b ga w' (Px.function true r) (fun s v w'' => FnV (From w'.heap.size) w'' s v) e w'' := fun w' h' => pfunction_any true b ga r w' h'
    rcases hq : Px.function true r with ⟨s, l'⟩ | ⟨a, er⟩
    rotate_left
    · rw [hq] at hC
      replace hC : ∀ w', Ps b ga r w' → Calls Tryz.prog 55 #[.pointer (some ⟨b, 0, none⟩), .bool true] w' fun e w'' => e = .panicked (thrownP a er) ∧ Fo b w'.heap.size w' w'' := hC
      have hpost : ∀ w4, Fo b w1.drew.heap.size w1.drew w4 → ItemPost b ga n gq w res (.panicked (thrownP a er)) w4 := fun w4 fo4 => by
        rw [hres.out, hq]
        exact ⟨rfl, (hF.trans (Fo.drew b n w1)).trans (fo4.mono (by show n ≤ w1.heap.size; omega))⟩
      clear hq
      go_upto_region 7 with fail
      go_region_law (go_simp; go_at_call 55; refine (hC w1.drew (h1.keep rfl rfl (Nat.le_refl _))).mono ?_; rintro e w4 ⟨rfl, fo4⟩; refine skip_way w4 ⟨rfl, hpost w4 fo4⟩ ?_)
      all_goals trivial
    rw [hq] at hC
    replace hC : ∀ w', Ps b ga r w' → Calls Tryz.prog 55 #[.pointer (some ⟨b, 0, none⟩), .bool true] w' fun e w'' => ∃ v, e = .returned v ∧ FnV (From w'.heap.size) w'' s v ∧ Ps b ga l' w'' ∧ Fo b w'.heap.size w' w'' := hC
    go_upto_region 7 with fail
    go_region_law (first
      | (refine step_append_lies _ (by rfl) _ _ 29 (by rfl) (gq + 1) 38 i0 _ 7 120 Tryz.underlying29 hi0 hv0 hv1 hv2 rfl (by omega) _ p.fns.length rf (by rfl) (hown4.alloc _)
            ⟨w4.heap.size, 0, none⟩ 1 1 (fL nm on (.slice a1 n1 c1) y (.slice a2 n2 c2) pl) (by rfl) (by rfl) (World.news_of_block (cs := #[.string ⟨nm.toArray⟩, .bool on, .slice a1 n1 c1, .string ⟨y.toArray⟩, .slice none 0 0, .slice a2 n2 c2, .int .i64 pl]) (t := 38) (fr := (0, 0)) (heap_new w4 _)) (by simp [Value.oneCell'])
            (by omega) (by unfold maxLen; omega) (by omega) (by simp; omega) (w4.heap.size + 1) (by simp) ?_; intro g cap5 w5 hown5 hgrow hat hlt5; have hf5 := (grown_far hgrow hown4 (Nat.lt_succ_self gq) hlf4).trans hf4; have e2 := (cells_of3 hf5).2.2.1; have m2 := (cells_of3 hf5).2.2.2.2.2)
      | (go_simp; go_at_call 55; refine (hC w1.drew (h1.keep rfl rfl (Nat.le_refl _))).mono ?_; rintro e w4 ⟨v, rfl, ⟨nm, on, a1, n1, c1, y, a2, n2, c2, pl, rfl, hxx⟩, h4, fo4⟩; have hown4 := owns_fo (w := w1.drew) (w' := w4) x3.drew fo4 (by omega); have hlf4 : gq < w4.heap.size := Nat.lt_of_lt_of_le hlq fo4.size; have hf4 := (fo4.block gq hlq (by omega)).trans x1; have ya := (cells_of3 hf4).2.2.1))
    all_goals
      have hG := grewB hgrow hat
      have hbx := box_fn (n := n) (w := w1) hb hga hn (by omega) x1 x2 x3 x4 ((Fo.drew b _ w1).trans fo4) h4 hxx hG hown5
      replace hres : Aside (res = .inl ({ p with fns := p.fns ++ [s] }, l')) := by
        show _ = _
        rw [hres.out, hq]; rfl
      obtain ⟨hb6, hP6, hF6⟩ := hbx
      clear hq hC x1 x2 x3 x4 hown5 hgrow hat hG hf5
      go_wp2
      go_end0
      rw [hres.out]
      exact ⟨rfl, hb6, hP6, hF.trans hF6⟩
  replace hres : Aside (res = .inr (Px.place l, 31)) := by
    show _ = _
    rw [hres.out, if_neg (by rw [hs]; simp)]; rfl
  go_wp2_with fail
  refine (ptakes_no hbb [111, 110] hs).mono ?_
  rintro e wc ⟨rfl, hc, hbl⟩
  have hzc := hbl.size
  have hFc : Fo b n w wc := hFb.trans (Fo.of_below (hbl.mono (by omega)))
  obtain ⟨t, r, rfl, _⟩ := hc.head
  go_wp2_with fail
  refine (pgiveUp_any hc 31).mono ?_
  rintro e wd ⟨rfl, hbd⟩
  refine ⟨rfl, ?_⟩
  rw [hres.out]
  exact ⟨rfl, hFc.trans (Fo.of_below (hbd.mono (by omega)))⟩
end Go.Proofs.YtifebbdjdllfpaaGreatDoor
/- Programs: the parser's reading. -/
namespace Go.Proofs.YtifebbdjdllfpaaGreatDoor
open Go.RowKit
set_option linter.unusedSimpArgs false
set_option linter.unusedVariables false

theorem parts_as (f : Nat) (p : Px.Pr) (t : Lx.Tok) (r : List Lx.Tok) : Px.parts (f + 1) p (t :: r) = if t.kind = 5 then .inl (p, t :: r) else Px.bind (itemR p (t :: r)) fun p' l' => Px.parts f p' l' := by
  simp only [Px.parts, itemR]
  split
  · rfl
  rcases h1 : Px.sees 1 [115, 116, 97, 116, 101] (t :: r) with _ | _
  · rcases h2 : Px.sees 1 [102, 110] (t :: r) with _ | _
    · rcases h3 : Px.sees 1 [111, 110] (t :: r) with _ | _
      · rfl
      · simp only [Bool.false_eq_true, if_false, if_true, bind_assoc, pbind_inl, List.tail_cons]
    · simp only [Bool.false_eq_true, if_false, if_true, bind_assoc, pbind_inl, List.tail_cons]
  · simp only [if_true, bind_assoc, pbind_inl, List.tail_cons]
theorem item_res {p : Px.Pr} {l : List Lx.Tok} (hg : Px.Good l) : Px.Res 1 l (itemR p l) := by
  unfold itemR
  split
  · rename_i h
    have a := Px.sees1 h hg
    exact Px.Res.after a ((Px.slot_ok _ a.good).weak.bind0 fun s l1 _ a1 => (Px.need_res a1.good).weak.bind0 fun _ l2 _ a2 => Px.Res.here a2.good)
  split
  · rename_i h
    have a := Px.sees1 h hg
    exact Px.Res.after a ((Px.function_ok _ _ a.good).weak.bind0 fun s l1 _ a1 => Px.Res.here a1.good)
  split
  · rename_i h
    have a := Px.sees1 h hg
    exact Px.Res.after a ((Px.function_ok _ _ a.good).weak.bind0 fun s l1 _ a1 => Px.Res.here a1.good)
  · exact Px.Res.fail hg (Or.inl rfl)
theorem bind_ok {α β : Type} {r : Px.R α} {f : α → List Lx.Tok → Px.R β} {y : β} {l' : List Lx.Tok} (h : Px.bind r f = .inl (y, l')) : ∃ x l, r = .inl (x, l) ∧ f x l = .inl (y, l') := by
  match r, h with
  | .inl (x, l), h => exact ⟨x, l, rfl, h⟩
  | .inr e, h => simp [Px.bind] at h
theorem item_count {p p' : Px.Pr} {l l' : List Lx.Tok} (h : itemR p l = .inl (p', l')) : p'.states.length + p'.fns.length = p.states.length + p.fns.length + 1 := by
  unfold itemR at h
  split at h
  · obtain ⟨s, l1, _, h2⟩ := bind_ok h
    obtain ⟨u, l2, _, h3⟩ := bind_ok h2
    simp at h3
    rw [← h3.1]; simp; omega
  split at h
  · obtain ⟨s, l1, _, h2⟩ := bind_ok h
    simp at h2
    rw [← h2.1]; simp; omega
  split at h
  · obtain ⟨s, l1, _, h2⟩ := bind_ok h
    simp at h2
    rw [← h2.1]; simp; omega
  · simp [Px.fail] at h
theorem parts_fuel : ∀ (f g : Nat) (p : Px.Pr) (l : List Lx.Tok), Px.Good l → l.length < f → l.length < g → Px.parts f p l = Px.parts g p l
  | 0, _, _, _, _, h, _ => by omega
  | _, 0, _, _, _, _, h => by omega
  | f + 1, g + 1, p, [], hg, _, _ => by exact absurd hg (by simp [Px.Good])
  | f + 1, g + 1, p, t :: r, hg, h1, h2 => by
    rw [parts_as, parts_as]
    split
    · rfl
    · refine Px.bind_congr fun p' l' e1 => ?_
      have a1 := (item_res hg).ok p' l' e1
      have := a1.less
      exact parts_fuel f g p' l' a1.good (by omega) (by omega)
abbrev zeroP : Obj := prO 0 (.slice none 0 0) (.slice none 0 0)
abbrev pV (v : Nat) (ss fs : Value) : Value := .agg #[.int .i64 v, ss, fs]
theorem PPrBox.pr {gq : Nat} {p : Px.Pr} {w : World} {ss fs : Value} {rf : List Value} {B : Nat → Prop} (h2 : w.ownsRow (gq + 1) 90 3 ss p.states.length (p.states.flatMap slCells)) (h3 : w.ownsRow (gq + 1) 38 7 fs p.fns.length rf) (h4 : AllFn (fun k => gq + 1 ≤ k ∧ fs.ownBlock ≠ some k ∧ ss.ownBlock ≠ some k) w p.fns rf) (hB : ∀ k, gq + 1 ≤ k → B k) : IsPr B w p (pV p.version ss fs) :=
  ⟨ss, fs, rfl, owns_slrow h2 (fun k hk _ => hB k hk), rf, owns_slrow h3 (fun k hk _ => hB k hk), h4.base (fun k hk => hB k hk.1)⟩
set_option maxRecDepth 100000 in
set_option maxHeartbeats 8000000 in
theorem pprogram_any {b ga : Nat} {l : List Lx.Tok} {w : World} (h : Ps b ga l w) :
    Calls Tryz.prog 20 #[.pointer (some ⟨b, 0, none⟩)] w fun e w' => PPost b ga w (Px.program l) (fun p v w' => IsPr (From w.heap.size) w' p v) e w' := by
  obtain ⟨res, hres⟩ : ∃ res, Aside (res = Px.program l) := ⟨_, rfl⟩
  rw [← hres.out]
  have hwb : w.heap.size ≠ b := by have := h.there; omega
  have hwga : w.heap.size ≠ ga := by have := h.gl; omega
  have hbt := h.there
  have hgt := h.gl
  have h0 := h.alloc zeroP
  have hs0 := heap_new w zeroP
  have hF0 : Fo b w.heap.size w (w.alloc zeroP) := (Fo.refl _ _ _).alloc (Nat.le_refl _) _
  have hl0 : w.heap.size < (w.alloc zeroP).heap.size := by simp
  have hf0 := tokF0
  go_enter Tryz.func20, Tryz.ntmps20
  go_wp2_with fail
  generalize w.alloc zeroP = w0 at *
  refine (pneed_any h0 1 [118, 101, 114, 115, 105, 111, 110] (by decide) (by decide)).mono ?_
  rcases hq : Px.needK 1 [118, 101, 114, 115, 105, 111, 110] l with ⟨u, l1⟩ | ⟨a, er⟩
  rotate_left
  · rintro e w1 ⟨rfl, hf1⟩
    refine ⟨rfl, ?_⟩
    rw [hres.out, Px.program, hq]
    exact ⟨rfl, hF0.call hf1 hF0.size⟩
  rintro e w1 ⟨v, rfl, rfl, h1, hf1⟩
  replace hres : Aside (res = Px.bind (Px.number l1) fun v l2 => Px.bind (Px.need [59] l2) fun _ l3 => Px.parts (l3.length + 1) ⟨v, [], []⟩ l3) := by
    show _ = _
    rw [hres.out, Px.program, hq]; rfl
  have hs1 := (hf1.block _ hl0 hwb).trans hs0
  have hF1 := hF0.call hf1 hF0.size
  have hl1 : w.heap.size < w1.heap.size := Nat.lt_of_lt_of_le hl0 hf1.size
  clear hq hs0 hF0 hl0 h0 hf1
  go_wp2_with fail
  refine (pnumber_any h1).mono ?_
  rcases hq : Px.number l1 with ⟨ver, l2⟩ | ⟨a, er⟩
  rotate_left
  · rintro e w2 ⟨rfl, hf2⟩
    refine ⟨rfl, ?_⟩
    rw [hres.out, hq]
    exact ⟨rfl, hF1.call hf2 hF1.size⟩
  rintro e w2 ⟨v, rfl, rfl, h2, hf2⟩
  replace hres : Aside (res = Px.bind (Px.need [59] l2) fun _ l3 => Px.parts (l3.length + 1) ⟨ver, [], []⟩ l3) := by
    show _ = _
    rw [hres.out, hq]; rfl
  have hs2 := (hf2.block _ hl1 hwb).trans hs1
  have hF2 := hF1.call hf2 hF1.size
  have hl2 : w.heap.size < w2.heap.size := Nat.lt_of_lt_of_le hl1 hf2.size
  have hB3 : Below w2.heap.size w2 (w2.alloc (prO ver (.slice none 0 0) (.slice none 0 0))) := (Below.refl _ _).alloc (Nat.le_refl _) _
  have h3 := h2.below hB3
  have hs3 := (hB3.block _ hl2).trans hs2
  have hF3 := hF2.below hB3 hF2.size
  have i3 : PPrBox w2.heap.size ⟨ver, [], []⟩ (w2.alloc (prO ver (.slice none 0 0) (.slice none 0 0))) := ⟨_, _, [], heap_new w2 _, ⟨rfl, Or.inl ⟨rfl, rfl⟩⟩, ⟨rfl, Or.inl ⟨rfl, rfl⟩⟩, rfl⟩
  have hgb : b < w2.heap.size := h2.there
  have hgg : ga < w2.heap.size := h2.gl
  have hl3 : w2.heap.size < (w2.alloc (prO ver (.slice none 0 0) (.slice none 0 0))).heap.size := by simp
  clear hq hs1 hs2 hF1 hF2 h1 h2 hf2 hB3
  go_upto_region 3 with fail
  generalize w2.alloc (prO ver (.slice none 0 0) (.slice none 0 0)) = w3s at *
  generalize w2.heap.size = gq at *
  go_wp2_with fail
  refine (pneed_any h3 4 [59] (by decide) (by decide)).mono ?_
  rcases hq : Px.need [59] l2 with ⟨u, l3⟩ | ⟨a, er⟩
  rotate_left
  · rw [show Px.needK 4 [59] l2 = _ from hq]
    rintro e w4 ⟨rfl, hf4⟩
    refine ⟨rfl, ?_⟩
    rw [hres.out, hq]
    exact ⟨rfl, hF3.call hf4 hF3.size⟩
  rw [show Px.needK 4 [59] l2 = _ from hq]
  rintro e w4 ⟨v, rfl, rfl, h4, hf4⟩
  replace hres : Aside (res = Px.parts (l3.length + 1) ⟨ver, [], []⟩ l3) := by
    show _ = _
    rw [hres.out, hq]; rfl
  have hs4 := (hf4.block _ (by omega) hwb).trans hs3
  have hF4 := hF3.call hf4 hF3.size
  have i4 := i3.fo hf4 hgb
  have hz4 := hf4.size
  have hfew := h4.few
  clear hq hs3 hF3 h3 hf4 i3
  go_wp2_with fail
  go_loopg [] (l3.length + 1) (fun m wr => ∃ (p : Px.Pr) (l4 : List Lx.Tok), m = l4.length + 1 ∧ Ps b ga l4 wr ∧ PPrBox gq p wr ∧ wr.heap[w.heap.size]? = some zeroP ∧ Fo b w.heap.size w wr ∧ gq < wr.heap.size ∧ p.states.length + p.fns.length + l4.length ≤ 4096 ∧ Aside (res = Px.parts (l4.length + 1) p l4))
  case atStart => exact ⟨⟨ver, [], []⟩, l3, rfl, h4, i4, hs4, hF4, by omega, by simpa using hfew, hres⟩
  case round =>
    clear hres h4 i4 hs4 hF4 hfew
    obtain ⟨p, l4, rfl, h5, i5, hs5, hF5, hl5, hal, hres⟩ := hrel
    obtain ⟨t, r, rfl, _⟩ := h5.head
    replace hres : Aside (res = _) := hres.out.trans (parts_as _ p t r)
    have hN := pnext_any h5
    have hz5 := hF5.size
    by_cases hk : t.kind = 5
    · replace hres : Aside (res = .inl (p, t :: r)) := by
        show _ = _
        rw [hres.out, if_pos hk]
      have hkI : ((t.kind : Int) != 5) = false := by simp; omega
      clear hk
      go_wp2_with fail
      refine hN.mono ?_
      rintro e w6 ⟨rfl, hb6⟩
      have h6 := h5.below hb6
      have i6 := i5.fo (Fo.of_below (b := b) hb6) hgb
      have hs6 := (hb6.block _ (by omega)).trans hs5
      have hF6 := hF5.below hb6 hF5.size
      have hz6 := hb6.size
      obtain ⟨ss, fs, rf, x1, x2, x3, x4⟩ := i6.box
      obtain ⟨sa, sc, rfl⟩ := slice_of x2
      obtain ⟨fa, fc, rfl⟩ := slice_of x3
      have hend : PPost b ga w (.inl (p, t :: r)) (fun p v w' => IsPr (From w.heap.size) w' p v) (.returned (pV p.version (.slice sa p.states.length sc) (.slice fa p.fns.length fc))) (w3 w6 w.heap.size (.int .i64 p.version) (.slice sa p.states.length sc) (.slice fa p.fns.length fc)) :=
        ⟨_, rfl, ((PPrBox.pr (B := From (gq + 1)) x2 x3 x4 (fun k hk => hk)).since (Since.set3' (fun hh => by have : gq + 1 ≤ w.heap.size := hh; omega) _ _ _)).base (from_mono (by omega)), h6.set3 hwb hwga _ _ _, hF6.set3 (Nat.le_refl _) _ _ _⟩
      obtain ⟨y0, y1, y2, _⟩ := cells_of3 x1
      obtain ⟨e0, e1, e2, m0, m1, m2⟩ := cells_of3 hs6
      have hlq6 : gq < w6.heap.size := by omega
      have hlw6 : w.heap.size < w6.heap.size := by omega
      have hne1 : gq ≠ w.heap.size := by omega
      have hne2 : w.heap.size ≠ gq := by omega
      clear hN h5 i5 hs5 hF5 hb6 h6 i6 hF6 x2 x3 x4
      go_wp2
      rw [hres.out]
      exact bodyPost_ret (v := pV p.version (.slice sa p.states.length sc) (.slice fa p.fns.length fc)) (by simp [results, Tryz.results20, go_sem, e0, e1, e2]) rfl hend
    · replace hres : Aside (res = Px.bind (itemR p (t :: r)) fun p' l' => Px.parts (t :: r).length p' l') := by
        show _ = _
        rw [hres.out, if_neg hk]
      have hkI : ((t.kind : Int) != 5) = true := by simp; omega
      clear hk
      go_wp2_with fail
      refine hN.mono ?_
      rintro e w6 ⟨rfl, hb6⟩
      have h6 := h5.below hb6
      have i6 := i5.fo (Fo.of_below (b := b) hb6) hgb
      have hs6 := (hb6.block _ (by omega)).trans hs5
      have hF6 := hF5.below hb6 hF5.size
      have hz6 := hb6.size
      clear hN h5 i5 hs5 hF5 hb6
      go_wp2_with fail
      refine (pitem_any (n := gq) hgb hgg (Nat.le_refl _) h6 i6 hal).mono ?_
      rcases hq : itemR p (t :: r) with ⟨p', l'⟩ | ⟨a, er⟩
      · rintro e w7 ⟨rfl, i7, h7, hf7⟩
        have hle := ((item_res h6.good).ok p' l' hq).less
        have hgd := ((item_res h6.good).ok p' l' hq).good
        have hct := item_count hq
        replace hres : Aside (res = Px.parts (l'.length + 1) p' l') := by
          show _ = _
          rw [hres.out, hq]
          exact parts_fuel _ _ _ _ hgd (by omega) (by omega)
        have hs7 := (hf7.block _ (by omega) hwb).trans hs6
        have hF7 := hF6.trans (hf7.mono (by omega))
        have hz7 := hf7.size
        clear hq hf7 hs6 hF6 h6 i6
        go_wp2_with fail
        go_roundg (l'.length + 1)
        case measure => omega
        case rel => exact ⟨p', l', rfl, h7, i7, hs7, hF7, by omega, by omega, hres⟩
      · rintro e w7 ⟨rfl, hf7⟩
        refine ⟨rfl, ?_⟩
        rw [hres.out, hq]
        exact ⟨rfl, hF6.trans (hf7.mono (by omega))⟩
end Go.Proofs.YtifebbdjdllfpaaGreatDoor
/- The whole function Parse: a fault that was thrown is recovered. -/
namespace Go.Proofs.YtifebbdjdllfpaaGreatDoor
open Go.RowKit
set_option linter.unusedSimpArgs false
set_option linter.unusedVariables false

set_option maxRecDepth 100000 in
set_option maxHeartbeats 2000000 in
theorem pfaultOf_any (a er : Nat) (w : World) : Calls Tryz.prog 19 #[.iface 76 (.agg #[.int .i64 a, .int .i64 er])] w fun e w' => e = .returned (.tuple #[.int .i64 a, .int .i64 er]) ∧ Below w.heap.size w w' := by
  have hta : ∀ w1 : World, (Instr.typeAssert (.iface 76 (.agg #[.int .i64 a, .int .i64 er])) 20 76 false).run Tryz.prog w1 = .ok (.agg #[.int .i64 a, .int .i64 er]) w1 := fun _ => by kernel_rfl
  go_enter Tryz.func19, Tryz.ntmps19
  go_wp2
  go_quiet (fail)
  go_wp2
  go_ret2
  exact ⟨rfl, below_drewN ((Below.refl _ _).alloc (Nat.le_refl _) _) _⟩
set_option maxHeartbeats 2000000 in
theorem pcatch_idle (p q r : Addr) (w : World) :
    CallsD Tryz.prog 18 #[.pointer (some p), .pointer (some q), .pointer (some r)] .returning w fun e u' w' => e = .returned (.tuple #[]) ∧ u' = .returning ∧ w' = w := by
  refine callsD_of_wpS Tryz.func18 rfl fun c₀ cs hu => ?_
  apply wpS_seq
  apply wpS_region
  simp [wpOpsS, go_sem, recoverD, hu, Tryz.ntmps18, Exit.thenS]
  refine wpS_of_wp ?_
  go_wp2
  cases c₀
  simp_all [bodyPostS, results, Tryz.results18]
abbrev intO (v : Nat) : Obj := .cells #[.int .i64 v] 3 (0, 0)
abbrev errO (v : Nat) : Obj := .cells #[.int .i64 v] 32 (0, 0)
set_option maxHeartbeats 4000000 in
theorem pcatch_thrown (p g1 g2 a er v1 v2 : Nat) (hg1 : p < g1) (hg2 : g1 < g2) (older : List PanicEntry) (w : World) (hp : w.heap[p]? = some zeroP) (hq : w.heap[g1]? = some (intO v1)) (hr : w.heap[g2]? = some (errO v2)) :
    CallsD Tryz.prog 18 #[.pointer (some ⟨p, 0, none⟩), .pointer (some ⟨g1, 0, none⟩), .pointer (some ⟨g2, 0, none⟩)] (.panicking ({ v := .iface 76 (.agg #[.int .i64 a, .int .i64 er]), recovered := false } :: older)) w fun e u' w' =>
      e = .returned (.tuple #[]) ∧ u' = .panicking ({ v := .iface 76 (.agg #[.int .i64 a, .int .i64 er]), recovered := true } :: older) ∧
      w'.heap[p]? = some zeroP ∧ w'.heap[g1]? = some (intO a) ∧ w'.heap[g2]? = some (errO er) ∧ Below p w w' := by
  refine callsD_of_wpS Tryz.func18 rfl fun c₀ cs hu => ?_
  apply wpS_seq
  apply wpS_region
  simp [wpOpsS, go_sem, recoverD, hu, Tryz.ntmps18, Exit.thenS]
  refine wpS_of_wp ?_
  have lp : p < w.heap.size := (Array.getElem?_eq_some_iff.1 hp).1
  have lq : g1 < w.heap.size := (Array.getElem?_eq_some_iff.1 hq).1
  have lr : g2 < w.heap.size := (Array.getElem?_eq_some_iff.1 hr).1
  obtain ⟨x0, x1, x2, f0, f1, f2⟩ := cells_of3 hp
  have hW := w3_blk hp (.int .i64 (0 : Nat)) (.slice none 0 0) (.slice none 0 0)
  have oth : ∀ k, k ≠ p → (w3 w p (.int .i64 (0 : Nat)) (.slice none 0 0) (.slice none 0 0)).heap[k]? = w.heap[k]? := fun k hk => w3_other hk _ _ _
  have hsz := w3_size w p (.int .i64 (0 : Nat)) (.slice none 0 0) (.slice none 0 0)
  have hbw : Below p w (w3 w p (.int .i64 (0 : Nat)) (.slice none 0 0) (.slice none 0 0)) := below_set3 (Below.refl _ _) (Nat.le_refl _) _ _ _
  have e1 : ∀ w1, Below (w3 w p (.int .i64 (0 : Nat)) (.slice none 0 0) (.slice none 0 0)).heap.size (w3 w p (.int .i64 (0 : Nat)) (.slice none 0 0) (.slice none 0 0)) w1 →
      w1.cell? ⟨g1, 0, none⟩ = some (.int .i64 v1) ∧ w1.frozen? ⟨g1, 0, none⟩ = false ∧ w1.cell? ⟨g2, 0, none⟩ = some (.int .i64 v2) ∧ w1.frozen? ⟨g2, 0, none⟩ = false ∧ g1 < w1.heap.size ∧ g2 < w1.heap.size ∧
      ((w1.setCell ⟨g1, 0, none⟩ (.int .i64 a)).setCell ⟨g2, 0, none⟩ (.int .i64 er)).heap[p]? = some zeroP ∧ ((w1.setCell ⟨g1, 0, none⟩ (.int .i64 a)).setCell ⟨g2, 0, none⟩ (.int .i64 er)).heap[g1]? = some (intO a) ∧ ((w1.setCell ⟨g1, 0, none⟩ (.int .i64 a)).setCell ⟨g2, 0, none⟩ (.int .i64 er)).heap[g2]? = some (errO er) ∧ Below p w ((w1.setCell ⟨g1, 0, none⟩ (.int .i64 a)).setCell ⟨g2, 0, none⟩ (.int .i64 er)) := by
    intro w1 hb
    have hz := hb.size
    have b1 : w1.heap[g1]? = some (intO v1) := (hb.block g1 (by omega)).trans ((oth g1 (by omega)).trans hq)
    have b2 : w1.heap[g2]? = some (errO v2) := (hb.block g2 (by omega)).trans ((oth g2 (by omega)).trans hr)
    have b0 : w1.heap[p]? = some zeroP := (hb.block p (by omega)).trans hW
    refine ⟨cell_of_one b1, free_of_one b1, cell_of_one b2, free_of_one b2, by omega, by omega, ?_, ?_, ?_, ?_⟩
    · rw [Below.heap_setCell _ _ _ _ (by show p ≠ g2; omega), Below.heap_setCell _ _ _ _ (by show p ≠ g1; omega)]; exact b0
    · rw [Below.heap_setCell _ _ _ _ (by show g1 ≠ g2; omega)]; simp [World.setCell, Array.getElem?_modify, b1]
    · have : (w1.setCell ⟨g1, 0, none⟩ (.int .i64 a)).heap[g2]? = some (errO v2) := (Below.heap_setCell _ _ _ _ (by show g2 ≠ g1; omega)).trans b2
      simp [World.setCell, Array.getElem?_modify] at this ⊢
      simp [this]
    · exact ((hbw.trans (hb.mono (by omega))).setCell (p := ⟨g1, 0, none⟩) (by show p ≤ g1; omega) _).setCell (p := ⟨g2, 0, none⟩) (by show p ≤ g2; omega) _
  clear hW oth hsz hbw
  go_wp2_with (go_at_call 19; refine (pfaultOf_any a er _).mono ?_; rintro e w1 ⟨rfl, hb1⟩; obtain ⟨k1, k2, k3, k4, k5, k6, r1, r2, r3, r4⟩ := e1 w1 hb1)
  have hfin := And.intro r1 (And.intro r2 (And.intro r3 r4))
  clear e1 hb1 k1 k2 k3 k4 k5 k6 r1 r2 r3 r4 hp hq hr x0 x1 x2 f0 f1 f2
  generalize ((w1.setCell ⟨g1, 0, none⟩ (.int .i64 a)).setCell ⟨g2, 0, none⟩ (.int .i64 er)) = w2 at *
  cases c₀
  simp_all [bodyPostS, results, Tryz.results18]
end Go.Proofs.YtifebbdjdllfpaaGreatDoor
/- Parse answers what the document says. -/
namespace Go.Proofs.YtifebbdjdllfpaaGreatDoor
open Go.RowKit
set_option linter.unusedSimpArgs false
set_option linter.unusedVariables false

abbrev parseW (w : World) : World := ((w.alloc zeroP).alloc (intO 0)).alloc (errO 0)
theorem parseW_below (w : World) : Below w.heap.size w (parseW w) := (((Below.refl _ _).alloc (Nat.le_refl _) _).alloc (by simp) _).alloc (by simp; omega) _
/-- The three results are set: what the world is then. -/
theorem set_three {w w1 : World} {p : Nat} {v0 v1 v2 : Nat} {s0 f0 : Value} (b1 : w1.heap[p]? = some (prO v0 s0 f0)) (b2 : w1.heap[p + 1]? = some (intO v1)) (b3 : w1.heap[p + 1 + 1]? = some (errO v2)) (hB : Below p w w1) (a er v ss fs : Value) :
    ∃ wF, wF = (((w3 w1 p v ss fs).setCell ⟨p + 1, 0, none⟩ a).setCell ⟨p + 1 + 1, 0, none⟩ er) ∧ wF.heap[p]? = some (.cells #[v, ss, fs] 31 (0, 0)) ∧ wF.heap[p + 1]? = some (.cells #[a] 3 (0, 0)) ∧ wF.heap[p + 1 + 1]? = some (.cells #[er] 32 (0, 0)) ∧ Below p w wF ∧ wF.heap.size = w1.heap.size ∧ ∀ k, p + 2 < k → wF.heap[k]? = w1.heap[k]? := by
  refine ⟨_, rfl, ?_, ?_, ?_, ?_, ?_, ?_⟩
  · rw [Below.heap_setCell _ _ _ _ (by show p ≠ p + 1 + 1; omega), Below.heap_setCell _ _ _ _ (by show p ≠ p + 1; omega)]; exact w3_blk b1 _ _ _
  · rw [Below.heap_setCell _ _ _ _ (by show p + 1 ≠ p + 1 + 1; omega)]
    have : (w3 w1 p v ss fs).heap[p + 1]? = some (intO v1) := (w3_other (by omega) _ _ _).trans b2
    generalize w3 w1 p v ss fs = wX at *
    simp [World.setCell, Array.getElem?_modify, this]
  · have : ((w3 w1 p v ss fs).setCell ⟨p + 1, 0, none⟩ a).heap[p + 1 + 1]? = some (errO v2) := (Below.heap_setCell _ _ _ _ (by show p + 1 + 1 ≠ p + 1; omega)).trans ((w3_other (by omega) _ _ _).trans b3)
    generalize (w3 w1 p v ss fs).setCell ⟨p + 1, 0, none⟩ a = wX at *
    simp [World.setCell, Array.getElem?_modify, this]
  · exact ((below_set3 hB (Nat.le_refl _) _ _ _).setCell (p := ⟨p + 1, 0, none⟩) (by show p ≤ p + 1; omega) _).setCell (p := ⟨p + 1 + 1, 0, none⟩) (by show p ≤ p + 1 + 1; omega) _
  · simp [World.setCell]
  · intro k hk
    rw [Below.heap_setCell _ _ _ _ (by show k ≠ p + 1 + 1; omega), Below.heap_setCell _ _ _ _ (by show k ≠ p + 1; omega)]; exact w3_other (by omega) _ _ _
theorem parseW_size (w : World) : (parseW w).heap.size = w.heap.size + 3 := by simp
theorem parseW_blocks (w : World) : (parseW w).heap[w.heap.size]? = some zeroP ∧ (parseW w).heap[w.heap.size + 1]? = some (intO 0) ∧ (parseW w).heap[w.heap.size + 1 + 1]? = some (errO 0) := by
  refine ⟨?_, ?_, ?_⟩
  · rw [heap_old (by simp; omega), heap_old (by simp)]; exact heap_new w _
  · rw [heap_old (by simp)]
    have := heap_new (w.alloc zeroP) (intO 0)
    simpa using this
  · have := heap_new ((w.alloc zeroP).alloc (intO 0)) (errO 0)
    simpa using this
set_option maxRecDepth 100000 in
set_option maxHeartbeats 8000000 in
theorem pparse_bad (s : ByteArray) (w : World) (henv : Env w) (hm : s.size ≤ maxLen) (a er : Nat) (hl : Lx.lex true s.data.toList = .inr (a, er)) (h0 : er ≠ 0) :
    Calls Tryz.prog 10 #[.string s] w fun e w' => e = .returned (.tuple #[zeroPr, .int .i64 a, .int .i64 er]) ∧ Below w.heap.size w w' := by
  have hL := lex_any s (parseW w) (henv.below (parseW_below w) henv.lt) hm
  rw [show dotC = true from rfl, hl] at hL
  replace hL : Calls Tryz.prog 17 #[.string s] (parseW w) fun e w' => e = .returned (.tuple #[.slice none 0 0, .int .i64 a, .int .i64 er]) ∧ Below (parseW w).heap.size (parseW w) w' := hL
  have herI : ((er : Int) != 0) = true := by simp; omega
  have hfac : ∀ w1, Below (parseW w).heap.size (parseW w) w1 → w1.heap[w.heap.size]? = some zeroP ∧ w1.heap[w.heap.size + 1]? = some (intO 0) ∧ w1.heap[w.heap.size + 1 + 1]? = some (errO 0) ∧ w.heap.size + 3 ≤ w1.heap.size ∧ Below w.heap.size w w1 := by
    intro w1 hb
    have hz := parseW_size w
    have hs := hb.size
    obtain ⟨b1, b2, b3⟩ := parseW_blocks w
    exact ⟨(hb.block _ (by omega)).trans b1, (hb.block _ (by omega)).trans b2, (hb.block _ (by omega)).trans b3, by omega, (parseW_below w).trans (hb.mono (by omega))⟩
  go_enter_defers Tryz.func10, Tryz.ntmps10
  go_wp2_with fail
  refine hL.mono ?_
  rintro e w1 ⟨rfl, hb1⟩
  obtain ⟨b1, b2, b3, hz, hB⟩ := hfac w1 hb1
  have c1 := cell_of_one b2
  have f1 := free_of_one b2
  have c2 := cell_of_one b3
  have f2 := free_of_one b3
  obtain ⟨x0, x1, x2, k0, k1, k2⟩ := cells_of3 b1
  have l1 : w.heap.size < w1.heap.size := by omega
  have l2 : w.heap.size + 1 < w1.heap.size := by omega
  have l3 : w.heap.size + 1 + 1 < w1.heap.size := by omega
  have hY : ∃ w2, w2 = (w1.setCell ⟨w.heap.size + 1, 0, none⟩ (.int .i64 a)).setCell ⟨w.heap.size + 1 + 1, 0, none⟩ (.int .i64 er) ∧ w2.heap[w.heap.size]? = some zeroP ∧ w2.heap[w.heap.size + 1]? = some (intO a) ∧ w2.heap[w.heap.size + 1 + 1]? = some (errO er) ∧ Below w.heap.size w w2 ∧ w2.heap.size = w1.heap.size := by
    refine ⟨_, rfl, ?_, ?_, ?_, ?_, ?_⟩
    · rw [Below.heap_setCell _ _ _ _ (by show w.heap.size ≠ w.heap.size + 1 + 1; omega), Below.heap_setCell _ _ _ _ (by show w.heap.size ≠ w.heap.size + 1; omega)]; exact b1
    · rw [Below.heap_setCell _ _ _ _ (by show w.heap.size + 1 ≠ w.heap.size + 1 + 1; omega)]
      simp [World.setCell, Array.getElem?_modify, b2]
    · have : (w1.setCell ⟨w.heap.size + 1, 0, none⟩ (.int .i64 a)).heap[w.heap.size + 1 + 1]? = some (errO 0) := (Below.heap_setCell _ _ _ _ (by show w.heap.size + 1 + 1 ≠ w.heap.size + 1; omega)).trans b3
      generalize w1.setCell ⟨w.heap.size + 1, 0, none⟩ (.int .i64 a) = wX at *
      simp [World.setCell, Array.getElem?_modify, this]
    · exact (hB.setCell (p := ⟨w.heap.size + 1, 0, none⟩) (by show w.heap.size ≤ w.heap.size + 1; omega) _).setCell (p := ⟨w.heap.size + 1 + 1, 0, none⟩) (by show w.heap.size ≤ w.heap.size + 1 + 1; omega) _
    · simp [World.setCell]
  clear hL hfac hb1 b1 b2 b3 hB
  go_wp2
  obtain ⟨w2, hw2, d1, d2, d3, hB2, hz2⟩ := hY
  rw [← hw2]
  clear hw2 c1 f1 c2 f2 x0 x1 x2 k0 k1 k2
  have c1 := cell_of_one d2
  have f1 := free_of_one d2
  have c2 := cell_of_one d3
  have f2 := free_of_one d3
  obtain ⟨x0, x1, x2, k0, k1, k2⟩ := cells_of3 d1
  rw [← hz2] at l1 l2 l3
  have hX := set_three (w1 := w2) (p := w.heap.size) d1 d2 d3 hB2 (.int .i64 a) (.int .i64 er) (.int .i64 0) (.slice none 0 0) (.slice none 0 0)
  go_region
  all_goals
    go_wp2
    obtain ⟨wF, hwF, r1, r2, r3, hB3, _, _⟩ := hX
    have u1 := cell_of_one r2
    have u2 := cell_of_one r3
    obtain ⟨v0, v1, v2, _⟩ := cells_of3 r1
    rw [← hwF]
    clear hwF
    simp [bodyPostD, Leaves, settle, results, Tryz.results10, go_sem, u1, u2, v0, v1, v2]
    exact hB3.trans ⟨rfl, rfl, rfl, Nat.le_refl _, fun _ _ => rfl⟩
end Go.Proofs.YtifebbdjdllfpaaGreatDoor
/- Parse answers what the document says, of every text. -/
namespace Go.Proofs.YtifebbdjdllfpaaGreatDoor
open Go.RowKit
set_option linter.unusedSimpArgs false
set_option linter.unusedVariables false

theorem first_ps {w : World} {ga cap b : Nat} {ts : List Lx.Tok} (hb : w.heap[b]? = some (.cells #[.slice (some ⟨ga, 0, none⟩) ts.length cap] 57 (0, 0))) (hrow : TokRow w ga ts) (hg : ga < w.heap.size) (hne : ga ≠ b) (hc : ts.length ≤ cap) (hm : cap ≤ maxLen) (hgood : Px.Good ts) (ht : ∀ t ∈ ts, Tidy t) (hf : ts.length ≤ 4096) : Ps b ga ts w :=
  ⟨hgood, ht, ⟨0, cap, hb, hc, hm, fun k t hk => by simpa using hrow k t hk⟩, hg, hne, hf⟩
theorem below_of_fo {b n : Nat} {w w' : World} (h : Fo b n w w') (hb : n ≤ b) : Below n w w' := ⟨h.os, h.tape, h.output, h.size, fun k hk => h.block k hk (by omega)⟩
theorem cap_of {w : World} {base : Nat} {e : TypeId} {sz n cap g : Nat} {xs : List Value} (h : w.ownsRow base e sz (.slice (some ⟨g, 0, none⟩) n cap) n xs) : cap ≤ maxLen := by
  rcases h.2 with ⟨hv, _⟩ | ⟨g', cap', cur, hv, _, _, _, hc, _⟩
  · simp at hv
  · simp at hv; omega
set_option maxRecDepth 100000 in
set_option maxHeartbeats 8000000 in
theorem pparse_good (s : ByteArray) (w : World) (henv : Env w) (hm : s.size ≤ maxLen) (ts : List Lx.Tok) (hl : Lx.lex true s.data.toList = .inl ts) :
    Calls Tryz.prog 10 #[.string s] w fun e w' => ParsePost (match Px.program ts with | .inl (p, _) => .inl p | .inr x => .inr x) w e w' := by
  obtain ⟨res, hres⟩ : ∃ res : Px.Pr ⊕ (Nat × Nat), Aside (res = match Px.program ts with | .inl (p, _) => .inl p | .inr x => .inr x) := ⟨_, rfl⟩
  rw [← hres.out]
  have hmf : ∀ (fn : Fn) (first cap : Array Value) (w : World), (Instr.makeFunc fn first cap).run Tryz.prog w = .ok (.func fn first cap) w := fun _ _ _ _ => rfl
  have hL := lex_any s (parseW w) (henv.below (parseW_below w) henv.lt) hm
  rw [show dotC = true from rfl, hl] at hL
  replace hL : Calls Tryz.prog 17 #[.string s] (parseW w) fun e w' => (∃ v, e = .returned (.tuple #[v, .int .i64 0, .int .i64 0]) ∧ w'.ownsRow (parseW w).heap.size 81 4 v ts.length (rowOf ts)) ∧ Below (parseW w).heap.size (parseW w) w' := hL
  have hgood := lex_good hl
  have htidy := lex_tidy hl
  have hfew := lex_few hl
  have hpos := (lex_nonempty hl).1
  have hfac : ∀ w1, Below (parseW w).heap.size (parseW w) w1 → w1.heap[w.heap.size]? = some zeroP ∧ w1.heap[w.heap.size + 1]? = some (intO 0) ∧ w1.heap[w.heap.size + 1 + 1]? = some (errO 0) ∧ w.heap.size + 3 ≤ w1.heap.size ∧ Below w.heap.size w w1 := by
    intro w1 hb
    have hz := parseW_size w
    have hs := hb.size
    obtain ⟨b1, b2, b3⟩ := parseW_blocks w
    exact ⟨(hb.block _ (by omega)).trans b1, (hb.block _ (by omega)).trans b2, (hb.block _ (by omega)).trans b3, by omega, (parseW_below w).trans (hb.mono (by omega))⟩
  have hpz := parseW_size w
  go_enter_defers Tryz.func10, Tryz.ntmps10
  go_wp2_with fail
  refine hL.mono ?_
  rintro e w1 ⟨⟨v, rfl, hown⟩, hb1⟩
  obtain ⟨b1, b2, b3, hz, hB⟩ := hfac w1 hb1
  obtain ⟨ga, cap, rfl, hga, hgl, hcap, hrow⟩ := owns_toks hown hpos
  have hcm := cap_of hown
  have c1 := cell_of_one b2
  have f1 := free_of_one b2
  have c2 := cell_of_one b3
  have f2 := free_of_one b3
  have l1 : w.heap.size < w1.heap.size := by omega
  have l2 : w.heap.size + 1 < w1.heap.size := by omega
  have l3 : w.heap.size + 1 + 1 < w1.heap.size := by omega
  have hY : ∃ w2, w2 = ((w1.setCell ⟨w.heap.size + 1, 0, none⟩ (.int .i64 0)).setCell ⟨w.heap.size + 1 + 1, 0, none⟩ (.int .i64 0)).alloc (.cells #[.slice (some ⟨ga, 0, none⟩) ts.length cap] 57) ∧ w2.heap[w.heap.size]? = some zeroP ∧ w2.heap[w.heap.size + 1]? = some (intO 0) ∧ w2.heap[w.heap.size + 1 + 1]? = some (errO 0) ∧ Below w.heap.size w w2 ∧ w2.heap.size = w1.heap.size + 1 ∧ Ps w1.heap.size ga ts w2 := by
    have hoth : ∀ k, k ≠ w.heap.size + 1 → k ≠ w.heap.size + 1 + 1 → ((w1.setCell ⟨w.heap.size + 1, 0, none⟩ (.int .i64 0)).setCell ⟨w.heap.size + 1 + 1, 0, none⟩ (.int .i64 0)).heap[k]? = w1.heap[k]? := fun k h1 h2 => (Below.heap_setCell _ _ _ _ h2).trans (Below.heap_setCell _ _ _ _ h1)
    have e2 : ((w1.setCell ⟨w.heap.size + 1, 0, none⟩ (.int .i64 0)).setCell ⟨w.heap.size + 1 + 1, 0, none⟩ (.int .i64 0)).heap[w.heap.size + 1]? = some (intO 0) := by
      rw [Below.heap_setCell _ _ _ _ (by show w.heap.size + 1 ≠ w.heap.size + 1 + 1; omega)]
      simp [World.setCell, Array.getElem?_modify, b2]
    have e3 : ((w1.setCell ⟨w.heap.size + 1, 0, none⟩ (.int .i64 0)).setCell ⟨w.heap.size + 1 + 1, 0, none⟩ (.int .i64 0)).heap[w.heap.size + 1 + 1]? = some (errO 0) := by
      have : (w1.setCell ⟨w.heap.size + 1, 0, none⟩ (.int .i64 0)).heap[w.heap.size + 1 + 1]? = some (errO 0) := (Below.heap_setCell _ _ _ _ (by show w.heap.size + 1 + 1 ≠ w.heap.size + 1; omega)).trans b3
      generalize w1.setCell ⟨w.heap.size + 1, 0, none⟩ (.int .i64 0) = wX at *
      simp [World.setCell, Array.getElem?_modify, this]
    have hsz : ((w1.setCell ⟨w.heap.size + 1, 0, none⟩ (.int .i64 0)).setCell ⟨w.heap.size + 1 + 1, 0, none⟩ (.int .i64 0)).heap.size = w1.heap.size := by simp [World.setCell]
    have hBX : Below w.heap.size w ((w1.setCell ⟨w.heap.size + 1, 0, none⟩ (.int .i64 0)).setCell ⟨w.heap.size + 1 + 1, 0, none⟩ (.int .i64 0)) := (hB.setCell (p := ⟨w.heap.size + 1, 0, none⟩) (by show w.heap.size ≤ w.heap.size + 1; omega) _).setCell (p := ⟨w.heap.size + 1 + 1, 0, none⟩) (by show w.heap.size ≤ w.heap.size + 1 + 1; omega) _
    generalize (w1.setCell ⟨w.heap.size + 1, 0, none⟩ (.int .i64 0)).setCell ⟨w.heap.size + 1 + 1, 0, none⟩ (.int .i64 0) = wX at *
    have hnew := heap_new wX (.cells #[.slice (some ⟨ga, 0, none⟩) ts.length cap] 57)
    rw [hsz] at hnew
    refine ⟨_, rfl, (heap_old (by omega)).trans ((hoth _ (by omega) (by omega)).trans b1), (heap_old (by omega)).trans e2, (heap_old (by omega)).trans e3, hBX.alloc (by omega) _, by simp [hsz], first_ps hnew ?_ (by simp [hsz]; omega) (by omega) hcap hcm hgood htidy hfew⟩
    intro k t hk
    have hc : ∀ j, (wX.alloc (.cells #[.slice (some ⟨ga, 0, none⟩) ts.length cap] 57)).cell? ⟨ga, j, none⟩ = w1.cell? ⟨ga, j, none⟩ := fun j => World.cell?_of_block (w := w1) ((heap_old (by show ga < _; omega)).trans (hoth ga (by omega) (by omega)))
    rw [hc, hc, hc, hc]
    exact hrow k t hk
  clear hL hfac hb1 b1 b2 b3 hB hrow hown hpz
  go_upto_region 6 with fail
  obtain ⟨w2, hw2, d1, d2, d3, hB2, hz2, hP2⟩ := hY
  rw [← hw2]
  clear hw2 c1 f1 c2 f2
  have hbb : w.heap.size + 2 < w1.heap.size := by omega
  generalize w1.heap.size = b at *
  have hC := pprogram_any hP2
  rcases hq : Px.program ts with ⟨p, l'⟩ | ⟨a, er⟩
  · rw [hq] at hC
    go_wp2_with fail
    refine hC.mono ?_
    rintro e w4 ⟨v, rfl, hpr, hP4, hf4⟩
    obtain ⟨sa, sn, sc, fa, fn, fc, rfl⟩ := hpr.cells
    have g1 := (hf4.block _ (by omega) (by omega)).trans d1
    have g2 := (hf4.block _ (by omega) (by omega)).trans d2
    have g3 := (hf4.block _ (by omega) (by omega)).trans d3
    have hB4 : Below w.heap.size w w4 := hB2.trans (below_of_fo (hf4.mono (by omega)) (by omega))
    have hz4 := hf4.size
    have l1' : w.heap.size < w4.heap.size := by omega
    have l2' : w.heap.size + 1 < w4.heap.size := by omega
    have l3' : w.heap.size + 1 + 1 < w4.heap.size := by omega
    have c1 := cell_of_one g2
    have f1 := free_of_one g2
    have c2 := cell_of_one g3
    have f2 := free_of_one g3
    obtain ⟨x0, x1, x2, k0, k1, k2⟩ := cells_of3 g1
    have hX := set_three (p := w.heap.size) g1 g2 g3 hB4 (.int .i64 0) (.int .i64 0) (.int .i64 p.version) (.slice sa sn sc) (.slice fa fn fc)
    clear hC hf4 hP4
    replace hres : Aside (res = .inl p) := by
      show _ = _
      rw [hres.out, hq]
    clear hq
    go_wp2
    refine leaves_cons (f := 18) (args := #[.pointer (some ⟨w.heap.size, 0, none⟩), .pointer (some ⟨w.heap.size + 1, 0, none⟩), .pointer (some ⟨w.heap.size + 1 + 1, 0, none⟩)]) (by simp) (by simp [go_sem]) ?_
    refine (pcatch_idle _ _ _ _).mono ?_
    rintro e u' w'' ⟨rfl, rfl, rfl⟩
    obtain ⟨wF, hwF, r1, r2, r3, hB3, hzF, hoF⟩ := hX
    have u1 := cell_of_one r2
    have u2 := cell_of_one r3
    obtain ⟨v0, v1, v2, _⟩ := cells_of3 r1
    have hpF : IsPr (From w.heap.size) wF p (.agg #[.int .i64 p.version, .slice sa sn sc, .slice fa fn fc]) := (hpr.since ⟨by omega, fun k hk _ => hoF k (by have : w2.heap.size ≤ k := hk; omega)⟩).base (from_mono (by omega))
    rw [← hwF]
    clear hwF hoF hpr
    simp [Leaves, settle, results, Tryz.results10, go_sem, u1, u2, v0, v1, v2]
    rw [hres.out]
    exact ⟨⟨_, rfl, hpF⟩, hB3⟩
  · rw [hq] at hC
    replace hres : Aside (res = .inr (a, er)) := by
      show _ = _
      rw [hres.out, hq]
    clear hq
    go_wp2_with fail
    refine hC.mono ?_
    rintro e w4 ⟨rfl, hf4⟩
    have g1 := (hf4.block _ (by omega) (by omega)).trans d1
    have g2 := (hf4.block _ (by omega) (by omega)).trans d2
    have g3 := (hf4.block _ (by omega) (by omega)).trans d3
    have hB4 : Below w.heap.size w w4 := hB2.trans (below_of_fo (hf4.mono (by omega)) (by omega))
    clear hC hf4
    refine leaves_cons (f := 18) (args := #[.pointer (some ⟨w.heap.size, 0, none⟩), .pointer (some ⟨w.heap.size + 1, 0, none⟩), .pointer (some ⟨w.heap.size + 1 + 1, 0, none⟩)]) (by simp) (by simp [go_sem]) ?_
    refine (pcatch_thrown w.heap.size (w.heap.size + 1) (w.heap.size + 1 + 1) a er 0 0 (by omega) (by omega) [] _ g1 g2 g3).mono ?_
    rintro e u' w'' ⟨rfl, rfl, r1, r2, r3, hbw⟩
    have hbb' : Below w.heap.size w w'' := hB4.trans hbw
    have u1 := cell_of_one r2
    have u2 := cell_of_one r3
    obtain ⟨v0, v1, v2, _⟩ := cells_of3 r1
    clear r1 r2 r3 hbw
    simp [Leaves, settle, results, Tryz.results10, go_sem, u1, u2, v0, v1, v2]
    rw [hres.out]
    exact ⟨rfl, hbb'⟩
/-- Parse answers what the document says. -/
theorem parse_done : ParseOk := by
  intro s w henv hm
  unfold Px.parse
  rcases hl : Lx.lex true s.data.toList with ts | ⟨a, er⟩
  · exact pparse_good s w henv hm ts hl
  · have hp : Px.parse s.data.toList = .inr (a, er) := by unfold Px.parse; rw [hl]
    have h0 : er ≠ 0 := by
      rcases parse_bad_cases hp with h | ⟨ts, h, _⟩
      · exact h.2.1
      · rw [hl] at h; simp at h
    exact pparse_bad s w henv hm a er hl h0
end Go.Proofs.YtifebbdjdllfpaaGreatDoor
