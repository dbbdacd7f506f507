/- The whole function Lex: a fault that was thrown is recovered. -/
import Derived.Test.YtifebbdjdllfpaaGreatDoorTokens
namespace Go.Proofs.YtifebbdjdllfpaaGreatDoor
open Go.RowKit
set_option linter.unusedSimpArgs false
set_option linter.unusedVariables false

set_option maxRecDepth 100000 in
set_option maxHeartbeats 2000000 in
theorem faultOf_any (a er : Nat) (w : World) : Calls Tryz.prog 32 #[.iface 98 (.agg #[.int .i64 a, .int .i64 er])] w fun e w' => e = .returned (.tuple #[.int .i64 a, .int .i64 er]) ∧ Below w.heap.size w w' := by
  have hta : ∀ w1 : World, (Instr.typeAssert (.iface 98 (.agg #[.int .i64 a, .int .i64 er])) 20 98 false).run Tryz.prog w1 = .ok (.agg #[.int .i64 a, .int .i64 er]) w1 := fun _ => by kernel_rfl
  go_enter Tryz.func32, Tryz.ntmps32
  go_wp2
  go_quiet (fail)
  go_wp2
  go_ret2
  exact ⟨rfl, below_drewN ((Below.refl _ _).alloc (Nat.le_refl _) _) _⟩

theorem slice_of {w : World} {base : Nat} {e : TypeId} {sz : Nat} {v : Value} {n : Nat} {xs : List Value} (h : w.ownsRow base e sz v n xs) : ∃ ao cap, v = .slice ao n cap := by
  rcases h.2 with ⟨hv, h0⟩ | ⟨g, cap, cur, hv, _⟩
  · exact ⟨none, 0, by rw [hv, h0]⟩
  · exact ⟨_, _, hv⟩
theorem cell_ne {w : World} {p q : Nat} {v : Value} (h : p ≠ q) : (w.setCell ⟨p, 0, none⟩ v).cell? ⟨q, 0, none⟩ = w.cell? ⟨q, 0, none⟩ :=
  World.cell?_setCell_other _ _ _ _ (by intro e; exact h (congrArg Addr.block e))

set_option maxHeartbeats 2000000 in
theorem catch_idle (p q r : Addr) (w : World) :
    CallsD Tryz.prog 31 #[.pointer (some p), .pointer (some q), .pointer (some r)] .returning w fun e u' w' => e = .returned (.tuple #[]) ∧ u' = .returning ∧ w' = w := by
  refine callsD_of_wpS Tryz.func31 rfl fun c₀ cs hu => ?_
  apply wpS_seq
  apply wpS_region
  simp [wpOpsS, go_sem, recoverD, hu, Tryz.ntmps31, Exit.thenS]
  refine wpS_of_wp ?_
  go_wp2
  cases c₀
  simp_all [bodyPostS, results, Tryz.results31]

set_option maxHeartbeats 2000000 in
theorem catch_thrown (p q r : Nat) (a er : Nat) (older : List PanicEntry) (w : World) (x y z : Value) (hp : w.cell? ⟨p, 0, none⟩ = some x) (hq : w.cell? ⟨q, 0, none⟩ = some y) (hr : w.cell? ⟨r, 0, none⟩ = some z)
    (fp : w.frozen? ⟨p, 0, none⟩ = false) (fq : w.frozen? ⟨q, 0, none⟩ = false) (fr : w.frozen? ⟨r, 0, none⟩ = false) (hpq : p < q) (hqr : q < r) :
    CallsD Tryz.prog 31 #[.pointer (some ⟨p, 0, none⟩), .pointer (some ⟨q, 0, none⟩), .pointer (some ⟨r, 0, none⟩)] (.panicking ({ v := .iface 98 (.agg #[.int .i64 a, .int .i64 er]), recovered := false } :: older)) w fun e u' w' =>
      e = .returned (.tuple #[]) ∧ u' = .panicking ({ v := .iface 98 (.agg #[.int .i64 a, .int .i64 er]), recovered := true } :: older) ∧
      w'.cell? ⟨p, 0, none⟩ = some (.slice none 0 0) ∧ w'.cell? ⟨q, 0, none⟩ = some (.int .i64 a) ∧ w'.cell? ⟨r, 0, none⟩ = some (.int .i64 er) ∧ Below p w w' := by
  refine callsD_of_wpS Tryz.func31 rfl fun c₀ cs hu => ?_
  apply wpS_seq
  apply wpS_region
  simp [wpOpsS, go_sem, recoverD, hu, Tryz.ntmps31, Exit.thenS]
  refine wpS_of_wp ?_
  have lp : p < w.heap.size := Lib.lt_of_cell hp
  have lq : q < w.heap.size := Lib.lt_of_cell hq
  have lr : r < w.heap.size := Lib.lt_of_cell hr
  have e1 : ∀ w1, Below (w.setCell ⟨p, 0, none⟩ (.slice none 0 0)).heap.size (w.setCell ⟨p, 0, none⟩ (.slice none 0 0)) w1 →
      w1.cell? ⟨p, 0, none⟩ = some (.slice none 0 0) ∧ w1.cell? ⟨q, 0, none⟩ = some y ∧ w1.cell? ⟨r, 0, none⟩ = some z ∧ w1.frozen? ⟨q, 0, none⟩ = false ∧ w1.frozen? ⟨r, 0, none⟩ = false := by
    intro w1 hb
    have hsz : (w.setCell ⟨p, 0, none⟩ (.slice none 0 0)).heap.size = w.heap.size := by simp [World.setCell]
    refine ⟨?_, ?_, ?_, ?_, ?_⟩
    · rw [hb.cell (p := ⟨p, 0, none⟩) (by rw [hsz]; exact lp)]; exact World.cell?_setCell_same _ _ _ hp
    · rw [hb.cell (p := ⟨q, 0, none⟩) (by rw [hsz]; exact lq), cell_ne (by omega)]; exact hq
    · rw [hb.cell (p := ⟨r, 0, none⟩) (by rw [hsz]; exact lr), cell_ne (by omega)]; exact hr
    · rw [hb.frozen (p := ⟨q, 0, none⟩) (by rw [hsz]; exact lq), World.frozen?_setCell]; exact fq
    · rw [hb.frozen (p := ⟨r, 0, none⟩) (by rw [hsz]; exact lr), World.frozen?_setCell]; exact fr
  go_wp2_with (go_at_call 32; refine (faultOf_any a er _).mono ?_; rintro e w1 ⟨rfl, hb1⟩; obtain ⟨k1, k2, k3, k4, k5⟩ := e1 w1 hb1)
  have hfin : ((w1.setCell ⟨q, 0, none⟩ (.int .i64 a)).setCell ⟨r, 0, none⟩ (.int .i64 er)).cell? ⟨p, 0, none⟩ = some (.slice none 0 0) ∧ ((w1.setCell ⟨q, 0, none⟩ (.int .i64 a)).setCell ⟨r, 0, none⟩ (.int .i64 er)).cell? ⟨q, 0, none⟩ = some (.int .i64 a) ∧
      ((w1.setCell ⟨q, 0, none⟩ (.int .i64 a)).setCell ⟨r, 0, none⟩ (.int .i64 er)).cell? ⟨r, 0, none⟩ = some (.int .i64 er) ∧ Below p w ((w1.setCell ⟨q, 0, none⟩ (.int .i64 a)).setCell ⟨r, 0, none⟩ (.int .i64 er)) := by
    refine ⟨?_, ?_, ?_, ?_⟩
    · rw [cell_ne (by omega), cell_ne (by omega)]; exact k1
    · rw [cell_ne (by omega)]; exact World.cell?_setCell_same _ _ _ k2
    · refine World.cell?_setCell_same (u := z) _ _ _ ?_
      rw [cell_ne (by omega)]; exact k3
    · have h0 : Below p w w1 := ((Below.refl p w).setCell (p := ⟨p, 0, none⟩) (Nat.le_refl _) (.slice none 0 0)).trans (hb1.mono (by simp [World.setCell]; omega))
      exact (h0.setCell (p := ⟨q, 0, none⟩) (by show p ≤ q; omega) _).setCell (p := ⟨r, 0, none⟩) (by show p ≤ r; omega) _
  clear e1 hb1 k1 k2 k3 k4 k5 hp hq hr fp fq fr
  generalize ((w1.setCell ⟨q, 0, none⟩ (.int .i64 a)).setCell ⟨r, 0, none⟩ (.int .i64 er)) = w2 at *
  cases c₀
  simp_all [bodyPostS, results, Tryz.results31]

/-- What Lex answers: the tokens in a slice of its own; or no tokens, a place and an error. -/
def LexPost (res : Lx.Out) (w : World) (e : Ending) (w' : World) : Prop :=
  match res with
  | .inl ts => (∃ v, e = .returned (.tuple #[v, .int .i64 0, .int .i64 0]) ∧ w'.ownsRow w.heap.size 81 4 v ts.length (rowOf ts)) ∧ Below w.heap.size w w'
  | .inr (a, er) => e = .returned (.tuple #[.slice none 0 0, .int .i64 a, .int .i64 er]) ∧ Below w.heap.size w w'

abbrev lexW (w : World) : World := ((w.alloc (.cells #[.slice none 0 0] 47)).alloc (.cells #[.int .i64 0] 3)).alloc (.cells #[.int .i64 0] 32)
theorem lexW_below (w : World) : Below w.heap.size w (lexW w) := (((Below.refl _ _).alloc (Nat.le_refl _) _).alloc (by simp) _).alloc (by simp; omega) _
theorem lexW_size (w : World) : (lexW w).heap.size = w.heap.size + 3 := by simp
theorem lexW_cells {w w1 : World} (h : Below (lexW w).heap.size (lexW w) w1) :
    w1.cell? ⟨w.heap.size, 0, none⟩ = some (.slice none 0 0) ∧ w1.cell? ⟨w.heap.size + 1, 0, none⟩ = some (.int .i64 0) ∧ w1.cell? ⟨w.heap.size + 1 + 1, 0, none⟩ = some (.int .i64 0) ∧
    w1.frozen? ⟨w.heap.size, 0, none⟩ = false ∧ w1.frozen? ⟨w.heap.size + 1, 0, none⟩ = false ∧ w1.frozen? ⟨w.heap.size + 1 + 1, 0, none⟩ = false := by
  have hz := lexW_size w
  refine ⟨?_, ?_, ?_, ?_, ?_, ?_⟩
  · rw [h.cell (p := ⟨w.heap.size, 0, none⟩) (by rw [hz]; show w.heap.size < _; omega)]; simp [lexW, go_sem]
  · rw [h.cell (p := ⟨w.heap.size + 1, 0, none⟩) (by rw [hz]; show w.heap.size + 1 < _; omega)]; simp [lexW, go_sem]
  · rw [h.cell (p := ⟨w.heap.size + 1 + 1, 0, none⟩) (by rw [hz]; show w.heap.size + 1 + 1 < _; omega)]; simp [lexW, go_sem]
  · rw [h.frozen (p := ⟨w.heap.size, 0, none⟩) (by rw [hz]; show w.heap.size < _; omega)]; simp [lexW, go_sem]
  · rw [h.frozen (p := ⟨w.heap.size + 1, 0, none⟩) (by rw [hz]; show w.heap.size + 1 < _; omega)]; simp [lexW, go_sem]
  · rw [h.frozen (p := ⟨w.heap.size + 1 + 1, 0, none⟩) (by rw [hz]; show w.heap.size + 1 + 1 < _; omega)]; simp [lexW, go_sem]

set_option maxHeartbeats 4000000 in
theorem lex_long (s : ByteArray) (w : World) (hs : 16384 < s.size) (hm : s.size ≤ maxLen) :
    Calls Tryz.prog 17 #[.string s] w fun e w' => e = .returned (.tuple #[.slice none 0 0, .int .i64 16384, .int .i64 3]) ∧ Below w.heap.size w w' := by
  unfold maxLen at hm
  have hb : ∀ o1 o2 o3, Below w.heap.size w (((w.alloc o1).alloc o2).alloc o3) := fun o1 o2 o3 => (((Below.refl _ _).alloc (Nat.le_refl _) _).alloc (by simp) _).alloc (by simp; omega) _
  go_enter_defers Tryz.func17, Tryz.ntmps17
  go_wp2
  simp [bodyPostD, Leaves, settle, results, Tryz.results17, go_sem]
  exact hb _ _ _

set_option maxHeartbeats 4000000 in
theorem lex_short (s : ByteArray) (w : World) (henv : Env w) (hs : s.size ≤ 16384) :
    Calls Tryz.prog 17 #[.string s] w fun e w' => LexPost (Lx.lexGo dotC s.data.toList 0 0) w e w' := by
  have hmf : ∀ (fn : Fn) (first cap : Array Value) (w : World), (Instr.makeFunc fn first cap).run Tryz.prog w = .ok (.func fn first cap) w := fun _ _ _ _ => rfl
  have htk := tokens_any s (lexW w) (henv.below (lexW_below w) henv.lt) hs
  generalize Lx.lexGo dotC s.data.toList 0 0 = res at htk ⊢
  rcases res with ts | ⟨a, er⟩
  · replace htk : Calls Tryz.prog 33 #[.string s] (lexW w) fun e w' => (∃ v, e = .returned v ∧ w'.ownsRow (lexW w).heap.size 81 4 v ts.length (rowOf ts)) ∧ Below (lexW w).heap.size (lexW w) w' := htk
    go_enter_defers Tryz.func17, Tryz.ntmps17
    go_wp2_with (go_at_call 33; refine htk.mono ?_; rintro e w1 ⟨⟨v, rfl, hown⟩, hb1⟩; obtain ⟨k0, k1, k2, f0, f1, f2⟩ := lexW_cells hb1; obtain ⟨ao, cap, hv⟩ := slice_of hown; subst hv)
    refine leaves_cons (f := 31) (args := #[.pointer (some ⟨w.heap.size, 0, none⟩), .pointer (some ⟨w.heap.size + 1, 0, none⟩), .pointer (some ⟨w.heap.size + 1 + 1, 0, none⟩)]) (by simp) (by simp [go_sem]) ?_
    refine (catch_idle _ _ _ _).mono ?_
    rintro e u' w'' ⟨rfl, rfl, rfl⟩
    have hz := lexW_size w
    have g0 : (((w1.setCell ⟨w.heap.size, 0, none⟩ (.slice ao ts.length cap)).setCell ⟨w.heap.size + 1, 0, none⟩ (.int .i64 0)).setCell ⟨w.heap.size + 1 + 1, 0, none⟩ (.int .i64 0)).cell? ⟨w.heap.size, 0, none⟩ = some (.slice ao ts.length cap) := by
      rw [cell_ne (by omega), cell_ne (by omega)]; exact World.cell?_setCell_same _ _ _ k0
    have g1 : (((w1.setCell ⟨w.heap.size, 0, none⟩ (.slice ao ts.length cap)).setCell ⟨w.heap.size + 1, 0, none⟩ (.int .i64 0)).setCell ⟨w.heap.size + 1 + 1, 0, none⟩ (.int .i64 0)).cell? ⟨w.heap.size + 1, 0, none⟩ = some (.int .i64 0) := by
      rw [cell_ne (by omega)]; exact World.cell?_setCell_same _ _ _ (by rw [cell_ne (by omega)]; exact k1)
    have g2 : (((w1.setCell ⟨w.heap.size, 0, none⟩ (.slice ao ts.length cap)).setCell ⟨w.heap.size + 1, 0, none⟩ (.int .i64 0)).setCell ⟨w.heap.size + 1 + 1, 0, none⟩ (.int .i64 0)).cell? ⟨w.heap.size + 1 + 1, 0, none⟩ = some (.int .i64 0) :=
      World.cell?_setCell_same _ _ _ (by rw [cell_ne (by omega), cell_ne (by omega)]; exact k2)
    have hbb : Below w.heap.size w (((w1.setCell ⟨w.heap.size, 0, none⟩ (.slice ao ts.length cap)).setCell ⟨w.heap.size + 1, 0, none⟩ (.int .i64 0)).setCell ⟨w.heap.size + 1 + 1, 0, none⟩ (.int .i64 0)) :=
      ((((lexW_below w).trans (hb1.mono (by omega))).setCell (p := ⟨w.heap.size, 0, none⟩) (by show w.heap.size ≤ w.heap.size; omega) _).setCell (p := ⟨w.heap.size + 1, 0, none⟩) (by show w.heap.size ≤ w.heap.size + 1; omega) _).setCell (p := ⟨w.heap.size + 1 + 1, 0, none⟩) (by show w.heap.size ≤ w.heap.size + 1 + 1; omega) _
    have hoo := owns_mono (ownsRow_setCell_below (ownsRow_setCell_below (ownsRow_setCell_below hown (a := ⟨w.heap.size, 0, none⟩) (by rw [hz]; show w.heap.size < _; omega) (.slice ao ts.length cap)) (a := ⟨w.heap.size + 1, 0, none⟩) (by rw [hz]; show w.heap.size + 1 < _; omega) (.int .i64 0)) (a := ⟨w.heap.size + 1 + 1, 0, none⟩) (by rw [hz]; show w.heap.size + 1 + 1 < _; omega) (.int .i64 0)) (show w.heap.size ≤ (lexW w).heap.size by omega)
    generalize (((w1.setCell ⟨w.heap.size, 0, none⟩ (.slice ao ts.length cap)).setCell ⟨w.heap.size + 1, 0, none⟩ (.int .i64 0)).setCell ⟨w.heap.size + 1 + 1, 0, none⟩ (.int .i64 0)) = w2 at *
    simp [Leaves, settle, results, Tryz.results17, go_sem, g0, g1, g2]
    exact ⟨⟨_, rfl, hoo⟩, hbb⟩
  · replace htk : Calls Tryz.prog 33 #[.string s] (lexW w) fun e w' => e = .panicked (thrown a er) ∧ Below (lexW w).heap.size (lexW w) w' := htk
    go_enter_defers Tryz.func17, Tryz.ntmps17
    go_wp2_with (go_at_call 33; refine htk.mono ?_; rintro e w1 ⟨rfl, hb1⟩; obtain ⟨k0, k1, k2, f0, f1, f2⟩ := lexW_cells hb1)
    refine leaves_cons (f := 31) (args := #[.pointer (some ⟨w.heap.size, 0, none⟩), .pointer (some ⟨w.heap.size + 1, 0, none⟩), .pointer (some ⟨w.heap.size + 1 + 1, 0, none⟩)]) (by simp) (by simp [go_sem]) ?_
    refine (catch_thrown w.heap.size (w.heap.size + 1) (w.heap.size + 1 + 1) a er [] _ _ _ _ k0 k1 k2 f0 f1 f2 (by omega) (by omega)).mono ?_
    rintro e u' w'' ⟨rfl, rfl, g0, g1, g2, hbw⟩
    have hbb : Below w.heap.size w w'' := ((lexW_below w).trans (hb1.mono (by rw [lexW_size]; omega))).trans hbw
    simp [Leaves, settle, results, Tryz.results17, go_sem, g0, g1, g2]
    exact ⟨rfl, hbb⟩
end Go.Proofs.YtifebbdjdllfpaaGreatDoor
