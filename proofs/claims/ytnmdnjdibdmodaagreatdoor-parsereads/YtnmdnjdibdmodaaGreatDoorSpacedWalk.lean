/- The statements' own function that writes a text anew from its tokens. -/
import Derived.Test.YtnmdnjdibdmodaaGreatDoorBrackets
import Derived.Test.YtnmdnjdibdmodaaGreatDoorQuote
import Derived.Deep.Cut
import Derived.Deep.CutRange
namespace Go.Proofs.YtnmdnjdibdmodaaGreatDoor
open Go.RowKit
set_option linter.unusedSimpArgs false
set_option linter.unusedVariables false

def pk : Nat → List UInt8
  | 0 => [32]
  | 1 => [10]
  | 2 => [32, 35, 120, 10]
  | _ => [9]
theorem pk_pad (k : Nat) : Pad (pk k) ∧ pk k ≠ [] := by
  match k with
  | 0 => exact ⟨⟨fun Y => by simp [pk, Lx.skipF, Lx.isBlank], fun b => by cases b <;> rfl, fun c h => by simp [pk] at h; subst h; exact Or.inl rfl⟩, by simp [pk]⟩
  | 1 => exact ⟨⟨fun Y => by simp [pk, Lx.skipF, Lx.isBlank], fun b => by cases b <;> rfl, fun c h => by simp [pk] at h; subst h; exact Or.inl rfl⟩, by simp [pk]⟩
  | 2 => exact ⟨⟨fun Y => by simp [pk, Lx.skipF, Lx.isBlank]; omega, fun b => by cases b <;> rfl, fun c h => by simp [pk] at h; subst h; exact Or.inl rfl⟩, by simp [pk]⟩
  | k + 3 => exact ⟨⟨fun Y => by simp [pk, Lx.skipF, Lx.isBlank], fun b => by cases b <;> rfl, fun c h => by simp [pk] at h; subst h; exact Or.inl rfl⟩, by simp [pk]⟩
theorem pk_len (k : Nat) : (pk k).length ≤ 4 := by
  match k with
  | 0 => decide
  | 1 => decide
  | 2 => decide
  | k + 3 => exact (by decide : 1 ≤ 4)
def padAt (len : Nat) (z : Nat → Nat) (j : Nat) : Nat := if j < len then z j else 0
def padS (len : Nat) (z : Nat → Nat) (j : Nat) : List UInt8 := pk (padAt len z j % 4)
def arS (ar : Bool) (len : Nat) (z : Nat → Nat) (j : Nat) (t : Lx.Tok) : Bool := ar && (decide (t.kind = 2) && (decide (1 < j) && decide (padAt len z j / 4 % 2 = 1)))
theorem bits4 : ∀ z : Nat, z < 256 → bits .and .u8 (z : Int) 4 = ((z / 4 % 2 * 4 : Nat) : Int) := by decide +kernel
theorem bits3 : ∀ z : Nat, z < 256 → bits .and .u8 (z : Int) 3 = ((z % 4 : Nat) : Int) := by decide +kernel
/-- A slice of bytes that came in. -/
def BtsP (w : World) (a : Option Addr) (len : Nat) (z : Nat → Nat) : Prop := len ≤ maxLen ∧ (len = 0 ∨ ∃ b o, a = some ⟨b, o, none⟩ ∧ b < w.heap.size ∧ ∀ k, k < len → w.cell? ⟨b, o + k, none⟩ = some (.int .u8 (z k : Nat)) ∧ z k < 256)
theorem text_len (dot : Bool) (l : List UInt8) : ∀ (N i c : Nat) (ts : List Lx.Tok), l.length - i < N → i ≤ l.length → Lx.lexGo dot (l.drop i) i c = .inl ts → ∀ t ∈ ts, t.text.length ≤ l.length + 256 := by
  intro N
  induction N with
  | zero => intro i c ts hN; omega
  | succ N ih =>
    intro i c ts hN hi h
    obtain ⟨u, rest, rfl, hpl, hc, hcase⟩ := first_tok h
    have hkl := Lx.skip_le false (l.drop i)
    simp only [List.length_drop] at hkl
    rcases hcase with ⟨hd, rfl, rfl⟩ | ⟨x, r, k, t, m, n, hd, ht, rfl, hrest⟩
    · intro t ht
      simp at ht
      subst ht
      simp
    · have hkn := tok_kinds ht
      have hlen := congrArg List.length hd
      simp at hlen
      rw [List.drop_drop, ← Nat.add_assoc] at hrest
      intro t2 ht2
      simp only [List.mem_cons] at ht2
      rcases ht2 with rfl | ht2
      · rcases tok_text ht with h3 | h3
        · have := h3.2.2
          simp only [plainB, Bool.and_eq_true, decide_eq_true_eq] at this
          show t.length ≤ _
          omega
        · simp only [h3.2, List.length_take, List.length_cons]; omega
      · exact ih (i + Lx.skipF false (l.drop i) + n) (c + 1) rest (by omega) (by omega) hrest t2 ht2
abbrev pkObj : Obj := .cells #[.string ⟨#[32]⟩, .string ⟨#[10]⟩, .string ⟨#[32, 35, 120, 10]⟩, .string ⟨#[9]⟩] 70
theorem word_len (k : Nat) (t : List UInt8) : (word k t).length ≤ 2 * t.length + 2 := by
  unfold word; split
  · have := escT_len t
    simp [quoteT]; omega
  · omega
theorem sp_step {p : Nat → List UInt8} {a : Nat → Lx.Tok → Bool} {ts : List Lx.Tok} {q : Nat} {t : Lx.Tok} {pre : List UInt8} {all : List UInt8} (h : pre ++ sp p a q (ts.drop q) = all) (ht : ts[q]? = some t) (W : List UInt8) (hW : W = if a q t then 40 :: word t.kind t.text ++ [41] else word t.kind t.text) :
    (pre ++ p q ++ W) ++ sp p a (q + 1) (ts.drop (q + 1)) = all := by
  obtain ⟨hlt, he⟩ := List.getElem?_eq_some_iff.1 ht
  rw [List.drop_eq_getElem_cons hlt, he, sp, ← hW] at h
  rw [← h]; simp
theorem cat_three (pre pd W : List UInt8) : (⟨pre.toArray⟩ ++ ⟨pd.toArray⟩ ++ ⟨W.toArray⟩ : ByteArray) = ⟨(pre ++ pd ++ W).toArray⟩ := bytes_same (by rw [cat_list, cat_list])
theorem cat_wrap (W : List UInt8) : (⟨#[40]⟩ ++ ⟨W.toArray⟩ ++ ⟨#[41]⟩ : ByteArray) = ⟨(40 :: W ++ [41]).toArray⟩ := bytes_same (by rw [cat_list, cat_list]; simp)

set_option maxRecDepth 100000 in
set_option maxHeartbeats 16000000 in
theorem spaced_any (ts : List Lx.Tok) (ga ca : Nat) (a : Option Addr) (len cap : Nat) (z : Nat → Nat) (ar : Bool) (w : World) (hrow : TokRow w ga ts) (hga : ga < w.heap.size) (hfew : ts.length ≤ 4096) (htx : ∀ t ∈ ts, t.text.length ≤ 16640) (hpads : BtsP w a len z) :
    Calls Tryz.prog 15 #[.slice (some ⟨ga, 0, none⟩) ts.length ca, .slice a len cap, .bool ar] w fun e w' => e = .returned (.string ⟨(sp (padS len z) (arS ar len z) 0 ts).toArray⟩) ∧ Below w.heap.size w w' := by
  have hplen := hpads.1
  unfold maxLen at hplen
  replace hpads : Aside _ := (show Aside _ from hpads)
  replace htx : Aside _ := (show Aside _ from htx)
  go_enter Tryz.func15, Tryz.ntmps15
  go_wp2_with fail
  go_loopg [7, 15] ts.length (fun g out ix wr => ∃ (q : Nat) (pre : List UInt8), q ≤ ts.length ∧ g = ts.length - q ∧ ix = .int .i64 q ∧ out = .string ⟨pre.toArray⟩ ∧ pre.length ≤ q * 40000 ∧ Below w.heap.size w wr ∧ Aside (pre ++ sp (padS len z) (arS ar len z) q (ts.drop q) = sp (padS len z) (arS ar len z) 0 ts))
  case atStart => exact ⟨0, [], Nat.zero_le _, rfl, rfl, rfl, by simp, Below.refl _ _, by show _ = _; simp⟩
  case round =>
    obtain ⟨q, pre, hq, rfl, rfl, rfl, hpre, hB, hA⟩ := hrel
    by_cases hlt : q < ts.length
    · obtain ⟨t, ht⟩ : ∃ t, ts[q]? = some t := ⟨ts[q], List.getElem?_eq_getElem hlt⟩
      obtain ⟨x0, x1, x2, x3⟩ := (hrow.below hB hga) q t ht
      have hltI : (q : Int) < (ts.length : Int) := by omega
      have hgl : ga < wr.heap.size := by have := hB.size; omega
      have htl := htx.out t (List.mem_of_getElem? ht)
      have hst : Aside (∀ W, (W = if arS ar len z q t then 40 :: word t.kind t.text ++ [41] else word t.kind t.text) → (pre ++ padS len z q ++ W) ++ sp (padS len z) (arS ar len z) (q + 1) (ts.drop (q + 1)) = sp (padS len z) (arS ar len z) 0 ts) := fun W hW => sp_step hA.out ht W hW
      have hwl := word_len t.kind t.text
      have hsz : (⟨t.text.toArray⟩ : ByteArray).size = t.text.length := by show t.text.toArray.size = _; simp
      have hpz : (⟨pre.toArray⟩ : ByteArray).size = pre.length := by show pre.toArray.size = _; simp
      obtain ⟨pd, hpd⟩ : ∃ pd, Aside (pd = padAt len z q) := ⟨_, rfl⟩
      have hway : Aside ((∃ bp op, a = some ⟨bp, op, none⟩ ∧ bp < wr.heap.size ∧ q < len ∧ wr.cell? ⟨bp, op + q, none⟩ = some (.int .u8 (pd : Nat))) ∨ (¬ q < len ∧ pd = 0)) := by
        show _ ∨ _
        rw [hpd.out]
        unfold padAt
        by_cases hqp : q < len
        · rw [if_pos hqp]
          rcases hpads.out.2 with h0 | ⟨bp, op, e, hbp, hz⟩
          · omega
          · exact Or.inl ⟨bp, op, e, by have := hB.size; omega, hqp, by rw [hB.cell (p := ⟨bp, op + q, none⟩) hbp]; exact (hz q hqp).1⟩
        · rw [if_neg hqp]
          exact Or.inr ⟨hqp, rfl⟩
      have hp256 : pd < 256 := by
        rw [hpd.out]; unfold padAt; split
        · rename_i hqp
          rcases hpads.out.2 with h0 | ⟨bp, op, e, hbp, hz⟩
          · omega
          · exact (hz q hqp).2
        · omega
      clear hpads hrow hA
      go_upto_if 23 with fail
      go_cut [10, 15] from 15 to 63 (fun p i wc => p = .int .u8 (pd : Nat) ∧ i = .int .i64 q ∧ wc = wr.alloc (.cells #[.int .i64 t.kind, .string ⟨t.text.toArray⟩, .int .i64 t.num, .int .i64 t.place] 39))
      case first =>
        rcases hway.out with ⟨bp, op, rfl, hbp, hqp, hz3⟩ | ⟨hqp, rfl⟩
        · clear hway
          go_wp2_with fail
          go_meet
          exact ⟨rfl, rfl, rfl⟩
        · clear hway
          go_wp2_with fail
          go_meet
          exact ⟨rfl, rfl, rfl⟩
      case rest =>
        obtain ⟨rfl, rfl, rfl⟩ := hcut
        clear hway x0 x1 x2 x3
        go_upto_region 9 with fail
        have d0 : ((wr.alloc (.cells #[.int .i64 t.kind, .string ⟨t.text.toArray⟩, .int .i64 t.num, .int .i64 t.place] 39)).alloc pkObj).cell? ⟨wr.heap.size, 0, none⟩ = some (.int .i64 t.kind) := by simp
        have d1 : ((wr.alloc (.cells #[.int .i64 t.kind, .string ⟨t.text.toArray⟩, .int .i64 t.num, .int .i64 t.place] 39)).alloc pkObj).cell? ⟨wr.heap.size, 1, none⟩ = some (.string ⟨t.text.toArray⟩) := by simp
        have d2 : ∀ k, k < 4 → ((wr.alloc (.cells #[.int .i64 t.kind, .string ⟨t.text.toArray⟩, .int .i64 t.num, .int .i64 t.place] 39)).alloc pkObj).cell? ⟨wr.heap.size + 1, k, none⟩ = some (.string ⟨(pk k).toArray⟩) := by
          intro k hk
          match k, hk with
          | 0, _ => simp [pk]
          | 1, _ => simp [pk]
          | 2, _ => simp [pk]
          | 3, _ => simp [pk]
        have d3 : wr.heap.size < ((wr.alloc (.cells #[.int .i64 t.kind, .string ⟨t.text.toArray⟩, .int .i64 t.num, .int .i64 t.place] 39)).alloc pkObj).heap.size := by simp; omega
        have d4 : wr.heap.size + 1 < ((wr.alloc (.cells #[.int .i64 t.kind, .string ⟨t.text.toArray⟩, .int .i64 t.num, .int .i64 t.place] 39)).alloc pkObj).heap.size := by simp
        have hB8 : Below w.heap.size w ((wr.alloc (.cells #[.int .i64 t.kind, .string ⟨t.text.toArray⟩, .int .i64 t.num, .int .i64 t.place] 39)).alloc pkObj) := (hB.alloc hB.size _).alloc (by have := hB.size; simp; omega) _
        generalize ((wr.alloc (.cells #[.int .i64 t.kind, .string ⟨t.text.toArray⟩, .int .i64 t.num, .int .i64 t.place] 39)).alloc pkObj) = w8 at *
        generalize wr.heap.size + 1 = b11 at *
        generalize wr.heap.size = b9 at *
        have hb3 := bits3 pd hp256
        have hb4 := bits4 pd hp256
        have hpk : Aside (pk (pd % 4) = padS len z q) := by show _ = _; rw [hpd.out]; rfl
        have hq4 : pd % 4 < 4 := Nat.mod_lt _ (by decide)
        have harf : Aside (∀ b, (ar && (decide (t.kind = 2) && (decide (1 < q) && decide (pd / 4 % 2 = 1)))) = b → arS ar len z q t = b) := by
          show ∀ b, _
          intro b h; unfold arS; rw [← hpd.out]; exact h
        have d5 := d2 (pd % 4) hq4
        clear d2 hgl
        generalize pd % 4 = q4 at *
        have hl4 := pk_len q4
        have c1 : ¬ 9223372036854775807 < pre.length + (pk q4).length := by omega
        have hqlen := escT_len t.text
        by_cases k3 : t.kind = 3
        · rw [k3] at d0
          have hql : (quoteT t.text).length ≤ 2 * t.text.length + 2 := by simp [quoteT]; omega
          have c2 : ¬ 9223372036854775807 < pre.length + (pk q4).length + (quoteT t.text).length := by omega
          have hquo := quote_any ⟨t.text.toArray⟩ w8 (by rw [hsz]; omega)
          rw [show (⟨t.text.toArray⟩ : ByteArray).data.toList = t.text by simp] at hquo
          have harF : Aside (arS ar len z q t = false) := harf.out false (by rw [k3]; simp)
          have hwd : Aside (word t.kind t.text = quoteT t.text) := by show _ = _; unfold word; rw [if_pos k3]
          clear harf k3 hb4
          rcases ar with _ | _
          all_goals
            go_wp2_with fail
            refine hquo.mono ?_
            rintro e w5 ⟨rfl, hb5⟩
            have d0' := (hb5.cell (p := ⟨b9, 0, none⟩) d3).trans d0
            have d5' := (hb5.cell (p := ⟨b11, q4, none⟩) d4).trans d5
            have d3' : b9 < w5.heap.size := by have := hb5.size; omega
            have d4' : b11 < w5.heap.size := by have := hb5.size; omega
            clear d0 d1 d5 hquo
            go_wp2_with fail
            go_roundg (ts.length - (q + 1))
            case measure => omega
            case rel => exact ⟨q + 1, pre ++ pk q4 ++ quoteT t.text, by omega, rfl, by go_num, by rw [cat_three], by simp only [List.length_append, hsz]; omega, hB8.trans (hb5.mono hB8.size), by rw [hpk.out]; exact hst.out _ (by rw [harF.out]; rw [hwd.out]; rfl)⟩
        · have hk3I : ((t.kind : Int) == 3) = false := by simp; omega
          have hwd : Aside (word t.kind t.text = t.text) := by show _ = _; unfold word; rw [if_neg k3]
          have c2 : ¬ 9223372036854775807 < pre.length + (pk q4).length + t.text.length := by omega
          rcases ar with _ | _
          · have harF : Aside (arS false len z q t = false) := harf.out false (by simp)
            clear harf hb4
            go_wp2_with fail
            go_roundg (ts.length - (q + 1))
            case measure => omega
            case rel => exact ⟨q + 1, pre ++ pk q4 ++ t.text, by omega, rfl, by go_num, by rw [cat_three], by simp only [List.length_append, hsz]; omega, hB8, by rw [hpk.out]; exact hst.out _ (by rw [harF.out]; rw [hwd.out]; rfl)⟩
          · by_cases k2 : t.kind = 2
            · rw [k2] at d0
              by_cases hq1 : 1 < q
              · have hq1I : 1 < (q : Int) := by omega
                by_cases h4 : pd / 4 % 2 = 1
                · have harT : Aside (arS true len z q t = true) := harf.out true (by simp [k2, hq1, h4])
                  rw [h4] at hb4
                  have c3 : ¬ 9223372036854775807 < 1 + t.text.length := by omega
                  have c4 : ¬ 9223372036854775807 < 1 + t.text.length + 1 := by omega
                  have c5 : ¬ 9223372036854775807 < pre.length + (pk q4).length + (1 + t.text.length + 1) := by omega
                  clear harf h4 hk3I k3
                  go_wp2_with fail
                  go_roundg (ts.length - (q + 1))
                  case measure => omega
                  case rel => exact ⟨q + 1, pre ++ pk q4 ++ (40 :: t.text ++ [41]), by omega, rfl, by go_num, by rw [cat_wrap, cat_three], by simp only [List.length_append, List.length_cons, List.length_nil, hsz]; omega, hB8, by rw [hpk.out]; exact hst.out _ (by rw [harT.out]; rw [hwd.out]; rfl)⟩
                · have h40 : pd / 4 % 2 = 0 := by omega
                  have harF : Aside (arS true len z q t = false) := harf.out false (by simp [h4])
                  rw [h40] at hb4
                  clear harf h4 h40 hk3I k3
                  go_wp2_with fail
                  go_roundg (ts.length - (q + 1))
                  case measure => omega
                  case rel => exact ⟨q + 1, pre ++ pk q4 ++ t.text, by omega, rfl, by go_num, by rw [cat_three], by simp only [List.length_append, hsz]; omega, hB8, by rw [hpk.out]; exact hst.out _ (by rw [harF.out]; rw [hwd.out]; rfl)⟩
              · have hq1I : ¬ 1 < (q : Int) := by omega
                have harF : Aside (arS true len z q t = false) := harf.out false (by simp [hq1])
                clear harf hb4 hk3I k3
                go_wp2_with fail
                go_roundg (ts.length - (q + 1))
                case measure => omega
                case rel => exact ⟨q + 1, pre ++ pk q4 ++ t.text, by omega, rfl, by go_num, by rw [cat_three], by simp only [List.length_append, hsz]; omega, hB8, by rw [hpk.out]; exact hst.out _ (by rw [harF.out]; rw [hwd.out]; rfl)⟩
            · have hk2I : ((t.kind : Int) == 2) = false := by simp; omega
              have harF : Aside (arS true len z q t = false) := harf.out false (by simp [k2])
              clear harf hb4 k2 k3
              go_wp2_with fail
              go_roundg (ts.length - (q + 1))
              case measure => omega
              case rel => exact ⟨q + 1, pre ++ pk q4 ++ t.text, by omega, rfl, by go_num, by rw [cat_three], by simp only [List.length_append, hsz]; omega, hB8, by rw [hpk.out]; exact hst.out _ (by rw [harF.out]; rw [hwd.out]; rfl)⟩
    · have hltI : ¬ (q : Int) < (ts.length : Int) := by omega
      have hres : Aside (pre = sp (padS len z) (arS ar len z) 0 ts) := by
        show _ = _
        have h := hA.out
        rw [List.drop_eq_nil_of_le (by omega), sp, List.append_nil] at h
        exact h
      clear hrow hA
      go_wp2
      go_ret
      exact ⟨congrArg (fun l : List UInt8 => Ending.returned (.string ⟨l.toArray⟩)) hres.out, hB⟩
end Go.Proofs.YtnmdnjdibdmodaaGreatDoor
