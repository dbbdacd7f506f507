import Derived.Test.YtifebbdjdllfpaaGreatDoorLxB
import Derived.Deep.Cut
import Derived.Deep.CutRange
import Derived.Test.YtifebbdjdllfpaaGreatDoorSmA
import Derived.Test.YtifebbdjdllfpaaGreatDoorRepBase
/- A text with round brackets put around one of its numbers. Plain mathematics. -/
namespace Go.Proofs.YtifebbdjdllfpaaGreatDoor
open Px (TS TSim Ins)
set_option linter.unusedSimpArgs false
set_option linter.unusedVariables false

/-- Elsewhere, and behind more tokens, the same bytes are the same tokens, or too many. -/
theorem lex_shift (dot : Bool) : ∀ (N : Nat) (L : List UInt8) (i c i' c' : Nat) (ts : List Lx.Tok), L.length < N → Lx.lexGo dot L i c = .inl ts → (∃ x, Lx.lexGo dot L i' c' = .inr (x, 36)) ∨ ∃ us, Lx.lexGo dot L i' c' = .inl us ∧ TSim ts us := by
  intro N
  induction N with
  | zero => intro L i c i' c' ts hN; omega
  | succ N ih =>
    intro L i c i' c' ts hN h
    obtain ⟨u, rest, rfl, hpl, hc, hcase⟩ := first_tok h
    rcases hcase with ⟨hd, rfl, rfl⟩ | ⟨x, r, k, t, m, n, hd, ht, rfl, hrest⟩
    · rw [Lx.lexGo_end hd]
      by_cases hc' : c' < 4096
      · rw [if_pos hc']; exact Or.inr ⟨_, rfl, .cons ⟨rfl, rfl, rfl⟩ .nil⟩
      · rw [if_neg hc']; exact Or.inl ⟨_, rfl⟩
    · have hkn := tok_kinds ht
      have hlen := congrArg List.length hd
      simp at hlen
      rw [Lx.lexGo_ok hd ht hkn.2.1]
      by_cases hc' : c' < 4096
      · rw [if_pos hc']
        rcases ih (L.drop (Lx.skipF false L + n)) _ _ (i' + Lx.skipF false L + n) (c' + 1) rest (by simp; omega) hrest with ⟨y, hy⟩ | ⟨us, hu, hs⟩
        · exact Or.inl ⟨y, by rw [hy]; rfl⟩
        · exact Or.inr ⟨⟨k, t, m, i' + Lx.skipF false L⟩ :: us, by rw [hu]; rfl, .cons ⟨rfl, rfl, rfl⟩ hs⟩
      · rw [if_neg hc']; exact Or.inl ⟨_, rfl⟩
/-- Brackets around the one token numbered q. -/
def around (q : Nat) (j : Nat) (t : Lx.Tok) : Bool := decide (j = q) && decide (t.kind = 2)
theorem insJ_sim {a : Nat → Lx.Tok → Bool} {l m : List Lx.Tok} (h : TSim l m) : ∀ j, (∀ j' t, j ≤ j' → a j' t = false) → InsJ a j l m := by
  induction h with
  | nil => exact fun _ _ => .nil
  | cons h _ ih => exact fun j ha => .cons (ha j _ (Nat.le_refl _)) h (ih (j + 1) fun j' t hj => ha j' t (by omega))
theorem place_le (dot : Bool) (l : List UInt8) : ∀ (N i c : Nat) (ts : List Lx.Tok), l.length - i < N → i ≤ l.length → Lx.lexGo dot (l.drop i) i c = .inl ts → ∀ t ∈ ts, i ≤ t.place ∧ t.place ≤ l.length := by
  intro N
  induction N with
  | zero => intro i c ts hN; omega
  | succ N ih =>
    intro i c ts hN hi h
    obtain ⟨u, rest, rfl, hpl, hc, hcase⟩ := first_tok h
    have hkl := Lx.skip_le false (l.drop i)
    simp only [List.length_drop] at hkl
    rcases hcase with ⟨hd, rfl, rfl⟩ | ⟨x, r, k, t, m, n, hd, ht, rfl, hrest⟩
    · intro t ht
      simp at ht
      subst ht
      exact ⟨by simp, by show i + _ ≤ _; omega⟩
    · have hkn := tok_kinds ht
      have hlen := congrArg List.length hd
      simp at hlen
      rw [List.drop_drop, ← Nat.add_assoc] at hrest
      intro t2 ht2
      simp only [List.mem_cons] at ht2
      rcases ht2 with rfl | ht2
      · exact ⟨by simp, by show i + _ ≤ _; omega⟩
      · have := ih (i + Lx.skipF false (l.drop i) + n) (c + 1) rest (by omega) (by omega) hrest t2 ht2
        omega
/-- The text with brackets put around the bytes w at place q, from place i on. -/
def putAround (l : List UInt8) (q : Nat) (w : List UInt8) (i : Nat) : List UInt8 := (l.take q).drop i ++ (40 :: [] ++ ([] ++ (w ++ ([] ++ (41 :: [] ++ l.drop (q + w.length))))))
theorem lex_round (dot : Bool) (l : List UInt8) (b : Nat) : ∀ (N i c : Nat) (ts : List Lx.Tok) (q : Nat) (t : Lx.Tok) (i' c' : Nat), l.length - i < N → i ≤ l.length → Lx.lexGo dot (l.drop i) i c = .inl ts → ts[q]? = some t → t.kind = 2 →
    (∃ x, Lx.lexGo dot (putAround l t.place t.text i) i' c' = .inr (x, 36)) ∨ ∃ us, Lx.lexGo dot (putAround l t.place t.text i) i' c' = .inl us ∧ InsJ (around (b + q)) b ts us := by
  intro N
  induction N generalizing b with
  | zero => intro i c ts q t i' c' hN; omega
  | succ N ih =>
    intro i c ts q t i' c' hN hi h hq hk2
    obtain ⟨u, rest, rfl, hpl, hc, hcase⟩ := first_tok h
    have hkl := Lx.skip_le false (l.drop i)
    simp only [List.length_drop] at hkl
    rcases hcase with ⟨hd, rfl, rfl⟩ | ⟨x, r, k, tx, m, n, hd, ht, rfl, hrest⟩
    · rcases q with _ | q
      · simp at hq; subst hq; simp at hk2
      · simp at hq
    · have hkn := tok_kinds ht
      have hlen := congrArg List.length hd
      simp at hlen
      have hxb := Lx.skip_head false (l.drop i) x (by rw [hd]; rfl)
      have hfit := (fits_gap (l.drop i)).tok x r hd
      have hw := tok_wf ht hxb
      rw [List.drop_drop, ← Nat.add_assoc] at hrest
      generalize hs : Lx.skipF false (l.drop i) = s0 at *
      have hdq : l.drop (i + s0) = x :: r := by rw [← List.drop_drop]; exact hd
      have hglen : ((l.drop i).take s0).length = s0 := by simp; omega
      rcases q with _ | q
      · simp at hq
        subst hq
        simp only at hk2 ⊢
        subst hk2
        have htx : tx = (x :: r).take n := by
          rcases tok_text ht with h3 | h3
          · exact absurd h3.1 (by decide)
          · exact h3.2
        have htl : tx.length = n := by rw [htx]; simp; omega
        obtain ⟨y, r2, hy, hyb⟩ := hw.head
        have hwd : word 2 tx = tx := rfl
        rw [hwd] at hy
        have e1 : (l.take (i + s0)).drop i = (l.drop i).take s0 := by rw [List.drop_take]; congr 1; omega
        have hnil : ∀ Y, Lx.skipF false ([] ++ Y) = ([] : List UInt8).length + Lx.skipF false Y := fun Y => by simp
        have htk := hw.reads (41 :: l.drop (i + s0 + tx.length)) (fun c hc => by simp at hc; subst hc; exact ⟨by decide, by decide, by decide, by decide, by decide⟩)
        rw [hwd, hy] at htk
        have e2 : putAround l (i + s0) tx i = (l.drop i).take s0 ++ (40 :: [] ++ ([] ++ (y :: r2 ++ ([] ++ (41 :: [] ++ l.drop (i + s0 + (y :: r2).length)))))) := by
          unfold putAround; rw [e1, hy]
        rw [hy] at htl
        have ha0 : around b b ⟨2, y :: r2, m, i + s0⟩ = true := by simp [around]
        have hrr : ∀ us, TSim rest us → InsJ (around b) (b + 1) rest us := fun us h => insJ_sim h _ (fun j' t hj => by simp [around]; omega)
        rw [e2, htl, lex_one (n := 0) hfit ⟨by decide, by decide⟩ (open_tok dot _)]
        by_cases hc0 : c' < 4096
        · rw [if_pos hc0, lex_one (n := 0) hnil hyb (by rw [← htl]; simpa using htk)]
          by_cases hc1 : c' + 1 < 4096
          · rw [if_pos hc1, lex_one (n := 0) hnil ⟨by decide, by decide⟩ (shut_tok dot _)]
            by_cases hc2 : c' + 1 + 1 < 4096
            · rw [if_pos hc2, hglen]
              generalize i' + s0 + ([(40 : UInt8)]).length = i1
              rcases lex_shift dot _ (l.drop (i + s0 + n)) _ _ (i1 + (y :: r2).length + ([] : List UInt8).length + ([(41 : UInt8)]).length) (c' + 1 + 1 + 1) rest (Nat.lt_succ_self _) hrest with ⟨z, hz⟩ | ⟨us, hu, hsim⟩
              · exact Or.inl ⟨z, by rw [hz]; rfl⟩
              · refine Or.inr ⟨⟨4, [40], 0, i' + s0⟩ :: ⟨2, y :: r2, m, i1⟩ :: ⟨4, [41], 0, i1 + (y :: r2).length + ([] : List UInt8).length⟩ :: us, ?_, ?_⟩
                · rw [hu]; rfl
                · rw [hy, Nat.add_zero]
                  exact .wrap ha0 ⟨rfl, rfl, rfl⟩ rfl rfl rfl rfl (hrr us hsim)
            · rw [if_neg hc2]
              exact Or.inl ⟨_, rfl⟩
          · rw [if_neg hc1]
            exact Or.inl ⟨_, rfl⟩
        · rw [if_neg hc0]
          exact Or.inl ⟨_, rfl⟩
      · simp only [List.getElem?_cons_succ] at hq
        have hmem := List.mem_of_getElem? hq
        have hpq := place_le dot l (l.length + 1) (i + s0 + n) (c + 1) rest (by omega) (by omega) hrest t hmem
        have ih' := ih (b + 1) (i + s0 + n) (c + 1) rest q t (i' + s0 + n) (c' + 1) (by omega) (by omega) hrest hq hk2
        rw [show b + 1 + q = b + (q + 1) by omega] at ih'
        have ha0 : around (b + (q + 1)) b ⟨k, tx, m, i + s0⟩ = false := by simp [around]
        obtain ⟨n', hn'⟩ : ∃ n', n = n' + 1 := ⟨n - 1, by omega⟩
        have e1 : (l.take t.place).drop i = (l.drop i).take s0 ++ (x :: r.take n' ++ (l.take t.place).drop (i + s0 + n)) := by
          have h1 : (l.take t.place).drop i = ((l.drop i).take s0) ++ ((l.take t.place).drop (i + s0)) := by
            rw [List.drop_take, List.drop_take]
            have h2 := List.take_append_drop s0 ((l.drop i).take (t.place - i))
            rw [List.take_take, Nat.min_eq_left (by omega), List.drop_take, List.drop_drop] at h2
            rw [← h2]
            congr 2
            omega
          have h3 : (l.take t.place).drop (i + s0) = (x :: r.take n') ++ (l.take t.place).drop (i + s0 + n) := by
            rw [List.drop_take, hdq]
            have h2 := List.take_append_drop n ((x :: r).take (t.place - (i + s0)))
            rw [List.take_take, Nat.min_eq_left (by omega), List.drop_take, ← hdq, List.drop_drop] at h2
            rw [← hdq, ← h2, List.drop_take, hdq]
            congr 1
            · rw [hn']; rfl
            · congr 1; omega
          rw [h1, h3]
        have e2 : putAround l t.place t.text i = (l.drop i).take s0 ++ (x :: r.take n' ++ putAround l t.place t.text (i + s0 + n)) := by
          unfold putAround
          rw [e1]
          simp only [List.append_assoc]
        have hxl : (x :: r.take n').length = n := by simp; omega
        have htk : Lx.tokR dot (x :: r.take n' ++ putAround l t.place t.text (i + s0 + n)) = Lx.R.ok k tx m (x :: r.take n').length := by
          rw [hxl]
          refine tok_sep ht ?_ ?_
          · rw [List.take_append_of_le_length (by omega), List.take_of_length_le (by omega), hn']; rfl
          · rw [List.getElem?_append_right (by omega), hxl, Nat.sub_self]
            by_cases hP : i + s0 + n < t.place
            · refine Or.inl ?_
              unfold putAround
              rw [List.getElem?_append_left (by simp; omega), List.getElem?_drop, List.getElem?_take, if_pos (by omega), ← hdq, List.getElem?_drop]
              congr 1
            · refine Or.inr fun z hz => ?_
              unfold putAround at hz
              rw [List.drop_eq_nil_of_le (by simp; omega)] at hz
              simp at hz
              subst hz
              exact ⟨by decide, by decide, by decide, by decide, by decide⟩
        rw [e2, lex_one (n := 0) hfit hxb htk, hglen, hxl]
        by_cases hc0 : c' < 4096
        · rw [if_pos hc0]
          rcases ih' with ⟨z, hz⟩ | ⟨us, hu, hi2⟩
          · exact Or.inl ⟨z, by rw [hz]; rfl⟩
          · exact Or.inr ⟨⟨k, tx, m, i' + s0⟩ :: us, by rw [hu]; rfl, .cons ha0 ⟨rfl, rfl, rfl⟩ hi2⟩
        · rw [if_neg hc0]
          exact Or.inl ⟨_, rfl⟩
end Go.Proofs.YtifebbdjdllfpaaGreatDoor
/- The statements' own function that puts brackets around a number. -/
namespace Go.Proofs.YtifebbdjdllfpaaGreatDoor
open Go.RowKit
set_option linter.unusedSimpArgs false
set_option linter.unusedVariables false

theorem num_fits (dot : Bool) (l : List UInt8) : ∀ (N i c : Nat) (ts : List Lx.Tok), l.length - i < N → i ≤ l.length → Lx.lexGo dot (l.drop i) i c = .inl ts → ∀ t ∈ ts, t.kind = 2 → t.place + t.text.length ≤ l.length := by
  intro N
  induction N with
  | zero => intro i c ts hN; omega
  | succ N ih =>
    intro i c ts hN hi h
    obtain ⟨u, rest, rfl, hpl, hc, hcase⟩ := first_tok h
    have hkl := Lx.skip_le false (l.drop i)
    simp only [List.length_drop] at hkl
    rcases hcase with ⟨hd, rfl, rfl⟩ | ⟨x, r, k, t, m, n, hd, ht, rfl, hrest⟩
    · intro t ht h2
      simp at ht
      subst ht
      simp at h2
    · have hkn := tok_kinds ht
      have hlen := congrArg List.length hd
      simp at hlen
      rw [List.drop_drop, ← Nat.add_assoc] at hrest
      intro t2 ht2 h2
      simp only [List.mem_cons] at ht2
      rcases ht2 with rfl | ht2
      · rcases tok_text ht with h3 | h3
        · exact absurd h3.1 (by simp at h2; omega)
        · simp only [h3.2, List.length_take, List.length_cons]; omega
      · exact ih (i + Lx.skipF false (l.drop i) + n) (c + 1) rest (by omega) (by omega) hrest t2 ht2 h2
theorem lex_num_fits {dot : Bool} {l : List UInt8} {ts : List Lx.Tok} (h : Lx.lex dot l = .inl ts) : ∀ (q : Nat) (t : Lx.Tok), ts[q]? = some t → t.kind = 2 → t.place + t.text.length ≤ l.length := by
  intro q t hq h2
  have hle := (lex_nonempty h).2
  unfold Lx.lex at h
  rw [if_neg (by omega)] at h
  exact num_fits dot l (l.length + 1) 0 0 ts (by omega) (by omega) (by simpa using h) t (List.mem_of_getElem? hq) h2
theorem cat_list (a b : ByteArray) : (a ++ b).data.toList = a.data.toList ++ b.data.toList := by
  rw [ByteArray.data_append]; simp
theorem around_bytes (s : ByteArray) (q : Nat) (t : List UInt8) : (s.extract 0 q ++ ⟨#[40]⟩ ++ ⟨t.toArray⟩ ++ ⟨#[41]⟩ ++ s.extract (q + t.length) s.size : ByteArray) = ⟨(putAround s.data.toList q t 0).toArray⟩ := by
  apply bytes_same
  have e : s.data.toList.take s.size = s.data.toList := List.take_of_length_le (by simp)
  rw [cat_list, cat_list, cat_list, cat_list, ext_list, ext_list, e]
  simp [putAround]

/-- What the function answers: nothing; or the text with brackets around one of its numbers, not the version's. -/
def BrPost (s : ByteArray) (w : World) (e : Ending) (w' : World) : Prop :=
  Below w.heap.size w w' ∧ (e = .returned (.tuple #[.string ⟨#[]⟩, .bool false]) ∨ ∃ ts q t, Lx.lex dotC s.data.toList = .inl ts ∧ 2 ≤ q ∧ ts[q]? = some t ∧ t.kind = 2 ∧ e = .returned (.tuple #[.string ⟨(putAround s.data.toList t.place t.text 0).toArray⟩, .bool true]))

end Go.Proofs.YtifebbdjdllfpaaGreatDoor
/- The statements' own function that writes a text anew from its tokens. -/
namespace Go.Proofs.YtifebbdjdllfpaaGreatDoor
open Go.RowKit
set_option linter.unusedSimpArgs false
set_option linter.unusedVariables false

def pk : Nat → List UInt8
  | 0 => [32]
  | 1 => [10]
  | 2 => [32, 35, 120, 10]
  | _ => [9]
theorem pk_pad (k : Nat) : Pad (pk k) ∧ pk k ≠ [] := by
  match k with
  | 0 => exact ⟨⟨fun Y => by simp [pk, Lx.skipF, Lx.isBlank], fun b => by cases b <;> rfl, fun c h => by simp [pk] at h; subst h; exact Or.inl rfl⟩, by simp [pk]⟩
  | 1 => exact ⟨⟨fun Y => by simp [pk, Lx.skipF, Lx.isBlank], fun b => by cases b <;> rfl, fun c h => by simp [pk] at h; subst h; exact Or.inl rfl⟩, by simp [pk]⟩
  | 2 => exact ⟨⟨fun Y => by simp [pk, Lx.skipF, Lx.isBlank]; omega, fun b => by cases b <;> rfl, fun c h => by simp [pk] at h; subst h; exact Or.inl rfl⟩, by simp [pk]⟩
  | k + 3 => exact ⟨⟨fun Y => by simp [pk, Lx.skipF, Lx.isBlank], fun b => by cases b <;> rfl, fun c h => by simp [pk] at h; subst h; exact Or.inl rfl⟩, by simp [pk]⟩
theorem pk_len (k : Nat) : (pk k).length ≤ 4 := by
  match k with
  | 0 => decide
  | 1 => decide
  | 2 => decide
  | k + 3 => exact (by decide : 1 ≤ 4)
def padAt (len : Nat) (z : Nat → Nat) (j : Nat) : Nat := if j < len then z j else 0
def padS (len : Nat) (z : Nat → Nat) (j : Nat) : List UInt8 := pk (padAt len z j % 4)
def arS (ar : Bool) (len : Nat) (z : Nat → Nat) (j : Nat) (t : Lx.Tok) : Bool := ar && (decide (t.kind = 2) && (decide (1 < j) && decide (padAt len z j / 4 % 2 = 1)))
theorem bits4 : ∀ z : Nat, z < 256 → bits .and .u8 (z : Int) 4 = ((z / 4 % 2 * 4 : Nat) : Int) := by decide +kernel
theorem bits3 : ∀ z : Nat, z < 256 → bits .and .u8 (z : Int) 3 = ((z % 4 : Nat) : Int) := by decide +kernel
/-- A slice of bytes that came in. -/
def BtsP (w : World) (a : Option Addr) (len : Nat) (z : Nat → Nat) : Prop := len ≤ maxLen ∧ (len = 0 ∨ ∃ b o, a = some ⟨b, o, none⟩ ∧ b < w.heap.size ∧ ∀ k, k < len → w.cell? ⟨b, o + k, none⟩ = some (.int .u8 (z k : Nat)) ∧ z k < 256)
theorem text_len (dot : Bool) (l : List UInt8) : ∀ (N i c : Nat) (ts : List Lx.Tok), l.length - i < N → i ≤ l.length → Lx.lexGo dot (l.drop i) i c = .inl ts → ∀ t ∈ ts, t.text.length ≤ l.length + 256 := by
  intro N
  induction N with
  | zero => intro i c ts hN; omega
  | succ N ih =>
    intro i c ts hN hi h
    obtain ⟨u, rest, rfl, hpl, hc, hcase⟩ := first_tok h
    have hkl := Lx.skip_le false (l.drop i)
    simp only [List.length_drop] at hkl
    rcases hcase with ⟨hd, rfl, rfl⟩ | ⟨x, r, k, t, m, n, hd, ht, rfl, hrest⟩
    · intro t ht
      simp at ht
      subst ht
      simp
    · have hkn := tok_kinds ht
      have hlen := congrArg List.length hd
      simp at hlen
      rw [List.drop_drop, ← Nat.add_assoc] at hrest
      intro t2 ht2
      simp only [List.mem_cons] at ht2
      rcases ht2 with rfl | ht2
      · rcases tok_text ht with h3 | h3
        · have := h3.2.2
          simp only [plainB, Bool.and_eq_true, decide_eq_true_eq] at this
          show t.length ≤ _
          omega
        · simp only [h3.2, List.length_take, List.length_cons]; omega
      · exact ih (i + Lx.skipF false (l.drop i) + n) (c + 1) rest (by omega) (by omega) hrest t2 ht2
theorem word_len (k : Nat) (t : List UInt8) : (word k t).length ≤ 2 * t.length + 2 := by
  unfold word; split
  · have := escT_len t
    simp [quoteT]; omega
  · omega
theorem sp_step {p : Nat → List UInt8} {a : Nat → Lx.Tok → Bool} {ts : List Lx.Tok} {q : Nat} {t : Lx.Tok} {pre : List UInt8} {all : List UInt8} (h : pre ++ sp p a q (ts.drop q) = all) (ht : ts[q]? = some t) (W : List UInt8) (hW : W = if a q t then 40 :: word t.kind t.text ++ [41] else word t.kind t.text) :
    (pre ++ p q ++ W) ++ sp p a (q + 1) (ts.drop (q + 1)) = all := by
  obtain ⟨hlt, he⟩ := List.getElem?_eq_some_iff.1 ht
  rw [List.drop_eq_getElem_cons hlt, he, sp, ← hW] at h
  rw [← h]; simp
theorem cat_three (pre pd W : List UInt8) : (⟨pre.toArray⟩ ++ ⟨pd.toArray⟩ ++ ⟨W.toArray⟩ : ByteArray) = ⟨(pre ++ pd ++ W).toArray⟩ := bytes_same (by rw [cat_list, cat_list])
theorem cat_wrap (W : List UInt8) : (⟨#[40]⟩ ++ ⟨W.toArray⟩ ++ ⟨#[41]⟩ : ByteArray) = ⟨(40 :: W ++ [41]).toArray⟩ := bytes_same (by rw [cat_list, cat_list]; simp)

end Go.Proofs.YtifebbdjdllfpaaGreatDoor
/- Where a text's first fault is. Plain mathematics. -/
namespace Go.Proofs.YtifebbdjdllfpaaGreatDoor
set_option linter.unusedSimpArgs false
set_option linter.unusedVariables false

theorem quote_off : ∀ (N : Nat) (l : List UInt8) (o : Nat) (acc : List UInt8) (a er : Nat), l.length ≤ N → Lx.quoteR l o acc = Lx.R.bad a er → a ≤ o + l.length
  | N, [], o, acc, a, er, _, h => by simp [Lx.quoteR, Lx.R.bad] at h; omega
  | 0, c :: r, o, acc, a, er, hN, h => by simp at hN
  | N + 1, c :: r, o, acc, a, er, hN, h => by
    rw [quoteR_cons] at h
    simp only [List.length_cons] at hN ⊢
    split at h
    · split at h
      · simp [Lx.R.ok, Lx.R.bad] at h
      · simp [Lx.R.bad] at h; omega
    · split at h
      · split at h
        · simp [Lx.R.bad] at h; omega
        · split at h
          · rename_i d r' _
            have := quote_off N r' (o + 2) _ a er (by simp at hN; omega) h
            simp only [List.length_cons]; omega
          · simp [Lx.R.bad] at h; omega
      · split at h
        · have := quote_off N r (o + 1) _ a er (by omega) h
          omega
        · simp [Lx.R.bad] at h; omega
theorem tok_off {dot : Bool} {l : List UInt8} {a er : Nat} (h : Lx.tokR dot l = Lx.R.bad a er) : a ≤ l.length := by
  match l, h with
  | [], h => simp [Lx.tokR, Lx.R.ok, Lx.R.bad] at h
  | c :: r, h =>
    simp only [Lx.tokR] at h
    split at h
    · unfold Lx.nameR at h
      split at h
      · simp [Lx.R.ok, Lx.R.bad] at h
      · simp [Lx.R.bad] at h; omega
    · split at h
      · unfold Lx.numberR at h
        split at h
        · simp [Lx.R.bad] at h; omega
        · split at h
          · simp [Lx.R.ok, Lx.R.bad] at h
          · simp [Lx.R.bad] at h; omega
      · split at h
        · have := quote_off r.length r 1 [] a er (Nat.le_refl _) h
          simp only [List.length_cons]; omega
        · unfold Lx.markR at h
          split at h
          · simp [Lx.R.bad] at h; omega
          · simp [Lx.R.ok, Lx.R.bad] at h
theorem lexF_off (dot : Bool) : ∀ (f : Nat) (l : List UInt8) (i c a er : Nat), l.length < f → Lx.lexF dot f l i c = .inr (a, er) → a ≤ i + l.length
  | 0, l, i, c, a, er, hf, h => by omega
  | f + 1, l, i, c, a, er, hf, h => by
    have hk := Lx.skip_le false l
    simp only [Lx.lexF] at h
    split at h
    · split at h
      · simp at h
      · simp at h; omega
    · rename_i x r hd
      have hl := congrArg List.length hd
      simp at hl
      split at h
      · rename_i o e ht
        simp at h
        have := tok_off ht
        simp only [List.length_cons] at this
        omega
      · rename_i k t m n ht
        have hkn := tok_kinds ht
        split at h
        · rcases hg : Lx.lexF dot f (r.drop (n - 1)) (i + Lx.skipF false l + n) (c + 1) with ts | ⟨a', e'⟩
          · rw [hg] at h; simp [Lx.Out.pre] at h
          · rw [hg] at h
            simp [Lx.Out.pre] at h
            have := lexF_off dot f _ _ _ a' e' (by simp; omega) hg
            simp only [List.length_drop] at this
            omega
        · simp at h; omega
theorem lex_off {dot : Bool} {l : List UInt8} {a er : Nat} (h : Lx.lex dot l = .inr (a, er)) : a ≤ l.length := by
  unfold Lx.lex at h
  split at h
  · simp at h; omega
  · have := lexF_off dot _ l 0 0 a er (Nat.lt_succ_self _) h
    omega

end Go.Proofs.YtifebbdjdllfpaaGreatDoor
/- What the document answers of texts with other blanks, and with brackets around numbers. Plain mathematics. -/
namespace Go.Proofs.YtifebbdjdllfpaaGreatDoor
open Px (TS TSim Ins)
set_option linter.unusedSimpArgs false
set_option linter.unusedVariables false

theorem parse_bad_cases {l : List UInt8} {a er : Nat} (h : Px.parse l = .inr (a, er)) : (Lx.lex true l = .inr (a, er) ∧ er ≠ 0 ∧ a ≤ l.length) ∨ ∃ ts, Lx.lex true l = .inl ts ∧ (∃ t ∈ ts, t.place = a) ∧ (er = 31 ∨ er = 32) ∧ a ≤ l.length := by
  unfold Px.parse at h
  rcases hl : Lx.lex true l with ts | ⟨a', er'⟩
  · rw [hl] at h
    simp only at h
    rcases hp : Px.program ts with ⟨p, r⟩ | ⟨a', er'⟩
    · rw [hp] at h; simp at h
    · rw [hp] at h
      simp only [Sum.inr.injEq, Prod.mk.injEq] at h
      obtain ⟨rfl, rfl⟩ := h
      obtain ⟨⟨t, ht, hpl⟩, he⟩ := parse_place hl hp
      refine Or.inr ⟨ts, rfl, ⟨t, ht, hpl⟩, he, ?_⟩
      have hle := (lex_nonempty hl).2
      unfold Lx.lex at hl
      rw [if_neg (by omega)] at hl
      have := place_le true l (l.length + 1) 0 0 ts (by omega) (by omega) (by simpa using hl) t ht
      omega
  · rw [hl] at h
    simp only [Sum.inr.injEq, Prod.mk.injEq] at h
    obtain ⟨rfl, rfl⟩ := h
    exact Or.inl ⟨rfl, lex_err hl, lex_off hl⟩
theorem parse_ok_cases {l : List UInt8} {p : Px.Pr} (h : Px.parse l = .inl p) : 0 < l.length ∧ ∃ ts r, Lx.lex true l = .inl ts ∧ Px.program ts = .inl (p, r) := by
  refine ⟨?_, ?_⟩
  · rcases l with _ | ⟨c, r⟩
    · have : Px.parse [] = .inr (0, 31) := rfl
      rw [this] at h; simp at h
    · simp
  · unfold Px.parse at h
    rcases hl : Lx.lex true l with ts | x
    · rw [hl] at h
      simp only at h
      rcases hp : Px.program ts with ⟨p', r⟩ | x
      · rw [hp] at h
        simp at h; subst h
        exact ⟨ts, r, rfl, hp⟩
      · rw [hp] at h; simp at h
    · rw [hl] at h; simp at h
theorem parse_of {l : List UInt8} {ts : List Lx.Tok} (h : Lx.lex true l = .inl ts) : Px.parse l = match Px.program ts with | .inl (p, _) => .inl p | .inr x => .inr x := by
  unfold Px.parse; rw [h]; rfl
theorem ins_two {a : Nat → Lx.Tok → Bool} {ts us : List Lx.Tok} (h : InsJ a 0 ts us) (ha : ∀ j t, a j t = true → t.kind = 2 ∧ 2 ≤ j) (hg : Px.Good ts) {p : Px.Pr} {r : List Lx.Tok} (hp : Px.program ts = .inl (p, r)) :
    (∃ x, Px.program us = .inr (x, 32)) ∨ ∃ p2 r2, Px.program us = .inl (p2, r2) ∧ p.er = p2.er := by
  have h2 : ∀ j t, a j t = true → t.kind = 2 := fun j t h => (ha j t h).1
  have h01 : ∀ j t, j < 2 → a j t = false := fun j t hj => by
    rcases hh : a j t with _ | _
    · rfl
    · have := (ha j t hh).2; omega
  cases h with
  | nil => exact absurd hg (by simp [Px.Good])
  | wrap h1 => rw [h01 _ _ (by omega)] at h1; simp at h1
  | cons _ t0 h =>
    cases h with
    | nil =>
      rename_i t u hz
      have hk : t.kind = 5 := hg
      have hf : Px.program [t] = .inr (t.place, 31) := by simp [Px.program, Px.needK, Px.sees, Px.bind, Px.fail, Px.place, hk]
      rw [hf] at hp; simp at hp
    | wrap h1 => rw [h01 _ _ (by omega)] at h1; simp at h1
    | cons _ t1 h =>
      rcases Px.program_ins t0 t1 (h.ins h2) hg p r hp with ⟨x, hx⟩ | ⟨p2, r2, h3, h4, _⟩
      · exact Or.inl ⟨x, hx⟩
      · exact Or.inr ⟨p2, r2, h3, h4⟩
/-- Brackets around one number. -/
theorem parse_round {l : List UInt8} {p : Px.Pr} {ts : List Lx.Tok} {q : Nat} {t : Lx.Tok} (hp : Px.parse l = .inl p) (hl : Lx.lex true l = .inl ts) (hq : ts[q]? = some t) (h2 : 2 ≤ q) (hk : t.kind = 2) :
    (∃ a er, Px.parse (putAround l t.place t.text 0) = .inr (a, er) ∧ (er = 32 ∨ er = 36 ∨ er = 3)) ∨ ∃ p2, Px.parse (putAround l t.place t.text 0) = .inl p2 ∧ p.er = p2.er := by
  obtain ⟨_, ts', r, hl', hpr⟩ := parse_ok_cases hp
  rw [hl] at hl'
  simp at hl'; subst hl'
  have hg := lex_good hl
  have hle := (lex_nonempty hl).2
  by_cases hlong : 16384 < (putAround l t.place t.text 0).length
  · refine Or.inl ⟨16384, 3, ?_, Or.inr (Or.inr rfl)⟩
    unfold Px.parse Lx.lex
    rw [if_pos hlong]
  · have hlg : Lx.lexGo true (l.drop 0) 0 0 = .inl ts := by
      unfold Lx.lex at hl
      rw [if_neg (by omega)] at hl
      simpa using hl
    rcases lex_round true l 0 (l.length + 1) 0 0 ts q t 0 0 (by omega) (by omega) hlg hq hk with ⟨x, hx⟩ | ⟨us, hu, hi⟩
    · refine Or.inl ⟨x, 36, ?_, Or.inr (Or.inl rfl)⟩
      unfold Px.parse Lx.lex
      rw [if_neg hlong, hx]
    · have hlu : Lx.lex true (putAround l t.place t.text 0) = .inl us := by
        unfold Lx.lex
        rw [if_neg hlong]; exact hu
      rw [parse_of hlu]
      rcases ins_two hi (fun j t h => by simp [around] at h; exact ⟨h.2, by omega⟩) hg hpr with ⟨x, hx⟩ | ⟨p2, r2, h3, h4⟩
      · rw [hx]; exact Or.inl ⟨x, 32, rfl, Or.inl rfl⟩
      · rw [h3]; exact Or.inr ⟨p2, rfl, h4⟩

theorem quote_bytes : ∀ (N : Nat) (l : List UInt8) (o : Nat) (acc : List UInt8) (k : Nat) (t : List UInt8) (m n : Nat), l.length ≤ N → Lx.quoteR l o acc = Lx.R.ok k t m n → n = o + (escT (t.drop acc.length)).length + 1 ∧ acc.length ≤ t.length ∧ t.take acc.length = acc
  | N, [], o, acc, k, t, m, n, _, h => by simp [Lx.quoteR, Lx.R.bad, Lx.R.ok] at h
  | 0, c :: r, o, acc, k, t, m, n, hN, h => by simp at hN
  | N + 1, c :: r, o, acc, k, t, m, n, hN, h => by
    rw [quoteR_cons] at h
    simp only [List.length_cons] at hN
    split at h
    · split at h
      · simp [Lx.R.ok] at h
        obtain ⟨_, rfl, _, rfl⟩ := h
        simp [escT]
      · simp [Lx.R.ok, Lx.R.bad] at h
    · rename_i h34
      have step : ∀ (d : UInt8) (r' : List UInt8) (o' : Nat), r'.length ≤ N → Lx.quoteR r' o' (acc ++ [d]) = Lx.R.ok k t m n → (if Lx.isEsc d then o' = o + 2 else o' = o + 1) → n = o + (escT (t.drop acc.length)).length + 1 ∧ acc.length ≤ t.length ∧ t.take acc.length = acc := by
        intro d r' o' hr' hq ho
        obtain ⟨h1, h2, h3⟩ := quote_bytes N r' o' (acc ++ [d]) k t m n hr' hq
        simp only [List.length_append, List.length_cons, List.length_nil] at h1 h2 h3
        have hlt : acc.length < t.length := by omega
        have hd : t.drop acc.length = t[acc.length] :: t.drop (acc.length + 1) := List.drop_eq_getElem_cons hlt
        have hta : t.take acc.length = acc ∧ t[acc.length] = d := by
          rw [List.take_succ_eq_append_getElem hlt] at h3
          have := List.append_inj h3 (by simp; omega)
          exact ⟨this.1, by simpa using this.2⟩
        refine ⟨?_, by omega, hta.1⟩
        rw [hd, hta.2]
        have e : escT (d :: t.drop (acc.length + 1)) = (if Lx.isEsc d then [92, d] else [d]) ++ escT (t.drop (acc.length + 1)) := by simp [escT]
        rw [e, h1]
        split at ho
        · rename_i hh; rw [if_pos hh]; simp; omega
        · rename_i hh; rw [if_neg hh]; simp; omega
      split at h
      · split at h
        · simp [Lx.R.ok, Lx.R.bad] at h
        · split at h
          · rename_i d r' hd
            exact step d r' (o + 2) (by simp at hN; omega) h (by rw [if_pos hd])
          · simp [Lx.R.ok, Lx.R.bad] at h
      · rename_i h92
        split at h
        · have hne : Lx.isEsc c = false := by simp [Lx.isEsc, h34, h92]
          exact step c r (o + 1) (by omega) h (by rw [hne]; simp)
        · simp [Lx.R.ok, Lx.R.bad] at h
theorem word_bytes {dot : Bool} {x : UInt8} {r : List UInt8} {k : Nat} {t : List UInt8} {m n : Nat} (h : Lx.tokR dot (x :: r) = Lx.R.ok k t m n) : (word k t).length = n := by
  have hkn := tok_kinds h
  rcases tok_text h with ⟨rfl, rfl, hp⟩ | ⟨hk, ht⟩
  · simp only [Lx.tokR] at h
    split at h
    · unfold Lx.nameR at h; split at h <;> simp [Lx.R.ok, Lx.R.bad] at h
    · split at h
      · unfold Lx.numberR at h
        split at h
        · simp [Lx.R.ok, Lx.R.bad] at h
        · split at h <;> simp [Lx.R.ok, Lx.R.bad] at h
      · split at h
        · have := (quote_bytes r.length r 1 [] 3 t 0 n (Nat.le_refl _) h).1
          simp at this
          simp [word, quoteT]; omega
        · unfold Lx.markR at h; split at h <;> simp [Lx.R.ok, Lx.R.bad] at h
  · unfold word; rw [if_neg hk, ht]; simp; omega
theorem sp_len (dot : Bool) (l : List UInt8) (p : Nat → List UInt8) (a : Nat → Lx.Tok → Bool) (hp : ∀ j, (p j).length ≤ 4) : ∀ (N i c : Nat) (ts : List Lx.Tok) (j : Nat), l.length - i < N → i ≤ l.length → Lx.lexGo dot (l.drop i) i c = .inl ts → (sp p a j ts).length ≤ 6 * ts.length + (l.length - i) ∧ ts.length ≤ l.length - i + 1 := by
  intro N
  induction N with
  | zero => intro i c ts j hN; omega
  | succ N ih =>
    intro i c ts j hN hi h
    obtain ⟨u, rest, rfl, hpl, hc, hcase⟩ := first_tok h
    have hkl := Lx.skip_le false (l.drop i)
    simp only [List.length_drop] at hkl
    have hpj := hp j
    rcases hcase with ⟨hd, rfl, rfl⟩ | ⟨x, r, k, t, m, n, hd, ht, rfl, hrest⟩
    · refine ⟨?_, by simp⟩
      simp only [sp, List.length_append, List.length_nil, List.length_cons]
      split
      · simp [word]; omega
      · simp [word]; omega
    · have hkn := tok_kinds ht
      have hwb := word_bytes ht
      have hlen := congrArg List.length hd
      simp at hlen
      rw [List.drop_drop, ← Nat.add_assoc] at hrest
      obtain ⟨h1, h2⟩ := ih (i + Lx.skipF false (l.drop i) + n) (c + 1) rest (j + 1) (by omega) (by omega) hrest
      refine ⟨?_, by simp; omega⟩
      simp only [sp, List.length_append, List.length_cons]
      split
      · simp only [List.length_append, List.length_cons, List.length_nil, hwb]; omega
      · rw [hwb]; omega
/-- The text anew, without brackets: the same program, or the same fault. -/
theorem parse_spaced {l : List UInt8} {ts : List Lx.Tok} {p : Nat → List UInt8} (hl : Lx.lex true l = .inl ts) (hs : l.length ≤ 2048) (hp : ∀ j, Pad (p j) ∧ p j ≠ []) (hp4 : ∀ j, (p j).length ≤ 4) (a : Nat → Lx.Tok → Bool) (ha : ∀ j t, a j t = false) :
    (∃ x y, Px.parse l = .inl x ∧ Px.parse (sp p a 0 ts) = .inl y ∧ x.er = y.er) ∨ ∃ b c er, Px.parse l = .inr (b, er) ∧ Px.parse (sp p a 0 ts) = .inr (c, er) ∧ er ≠ 0 := by
  have hlg : Lx.lexGo true (l.drop 0) 0 0 = .inl ts := by
    have h := hl
    unfold Lx.lex at h
    rw [if_neg (by omega)] at h
    simpa using h
  have hlen := sp_len true l p a hp4 (l.length + 1) 0 0 ts 0 (by omega) (by omega) hlg
  have hg := lex_good hl
  have hfew := lex_few hl
  have hw := wf_all true l (l.length + 1) 0 0 ts (by omega) (by omega) hlg
  rcases lex_sp true p a hp (fun j t h => by rw [ha] at h; simp at h) ts 0 0 0 hg hw with ⟨x, hx, hxx⟩ | ⟨us, hu, hi⟩
  · have := hxx ha; omega
  · have hlu : Lx.lex true (sp p a 0 ts) = .inl us := by
      unfold Lx.lex
      rw [if_neg (by omega)]; exact hu
    have hsim := Px.program_sim ts us (hi.sim ha)
    rw [parse_of hl, parse_of hlu]
    rcases h1 : Px.program ts with ⟨x, r⟩ | ⟨b, er⟩
    · rcases h2 : Px.program us with ⟨y, r2⟩ | ⟨c, er2⟩
      · rw [h1, h2] at hsim
        exact Or.inl ⟨x, y, rfl, rfl, hsim.1⟩
      · rw [h1, h2] at hsim; exact hsim.elim
    · rcases h2 : Px.program us with ⟨y, r2⟩ | ⟨c, er2⟩
      · rw [h1, h2] at hsim; exact hsim.elim
      · rw [h1, h2] at hsim
        have he : er = er2 := hsim
        subst he
        refine Or.inr ⟨b, c, er, rfl, rfl, ?_⟩
        rcases (parse_place hl h1).2 with h | h <;> omega
/-- The text anew, with brackets around some numbers. -/
theorem parse_spaced_round {l : List UInt8} {ts : List Lx.Tok} {p : Nat → List UInt8} {x : Px.Pr} (hl : Lx.lex true l = .inl ts) (hx : Px.parse l = .inl x) (hs : l.length ≤ 2048) (hp : ∀ j, Pad (p j) ∧ p j ≠ []) (hp4 : ∀ j, (p j).length ≤ 4) (a : Nat → Lx.Tok → Bool) (ha : ∀ j t, a j t = true → t.kind = 2 ∧ 2 ≤ j) :
    (∃ b er, Px.parse (sp p a 0 ts) = .inr (b, er) ∧ (er = 32 ∨ er = 36)) ∨ ∃ y, Px.parse (sp p a 0 ts) = .inl y ∧ x.er = y.er := by
  have hlg : Lx.lexGo true (l.drop 0) 0 0 = .inl ts := by
    have h := hl
    unfold Lx.lex at h
    rw [if_neg (by omega)] at h
    simpa using h
  have hlen := sp_len true l p a hp4 (l.length + 1) 0 0 ts 0 (by omega) (by omega) hlg
  have hg := lex_good hl
  have hw := wf_all true l (l.length + 1) 0 0 ts (by omega) (by omega) hlg
  obtain ⟨_, ts', r, hl', hpr⟩ := parse_ok_cases hx
  rw [hl] at hl'
  simp at hl'; subst hl'
  rcases lex_sp true p a hp (fun j t h => (ha j t h).1) ts 0 0 0 hg hw with ⟨z, hz, _⟩ | ⟨us, hu, hi⟩
  · refine Or.inl ⟨z, 36, ?_, Or.inr rfl⟩
    unfold Px.parse Lx.lex
    rw [if_neg (by omega), hz]
  · have hlu : Lx.lex true (sp p a 0 ts) = .inl us := by
      unfold Lx.lex
      rw [if_neg (by omega)]; exact hu
    rw [parse_of hlu]
    rcases ins_two hi ha hg hpr with ⟨z, hz⟩ | ⟨p2, r2, h3, h4⟩
    · rw [hz]; exact Or.inl ⟨z, 32, rfl, Or.inl rfl⟩
    · rw [h3]; exact Or.inr ⟨p2, rfl, h4⟩
end Go.Proofs.YtifebbdjdllfpaaGreatDoor
/- The statements on parse, walked over what Parse answers. -/
namespace Go.Proofs.YtifebbdjdllfpaaGreatDoor
open Go.RowKit
set_option linter.unusedSimpArgs false
set_option linter.unusedVariables false

abbrev zeroPr : Value := .agg #[.int .i64 0, .slice none 0 0, .slice none 0 0]
/-- What Parse answers: a program in new memory; or no program, a place and an error. -/
def ParsePost (res : Px.Pr ⊕ (Nat × Nat)) (w : World) (e : Ending) (w' : World) : Prop :=
  match res with
  | .inl p => (∃ v, e = .returned (.tuple #[v, .int .i64 0, .int .i64 0]) ∧ IsPr (From w.heap.size) w' p v) ∧ Below w.heap.size w w'
  | .inr (a, er) => e = .returned (.tuple #[zeroPr, .int .i64 a, .int .i64 er]) ∧ Below w.heap.size w w'
/-- Parse answers what the document says. -/
def ParseOk : Prop := ∀ (s : ByteArray) (w : World), Env w → s.size ≤ maxLen → Calls Tryz.prog 10 #[.string s] w fun e w' => ParsePost (Px.parse s.data.toList) w e w'

theorem zero_pr (B : Nat → Prop) (w : World) : IsPr B w ⟨0, [], []⟩ zeroPr := ⟨_, _, rfl, ⟨rfl, Or.inl ⟨rfl, rfl⟩⟩, [], ⟨rfl, Or.inl ⟨rfl, rfl⟩⟩, rfl⟩
theorem IsPr.cells {B : Nat → Prop} {w : World} {p : Px.Pr} {v : Value} (h : IsPr B w p v) : ∃ sa sn sc fa fn fc, v = .agg #[.int .i64 p.version, .slice sa sn sc, .slice fa fn fc] := by
  obtain ⟨ss, fs, hv, h1, row, h2, h3⟩ := h
  obtain ⟨sa, sc, rfl⟩ := IsSls.slice h1
  obtain ⟨fa, fc, rfl, _⟩ := h2.slice
  exact ⟨sa, _, sc, fa, _, fc, hv⟩

def wakeText : ByteArray := ⟨#[118, 101, 114, 115, 105, 111, 110, 32, 49, 59, 32, 111, 110, 32, 97, 100, 100, 40, 120, 58, 105, 110, 116, 41, 58, 105, 110, 116, 123, 115, 101, 116, 32, 110, 61, 110, 43, 120, 59, 114, 101, 116, 32, 110, 59, 125]⟩
def wakeProg : Px.Pr := ⟨1, [], [⟨[97, 100, 100], true, [⟨[120], [105, 110, 116], 18⟩], [105, 110, 116], [.mk 2 [110] [.mk 15 9 0 [] [.mk 6 0 0 [110] [] 35, .mk 6 0 0 [120] [] 37] 36] [] [] 29, .mk 6 [] [.mk 6 0 0 [110] [] 43] [] [] 39], 14⟩]⟩
theorem wake_parse : Px.parse wakeText.data.toList = .inl wakeProg := by kernel_rfl
theorem wake_fault : Px.parse (⟨#[118, 101, 114, 115, 105, 111, 110, 59]⟩ : ByteArray).data.toList = .inr (7, 31) := by kernel_rfl

/-- The cells of the program that the statements ask of first. -/
theorem wake_cells {B : Nat → Prop} {w : World} {v : Value} (h : IsPr B w wakeProg v) : ∃ sa sn sc f fo fc b bo bc x xo xc eo ec ao ac co cc pl, v = .agg #[.int .i64 1, .slice sa sn sc, .slice (some ⟨f, fo, none⟩) 1 fc] ∧ f < w.heap.size ∧ b < w.heap.size ∧ x < w.heap.size ∧ 1 ≤ fc ∧ 2 ≤ bc ∧ 1 ≤ xc ∧
    w.cell? ⟨f, fo + 1, none⟩ = some (.bool true) ∧ w.cell? ⟨f, fo + 5, none⟩ = some (.slice (some ⟨b, bo, none⟩) 2 bc) ∧
    (w.cell? ⟨b, bo, none⟩ = some (.int .i64 2) ∧ w.cell? ⟨b, bo + 1, none⟩ = some (.string ⟨#[110]⟩) ∧ w.cell? ⟨b, bo + 2, none⟩ = some (.int .i64 0) ∧ w.cell? ⟨b, bo + 3, none⟩ = some (.bool false) ∧ w.cell? ⟨b, bo + 4, none⟩ = some (.int .i64 0) ∧ w.cell? ⟨b, bo + 5, none⟩ = some (.slice (some ⟨x, xo, none⟩) 1 xc) ∧ w.cell? ⟨b, bo + 6, none⟩ = some (.slice ao 0 ac) ∧ w.cell? ⟨b, bo + 7, none⟩ = some (.slice co 0 cc) ∧ w.cell? ⟨b, bo + 8, none⟩ = some (.int .i64 (pl : Nat))) ∧
    w.cell? ⟨x, xo, none⟩ = some (.int .i64 15) ∧ w.cell? ⟨x, xo + 1, none⟩ = some (.int .i64 9) ∧ eo = (0 : Nat) ∧ ec = (0 : Nat) := by
  obtain ⟨ss, fs, rfl, h1, row, h2, h3⟩ := h
  obtain ⟨sa, sc, rfl⟩ := IsSls.slice h1
  obtain ⟨f, fo, fc, rfl, hfc, _, _, hf, hcf⟩ := h2.cells (by decide)
  obtain ⟨cs, ⟨ps, bs, rfl, _, rowb, hb1, hb2⟩, hget⟩ := h3.get (i := 0) (e := ⟨[97, 100, 100], true, [⟨[120], [105, 110, 116], 18⟩], [105, 110, 116], [.mk 2 [110] [.mk 15 9 0 [] [.mk 6 0 0 [110] [] 35, .mk 6 0 0 [120] [] 37] 36] [] [] 29, .mk 6 [] [.mk 6 0 0 [110] [] 43] [] [] 39], 14⟩) rfl
  obtain ⟨b, bo, bc, rfl, hbc, _, _, hb, hcb⟩ := hb1.cells (by decide)
  obtain ⟨cs2, hst, hget2⟩ := hb2.get (i := 0) (e := .mk 2 [110] [.mk 15 9 0 [] [.mk 6 0 0 [110] [] 35, .mk 6 0 0 [120] [] 37] 36] [] [] 29) rfl
  rw [IsSt] at hst
  obtain ⟨s1, s2, s3, r1, r2, r3, rfl, a1, a2, a3, a4, a5, a6⟩ := hst
  obtain ⟨x, xo, xc, rfl, hxc, _, _, hx, hcx⟩ := a1.cells (by decide)
  obtain ⟨ao, ac, rfl, _⟩ := a3.slice
  obtain ⟨co, cc, rfl, _⟩ := a5.slice
  obtain ⟨cs3, hex, hget3⟩ := a2.get (i := 0) (e := .mk 15 9 0 [] [.mk 6 0 0 [110] [] 35, .mk 6 0 0 [120] [] 37] 36) rfl
  rw [IsEx] at hex
  obtain ⟨sl, row3, rfl, _, _⟩ := hex
  refine ⟨sa, _, sc, f, fo, fc, b, bo, bc, x, xo, xc, 0, 0, ao, ac, co, cc, 29, rfl, hf, hb, hx, hfc, hbc, hxc, hcf 1 _ (by rw [show (1 : Nat) = 0 * 7 + 1 from rfl, hget 1 (by decide)]; rfl), hcf 5 _ (by rw [show (5 : Nat) = 0 * 7 + 5 from rfl, hget 5 (by decide)]; rfl), ⟨?_, ?_, ?_, ?_, ?_, ?_, ?_, ?_, ?_⟩, ?_, ?_, rfl, rfl⟩
  · exact hcb 0 _ (by rw [show (0 : Nat) = 0 * 9 + 0 from rfl, hget2 0 (by decide)]; rfl)
  · exact hcb 1 _ (by rw [show (1 : Nat) = 0 * 9 + 1 from rfl, hget2 1 (by decide)]; rfl)
  · exact hcb 2 _ (by rw [show (2 : Nat) = 0 * 9 + 2 from rfl, hget2 2 (by decide)]; rfl)
  · exact hcb 3 _ (by rw [show (3 : Nat) = 0 * 9 + 3 from rfl, hget2 3 (by decide)]; rfl)
  · exact hcb 4 _ (by rw [show (4 : Nat) = 0 * 9 + 4 from rfl, hget2 4 (by decide)]; rfl)
  · exact hcb 5 _ (by rw [show (5 : Nat) = 0 * 9 + 5 from rfl, hget2 5 (by decide)]; rfl)
  · exact hcb 6 _ (by rw [show (6 : Nat) = 0 * 9 + 6 from rfl, hget2 6 (by decide)]; rfl)
  · exact hcb 7 _ (by rw [show (7 : Nat) = 0 * 9 + 7 from rfl, hget2 7 (by decide)]; rfl)
  · exact hcb 8 _ (by rw [show (8 : Nat) = 0 * 9 + 8 from rfl, hget2 8 (by decide)]; rfl)
  · exact hcx 0 _ (by rw [show (0 : Nat) = 0 * 8 + 0 from rfl, hget3 0 (by decide)]; rfl)
  · exact hcx 1 _ (by rw [show (1 : Nat) = 0 * 8 + 1 from rfl, hget3 1 (by decide)]; rfl)

theorem first_place {ts : List Lx.Tok} {a : Nat} (h : ∃ t ∈ ts, t.place = a) : ¬ ∀ (q : Nat) (t : Lx.Tok), ts[q]? = some t → t.place ≠ a := by
  obtain ⟨t, ht, hp⟩ := h
  obtain ⟨q, hq⟩ := List.getElem?_of_mem ht
  exact fun hh => hh q t hq hp

end Go.Proofs.YtifebbdjdllfpaaGreatDoor
