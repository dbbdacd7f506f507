/- The statement on Quote, Plain and Word, walked. -/
import Derived.Test.YtjolbladokgpbaaDoorQuote
namespace Go.Proofs.YtjolbladokgpbaaDoor
open Go.RowKit
set_option linter.unusedSimpArgs false
set_option linter.unusedVariables false

set_option maxHeartbeats 4000000 in
theorem words_walk (s : ByteArray) (w : World) (henv : Env w) (hs : s.size ≤ 1099511627776) :
    Calls Tryd.prog 4 #[.string s] w fun e w' => e = .returned (.bool true) ∧ Below w.heap.size w w' := by
  have hm : s.size ≤ maxLen := by unfold maxLen; omega
  have hw := wakes_any w henv
  go_enter Tryd.func4, Tryd.ntmps4
  go_wp2_with fail
  refine hw.mono ?_
  rintro e w1 ⟨rfl, hb1⟩
  go_wp2_with fail
  refine (quote_any s w1 hs).mono ?_
  rintro e w2 ⟨rfl, hb2⟩
  go_wp2_with fail
  refine (rquote_any s w2 hs).mono ?_
  rintro e w3 ⟨rfl, hb3⟩
  have heq : ((⟨(quoteT s.data.toList).toArray⟩ : ByteArray).toList == (⟨(quoteT s.data.toList).toArray⟩ : ByteArray).toList) = true := by simp
  rcases hp : plainB s.data.toList with _ | _
  all_goals
    rcases hq : wordB s.data.toList with _ | _
    all_goals
      go_wp2_with (first
        | (go_at_call 15; refine (plain_any s _ hm).mono ?_; rw [hp]; rintro e w4 ⟨rfl, rfl⟩)
        | (go_at_call 16; refine (rplain_any s _ hm).mono ?_; rw [hp]; rintro e w4 ⟨rfl, rfl⟩)
        | (go_at_call 17; refine (word_any s _ hm).mono ?_; rw [hq]; rintro e w4 ⟨rfl, rfl⟩)
        | (go_at_call 18; refine (rword_any s _ hm).mono ?_; rw [hq]; rintro e w4 ⟨rfl, rfl⟩))
      go_ret
      exact ⟨rfl, (hb1.trans (hb2.mono hb1.size)).trans (hb3.mono (Nat.le_trans hb1.size hb2.size))⟩
end Go.Proofs.YtjolbladokgpbaaDoor
