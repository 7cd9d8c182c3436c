import Derived.Test.YtbhoafiolalgaaaGreatNumR3
import Derived.Test.YtbhoafiolalgaaaGreatNumR4
import Derived.Test.YtbhoafiolalgaaaGreatNumR5
import Derived.Test.YtbhoafiolalgaaaGreatNumR6
import Derived.Test.YtbhoafiolalgaaaGreatNumR7
namespace Go.Proofs.YtbhoafiolalgaaaGreat
open Go.RowKit
set_option linter.unusedVariables false

set_option maxRecDepth 100000 in
set_option maxHeartbeats 400000 in
/-- What NumRead reads. -/
theorem numRead_any (s : ByteArray) (bits : Int) (w : World) (hm : s.size ≤ maxLen) :
    Calls Tryz.prog 43 #[.string s, .int .i64 bits] w fun e w' => e = .returned (tupV (rdV s bits)) ∧ Below w.heap.size w w' := by
  unfold rdV
  by_cases h : 3 ≤ bits ∧ bits ≤ 7
  · rw [if_pos h]
    rcases bits_cases h.1 h.2 with rfl | rfl | rfl | rfl | rfl
    · exact ir3 s w hm
    · exact ir4 s w hm
    · exact ir5 s w hm
    · exact ir6 s w hm
    · exact ir7 s w hm
  · rw [if_neg h]
    show Calls Tryz.prog 43 #[.string s, .int .i64 bits] w fun e w' => e = .returned (.tuple #[.int .i64 0, .int .i64 0, .bool false]) ∧ Below w.heap.size w w'
    unfold maxLen at hm
    have hz : ((s.size : Int) == 0) = true ∨ ((s.size : Int) == 0) = false := by cases ((s.size : Int) == 0) <;> simp
    rcases hz with hz | hz
    · clear h
      go_enter Tryz.func43, Tryz.ntmps43
      go_wp2
      all_goals
        go_ret3
        exact ⟨rfl, Below.refl _ _⟩
    · by_cases h1 : bits < 3
      · clear h
        go_enter Tryz.func43, Tryz.ntmps43
        go_wp2
        go_ret3
        exact ⟨rfl, Below.refl _ _⟩
      · have h2 : 7 < bits := by omega
        have h3 : (decide (bits ≤ 7)) = false := by simp; omega
        clear h
        go_enter Tryz.func43, Tryz.ntmps43
        go_wp2
        go_ret3
        exact ⟨rfl, Below.refl _ _⟩
end Go.Proofs.YtbhoafiolalgaaaGreat
