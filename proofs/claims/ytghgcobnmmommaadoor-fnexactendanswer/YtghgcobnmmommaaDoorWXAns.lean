import Derived.Test.YtghgcobnmmommaaDoorEnA3
namespace Go.Proofs.YtghgcobnmmommaaDoor
open Go.RowKit
set_option linter.unusedVariables false

set_option maxRecDepth 100000 in
set_option maxHeartbeats 20000000 in
theorem fnExactEndAnswer_walk (p t : ByteArray) (w : World) (hG : TabW w) (hp : p.size ≤ maxLen) (ht : t.size ≤ maxLen) :
    Calls Tryd.prog 5 #[.string p, .string t] w fun e w' => e = .returned (.bool true) ∧ Below w.heap.size w w' := by
  unfold maxLen at hp ht
  by_cases c0 : (1048576 : Int) < p.size
  · clear hG
    go_enter Tryd.func5, Tryd.ntmps5
    go_wp2
    go_ret
    exact ⟨rfl, Below.refl _ _⟩
  by_cases c1 : (1048576 : Int) < t.size
  · clear hG
    go_enter Tryd.func5, Tryd.ntmps5
    go_wp2
    go_ret
    exact ⟨rfl, Below.refl _ _⟩
  have HG : Hid (TabW w) := hG
  have hS := fun W => specEndAnswer p t W (by unfold maxLen; omega)
  have hI := fun W (h : Below w.heap.size w W) => implEndAnswer p t W (by omega) (fun W' h' => itoa_all t.size (by omega) W' ((HG.out.below h).below h'))
  obtain ⟨⟨x, y⟩, hxy⟩ : ∃ x, edAns p t = x := ⟨_, rfl⟩
  rw [hxy] at hS hI
  dsimp only at hS hI
  clear hG hxy
  go_enter Tryd.func5, Tryd.ntmps5
  go_wp2_with (first | (go_at_call 7; refine (hS _).mono ?_; clear hS; rintro e w2 ⟨rfl, hb2⟩) | (go_at_call 8; refine (hI _ hb2).mono ?_; clear hI; rintro e w3 ⟨rfl, hb3⟩))
  go_ret
  exact ⟨rfl, btF hb2 hb3⟩
end Go.Proofs.YtghgcobnmmommaaDoor
