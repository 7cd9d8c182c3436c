import Derived.Test.YtghgcobnmmommaaDoorEdF1
import Derived.Test.YtghgcobnmmommaaDoorFlD
namespace Go.Proofs.YtghgcobnmmommaaDoor
open Go.RowKit
set_option linter.unusedVariables false

set_option maxRecDepth 100000 in
set_option maxHeartbeats 4000000 in
theorem drawEndAnswer (a : Option Addr) (len cap : Nat) (zs : List Int) (w : World) (hr : Row w a len cap zs) :
    Calls Tryd.prog 6 #[.slice a len cap] w fun e w' => ∃ p t : ByteArray, e = .returned (.tuple #[.string p, .string t]) ∧ p.size ≤ 20 ∧ t.size ≤ 20 ∧ Below w.heap.size w w' := by
  have ho := open_st2W a len cap zs w hr
  clear hr
  go_enter Tryd.func6, Tryd.ntmps6
  go_wp2_with fail
  refine ho.mono ?_
  rintro e w1 ⟨rfl, hst, hb, hs⟩
  clear ho
  have hsz : w.heap.size ≤ w1.heap.size := hb.size
  have hp := l72Path_any w.heap.size 0 w1 w1 hst (by omega)
  go_wp2_with fail
  refine hp.mono ?_
  rintro e w2 ⟨p, rfl, hp1, st2⟩
  clear hp hst
  have ht := l72Text_any w.heap.size (0 + 1) w1 w2 st2 (by omega)
  go_wp2_with fail
  refine ht.mono ?_
  rintro e w3 ⟨t, rfl, ht1, st3⟩
  clear ht st2
  have hB := St2.belW hb st3 (Nat.le_refl _) hsz
  go_wp2
  go_ret2
  exact ⟨p, t, rfl, hp1, ht1, hB⟩
end Go.Proofs.YtghgcobnmmommaaDoor
