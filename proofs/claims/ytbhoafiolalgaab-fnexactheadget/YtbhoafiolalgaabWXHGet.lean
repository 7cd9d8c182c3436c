import Derived.Test.YtbhoafiolalgaabBS
import Derived.Test.YtbhoafiolalgaabBO
import Derived.Test.YtbhoafiolalgaabHG
namespace Go.Proofs.Ytbhoafiolalgaab
open Go.RowKit
set_option linter.unusedVariables false

set_option maxRecDepth 100000 in
set_option maxHeartbeats 20000000 in
theorem fnExactHeadGet_walk (h : List Fd) (ah : Option Addr) (nh ch : Nat) (nm : ByteArray) (w : World) (hH : FsA w ah nh ch h) (hN : nm.size ≤ maxLen) :
    Calls Try.prog 7 #[.slice ah nh ch, .string nm] w fun e w' => e = .returned (.bool true) ∧ Below w.heap.size w w' := by
  obtain rfl : h.length = nh := hH.len
  by_cases cn : (1048576 : Int) < nm.size
  · clear hH
    go_enter Try.func7, Try.ntmps7
    go_wp2
    go_ret
    exact ⟨rfl, Below.refl _ _⟩
  have hsz := szFieldS_any h ah h.length ch 1048576 w hH (by decide) (by decide)
  have HH : Hid (FsA w ah h.length ch h) := hH
  clear hH
  go_enter Try.func7, Try.ntmps7
  go_wp2_with fail
  refine hsz.mono ?_
  clear hsz
  rintro e w0 ⟨r, rfl, hr, hB⟩
  have hz0 := hB.size
  rcases hr with rfl | ⟨r0, r1, r2, hbd⟩
  · go_wp2
    go_ret
    exact ⟨rfl, hB⟩
  have hn : h.length ≤ 1048576 := by omega
  have hd : decide (r < 0) = false := by rw [decide_eq_false_iff_not]; omega
  have htf := fun (w' : World) (h' : FsA w' ah h.length ch h) => toFieldS_any h ah h.length ch w' h' hn
  have heq := fun (w' : World) (x y : Option Addr) (p q : Nat) (h1 : Fs w' x h.length p h) (h2 : Fs w' y h.length q h) => eqFieldS_any h h x y _ p _ q w' h1 h2 hn hn
  rw [eqFs_self] at heq
  have hsp := fun (w' : World) (x : Option Addr) (p : Nat) (h1 : Fs w' x h.length p h) => specHeadGet h nm x _ p w' h1 hbd hn
  have him := fun (w' : World) (x : Option Addr) (p : Nat) (h1 : Fs w' x h.length p h) => implHeadGet h nm x _ p w' h1 hbd hn
  obtain ⟨⟨V, R⟩, hR⟩ : ∃ R, getH h nm = R := ⟨_, rfl⟩
  rw [hR] at hsp him
  dsimp only at hsp him
  clear hR hbd
  go_wp2_with fail
  refine (htf _ (HH.out.below hB)).mono ?_
  rintro e w1 ⟨v, rfl, ho, hb⟩
  have hz1 : w0.heap.size ≤ w1.heap.size := by have := hb.size; (try simp only [World.size_alloc] at this); omega
  replace hB := bt' hB hb
  clear hb
  obtain ⟨ap, cp, rfl⟩ := own_formT ho
  have O_p := own_baseT ho (b' := w0.heap.size) (by (try simp only [World.size_alloc]); omega)
  have L_p : ∀ q, (Value.slice ap h.length cp).ownBlock = some q → q < w1.heap.size := fun q e => (O_p.lt q e).2
  clear ho
  go_wp2_with fail
  refine (hsp _ _ _ (own_Fs O_p)).mono ?_
  rintro e w2 ⟨rfl, hb⟩
  have hz2 : w1.heap.size ≤ w2.heap.size := by have := hb.size; (try simp only [World.size_alloc] at this); omega
  replace O_p := own_belowT O_p hb
  replace hB := bt' hB hb
  clear hb
  clear O_p
  go_wp2_with fail
  refine (htf _ (HH.out.below hB)).mono ?_
  rintro e w3 ⟨v, rfl, ho, hb⟩
  have hz3 : w2.heap.size ≤ w3.heap.size := by have := hb.size; (try simp only [World.size_alloc] at this); omega
  replace hB := bt' hB hb
  clear hb
  obtain ⟨ax, cx, rfl⟩ := own_formT ho
  have O_x := own_baseT ho (b' := w2.heap.size) (by (try simp only [World.size_alloc]); omega)
  have L_x : ∀ q, (Value.slice ax h.length cx).ownBlock = some q → q < w3.heap.size := fun q e => (O_x.lt q e).2
  clear ho
  go_wp2_with fail
  refine (him _ _ _ (own_Fs O_x)).mono ?_
  rintro e w4 ⟨rfl, hb⟩
  have hz4 : w3.heap.size ≤ w4.heap.size := by have := hb.size; (try simp only [World.size_alloc] at this); omega
  replace O_x := own_belowT O_x hb
  replace hB := bt' hB hb
  clear hb
  go_wp2_with fail
  refine (htf _ (HH.out.below hB)).mono ?_
  rintro e w5 ⟨v, rfl, ho, hb⟩
  have hz5 : w4.heap.size ≤ w5.heap.size := by have := hb.size; (try simp only [World.size_alloc] at this); omega
  replace O_x := own_belowT O_x hb
  replace hB := bt' hB hb
  clear hb
  obtain ⟨aq, cq, rfl⟩ := own_formT ho
  have O_q := own_baseT ho (b' := w4.heap.size) (by (try simp only [World.size_alloc]); omega)
  have L_q : ∀ q, (Value.slice aq h.length cq).ownBlock = some q → q < w5.heap.size := fun q e => (O_q.lt q e).2
  clear ho
  go_wp2_with fail
  refine (heq _ _ _ _ _ (own_Fs O_x) (own_Fs O_q)).mono ?_
  rintro e w6 ⟨rfl, hb⟩
  have hz6 : w5.heap.size ≤ w6.heap.size := by have := hb.size; (try simp only [World.size_alloc] at this); omega
  replace O_x := own_belowT O_x hb
  replace O_q := own_belowT O_q hb
  replace hB := bt' hB hb
  clear hb
  go_wp2
  go_ret
  exact ⟨rfl, hB⟩
end Go.Proofs.Ytbhoafiolalgaab
