import Derived.Test.YtbhoafiolalgaaaGreatProg
import Derived.Test.YtbhoafiolalgaaaGreatBA
import Derived.Test.YtbhoafiolalgaaaGreatNumW
import Derived.RegionTactic
import Derived.Deep.QuietTactic
import Derived.BigQuiet
import Derived.OpenShut
import Derived.Deep.RegionWith
namespace Go.Proofs.YtbhoafiolalgaaaGreat
open Go.RowKit
set_option linter.unusedVariables false
theorem list1 (l : List Int) (h : 0 < l.length) : l.take 1 = [l[0]] := by
  match l, h with
  | a :: t, _ => simp
theorem list2 (l : List Int) (h : 1 < l.length) : l.take 2 = [l[0], l[1]] := by
  match l, h with
  | a :: b :: t, _ => simp
theorem list3 (l : List Int) (h : 2 < l.length) : l.take 3 = [l[0], l[1], l[2]] := by
  match l, h with
  | a :: b :: c :: t, _ => simp
theorem take_one (s : ByteArray) (h : 0 < s.size) : (bytesL s).take 1 = [((s[0]'h).toNat : Int)] := by
  rw [bytesL_at, list1 _ (by rw [bytesL_length]; exact h)]
theorem take_two (s : ByteArray) (h : 0 < s.size) (h1 : 1 < s.size) : (bytesL s).take 2 = [((s[0]'h).toNat : Int), ((s[1]'h1).toNat : Int)] := by
  rw [bytesL_at, bytesL_at, list2 _ (by rw [bytesL_length]; exact h1)]
theorem take_three (s : ByteArray) (h : 0 < s.size) (h1 : 1 < s.size) (h2 : 2 < s.size) : (bytesL s).take 3 = [((s[0]'h).toNat : Int), ((s[1]'h1).toNat : Int), ((s[2]'h2).toNat : Int)] := by
  rw [bytesL_at, bytesL_at, bytesL_at, list3 _ (by rw [bytesL_length]; exact h2)]

set_option maxRecDepth 100000 in
set_option maxHeartbeats 400000 in
theorem first3 (b : Nat) (x num unit : Int) (w : World) (h : Rd w b 7 num unit) (x0 : 0 ≤ x) (x1 : x ≤ 255) :
    Calls Tryz.prog 65 #[.pointer (some ⟨b, 0, none⟩), .int .u8 x] w fun e w' => e = .returned (.bool (x % 8 == 7)) ∧ Rd w' b 7 (x % 8) unit ∧ Below b w w' := by
  obtain ⟨c0, c1, c2, f1, f2⟩ := h
  have ha := and7 x x0 x1
  go_enter Tryz.func65, Tryz.ntmps65
  go_wp2
  go_quiet (fail)
  go_wp2
  go_ret
  refine ⟨rfl, ⟨?_, ?_, ?_, ?_, ?_⟩, ?_⟩
  · go_cell
  · go_cell
  · go_cell
  · go_cell
  · go_cell
  · exact below_drewN (Below.setCell (Below.refl _ _) (Nat.le_refl b) _) _

set_option maxRecDepth 100000 in
set_option maxHeartbeats 400000 in
theorem first4 (b : Nat) (x num unit : Int) (w : World) (h : Rd w b 15 num unit) (x0 : 0 ≤ x) (x1 : x ≤ 255) :
    Calls Tryz.prog 65 #[.pointer (some ⟨b, 0, none⟩), .int .u8 x] w fun e w' => e = .returned (.bool (x % 16 == 15)) ∧ Rd w' b 15 (x % 16) unit ∧ Below b w w' := by
  obtain ⟨c0, c1, c2, f1, f2⟩ := h
  have ha := and15 x x0 x1
  go_enter Tryz.func65, Tryz.ntmps65
  go_wp2
  go_quiet (fail)
  go_wp2
  go_ret
  refine ⟨rfl, ⟨?_, ?_, ?_, ?_, ?_⟩, ?_⟩
  · go_cell
  · go_cell
  · go_cell
  · go_cell
  · go_cell
  · exact below_drewN (Below.setCell (Below.refl _ _) (Nat.le_refl b) _) _

set_option maxRecDepth 100000 in
set_option maxHeartbeats 400000 in
theorem first5 (b : Nat) (x num unit : Int) (w : World) (h : Rd w b 31 num unit) (x0 : 0 ≤ x) (x1 : x ≤ 255) :
    Calls Tryz.prog 65 #[.pointer (some ⟨b, 0, none⟩), .int .u8 x] w fun e w' => e = .returned (.bool (x % 32 == 31)) ∧ Rd w' b 31 (x % 32) unit ∧ Below b w w' := by
  obtain ⟨c0, c1, c2, f1, f2⟩ := h
  have ha := and31 x x0 x1
  go_enter Tryz.func65, Tryz.ntmps65
  go_wp2
  go_quiet (fail)
  go_wp2
  go_ret
  refine ⟨rfl, ⟨?_, ?_, ?_, ?_, ?_⟩, ?_⟩
  · go_cell
  · go_cell
  · go_cell
  · go_cell
  · go_cell
  · exact below_drewN (Below.setCell (Below.refl _ _) (Nat.le_refl b) _) _

set_option maxRecDepth 100000 in
set_option maxHeartbeats 400000 in
theorem first6 (b : Nat) (x num unit : Int) (w : World) (h : Rd w b 63 num unit) (x0 : 0 ≤ x) (x1 : x ≤ 255) :
    Calls Tryz.prog 65 #[.pointer (some ⟨b, 0, none⟩), .int .u8 x] w fun e w' => e = .returned (.bool (x % 64 == 63)) ∧ Rd w' b 63 (x % 64) unit ∧ Below b w w' := by
  obtain ⟨c0, c1, c2, f1, f2⟩ := h
  have ha := and63 x x0 x1
  go_enter Tryz.func65, Tryz.ntmps65
  go_wp2
  go_quiet (fail)
  go_wp2
  go_ret
  refine ⟨rfl, ⟨?_, ?_, ?_, ?_, ?_⟩, ?_⟩
  · go_cell
  · go_cell
  · go_cell
  · go_cell
  · go_cell
  · exact below_drewN (Below.setCell (Below.refl _ _) (Nat.le_refl b) _) _

set_option maxRecDepth 100000 in
set_option maxHeartbeats 400000 in
theorem first7 (b : Nat) (x num unit : Int) (w : World) (h : Rd w b 127 num unit) (x0 : 0 ≤ x) (x1 : x ≤ 255) :
    Calls Tryz.prog 65 #[.pointer (some ⟨b, 0, none⟩), .int .u8 x] w fun e w' => e = .returned (.bool (x % 128 == 127)) ∧ Rd w' b 127 (x % 128) unit ∧ Below b w w' := by
  obtain ⟨c0, c1, c2, f1, f2⟩ := h
  have ha := and127 x x0 x1
  go_enter Tryz.func65, Tryz.ntmps65
  go_wp2
  go_quiet (fail)
  go_wp2
  go_ret
  refine ⟨rfl, ⟨?_, ?_, ?_, ?_, ?_⟩, ?_⟩
  · go_cell
  · go_cell
  · go_cell
  · go_cell
  · go_cell
  · exact below_drewN (Below.setCell (Below.refl _ _) (Nat.le_refl b) _) _

set_option maxRecDepth 100000 in
set_option maxHeartbeats 400000 in
theorem later1 (b : Nat) (x top num : Int) (w : World) (h : Rd w b top num 1) (x0 : 0 ≤ x) (x1 : x ≤ 255) (n0 : 0 ≤ num) (n1 : num ≤ 100000) :
    Calls Tryz.prog 66 #[.pointer (some ⟨b, 0, none⟩), .int .u8 x] w fun e w' => e = .returned (.bool (decide (128 ≤ x))) ∧ Rd w' b top (num + x % 128) 128 ∧ Below b w w' := by
  obtain ⟨c0, c1, c2, f1, f2⟩ := h
  go_enter Tryz.func66, Tryz.ntmps66
  go_wp2
  go_region
  go_wp2
  go_ret
  refine ⟨rfl, ⟨?_, ?_, ?_, ?_, ?_⟩, ?_⟩
  · go_cell
  · go_cell
  · go_cell
  · go_cell
  · go_cell
  · exact Below.drew (Below.setCell (p := ⟨b, 2, none⟩) (Below.setCell (p := ⟨b, 1, none⟩) (Below.refl _ _) (Nat.le_refl b) _) (Nat.le_refl b) _)

set_option maxRecDepth 100000 in
set_option maxHeartbeats 400000 in
theorem later2 (b : Nat) (x top num : Int) (w : World) (h : Rd w b top num 128) (x0 : 0 ≤ x) (x1 : x ≤ 255) (n0 : 0 ≤ num) (n1 : num ≤ 100000) :
    Calls Tryz.prog 66 #[.pointer (some ⟨b, 0, none⟩), .int .u8 x] w fun e w' => e = .returned (.bool (decide (128 ≤ x))) ∧ Rd w' b top (num + x % 128 * 128) 16384 ∧ Below b w w' := by
  obtain ⟨c0, c1, c2, f1, f2⟩ := h
  go_enter Tryz.func66, Tryz.ntmps66
  go_wp2
  go_region
  go_wp2
  go_ret
  refine ⟨rfl, ⟨?_, ?_, ?_, ?_, ?_⟩, ?_⟩
  · go_cell
  · go_cell
  · go_cell
  · go_cell
  · go_cell
  · exact Below.drew (Below.setCell (p := ⟨b, 2, none⟩) (Below.setCell (p := ⟨b, 1, none⟩) (Below.refl _ _) (Nat.le_refl b) _) (Nat.le_refl b) _)
end Go.Proofs.YtbhoafiolalgaaaGreat
