import Derived.Test.YtghgcobnmmommaaDoorEnA2
namespace Go.Proofs.YtghgcobnmmommaaDoor
open Go.RowKit
set_option linter.unusedVariables false

theorem hidI2 {p : Prop} (h : p) : Hid p := h
theorem upB_parts (s : ByteArray) (k : Nat) (hk : k ≤ s.size) : upB (s.extract 0 k) ++ upB (s.extract k s.size) = upB s := by
  unfold upB
  rw [strOfNums_append]
  congr 1
  unfold upL
  rw [← List.map_append, bytesL_extract s 0 k, bytesL_extract s k s.size]
  congr 1
  rw [List.drop_zero, List.take_of_length_le (i := s.size) (by rw [bytesL_length]; omega), List.take_append_drop]
theorem extract_parts (s : ByteArray) (k : Nat) (hk : k ≤ s.size) : s.extract 0 k ++ s.extract k s.size = s := by
  apply ByteArray.ext
  rw [ByteArray.data_append, ByteArray.data_extract, ByteArray.data_extract]
  rw [Array.extract_append_extract]
  simp
  omega
theorem decB_one' (n : Nat) (hn : n < 100) : (decB n).size = if n < 10 then 1 else 2 := by
  rw [decB_digits]
  by_cases h : n < 10
  · rw [if_pos h, Lib.decDigits_one h]
    rfl
  · rw [if_neg h, Lib.decDigits_two h hn]
    rfl
end Go.Proofs.YtghgcobnmmommaaDoor
