import Derived.Test.YtdnajdobmlgmiaaProg
import Derived.Test.YtdnajdobmlgmiaaBA
import Derived.Test.YtdnajdobmlgmiaaNumW
import Derived.RegionTactic
import Derived.Deep.QuietTactic
import Derived.BigQuiet
import Derived.OpenShut
import Derived.Deep.RegionWith
namespace Go.Proofs.Ytdnajdobmlgmiaa
open Go.RowKit
set_option linter.unusedVariables false
theorem list1 (l : List Int) (h : 0 < l.length) : l.take 1 = [l[0]] := by
  match l, h with
  | a :: t, _ => simp
theorem list2 (l : List Int) (h : 1 < l.length) : l.take 2 = [l[0], l[1]] := by
  match l, h with
  | a :: b :: t, _ => simp
theorem list3 (l : List Int) (h : 2 < l.length) : l.take 3 = [l[0], l[1], l[2]] := by
  match l, h with
  | a :: b :: c :: t, _ => simp
theorem take_one (s : ByteArray) (h : 0 < s.size) : (bytesL s).take 1 = [((s[0]'h).toNat : Int)] := by
  rw [bytesL_at, list1 _ (by rw [bytesL_length]; exact h)]
theorem take_two (s : ByteArray) (h : 0 < s.size) (h1 : 1 < s.size) : (bytesL s).take 2 = [((s[0]'h).toNat : Int), ((s[1]'h1).toNat : Int)] := by
  rw [bytesL_at, bytesL_at, list2 _ (by rw [bytesL_length]; exact h1)]
theorem take_three (s : ByteArray) (h : 0 < s.size) (h1 : 1 < s.size) (h2 : 2 < s.size) : (bytesL s).take 3 = [((s[0]'h).toNat : Int), ((s[1]'h1).toNat : Int), ((s[2]'h2).toNat : Int)] := by
  rw [bytesL_at, bytesL_at, bytesL_at, list3 _ (by rw [bytesL_length]; exact h2)]

end Go.Proofs.Ytdnajdobmlgmiaa
