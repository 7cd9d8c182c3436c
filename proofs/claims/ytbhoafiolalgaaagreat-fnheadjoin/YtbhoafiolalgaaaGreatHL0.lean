import Derived.Test.YtbhoafiolalgaaaGreatHD0
import Derived.Test.YtbhoafiolalgaaaGreatBF
namespace Go.Proofs.YtbhoafiolalgaaaGreat
open Go.RowKit
set_option linter.unusedVariables false

theorem wrH_len {max : Int} {h fs : List Fd} (ht : tOk fs max = true) (hh : hOk h = true) : tOk (wrH fs max h).1 max = true ∧ (wrH fs max h).1.length ≤ 16 ∧ (wrH fs max h).2.size ≤ 222 := by
  have h1 := hOk_parts hh
  have h2 := wrH_ok h fs ht h1.1
  have h3 := wrH_size h fs max
  exact ⟨h2, tOk_len h2, by omega⟩
theorem tOk_bd {fs : List Fd} {max : Int} (ht : tOk fs max = true) : fsBd fs := fun x hx => by have := fOk_size ((tOk_parts ht).1 x hx).1; omega
theorem hOk_bd {h : List Fd} (hh : hOk h = true) : fsBd h := fun x hx => by have := fOk_size ((hOk_parts hh).1 x hx); omega
end Go.Proofs.YtbhoafiolalgaaaGreat
