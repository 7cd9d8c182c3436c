import Derived.Test.YtmegdgkpdonikaaDoorFI4
import Derived.Test.YtmegdgkpdonikaaDoorFI5
import Derived.Test.YtmegdgkpdonikaaDoorFI6
namespace Go.Proofs.YtmegdgkpdonikaaDoor
open Go.RowKit
set_option linter.unusedVariables false

/-- What the first frame of bytes is, or why there is none. -/
def FFAns (s : ByteArray) (a : Addr) (e : Ending) : Prop :=
  (∃ f : Fr, frRd s = (f, 4 + (f.b.size : Int), 1) ∧ f.b.size ≤ 200 ∧ e = .returned (.tuple #[f.val, .nilIface])) ∨
  (frRd s = (zFr, 0, 0) ∧ e = .returned (.tuple #[zFr.val, .iface 84 (.pointer (some a))])) ∨
  (frRd s = (zFr, 0, -1) ∧ ∃ why : ByteArray, e = .returned (.tuple #[zFr.val, .iface 43 (.agg #[.string why])]))

theorem frameFirst_any (s : ByteArray) (w : World) (a : Addr) (ha : w.cell? ⟨0, 0, none⟩ = some (.iface 84 (.pointer (some a)))) (hs : s.size ≤ maxLen) :
    Calls Tryd.prog 22 #[.string s] w fun e w' => FFAns s a e ∧ Below w.heap.size w w' := by
  by_cases h4 : s.size < 4
  · refine (first_short s w a ha h4 hs).mono ?_
    rintro e w' ⟨he, hb⟩
    exact ⟨.inr (.inl ⟨frRd_short h4, he⟩), hb⟩
  · obtain ⟨x0, x1, x2, x3, r, e, hr, e0, e1, e2, e3, b0, b1, b2, b3, hex⟩ := four_bytes (s := s) (by omega)
    have hrd := rdFr_four x0 x1 x2 x3 r
    rw [← e] at hrd
    have hrd2 : frRd s = _ := hrd
    by_cases hn : 200 < x0
    · refine (first_big s w a ha x0 x1 x2 x3 e0 e1 e2 e3 b0 b1 b2 b3 (by omega) hn hs).mono ?_
      rintro e w' ⟨he, hb⟩
      exact ⟨.inr (.inr ⟨by rw [hrd2, if_pos (.inl hn)], he⟩), hb⟩
    · by_cases ht : 1 < x2
      · refine (first_last s w a ha x0 x1 x2 x3 e0 e1 e2 e3 b0 b1 b2 b3 (by omega) hn ht hs).mono ?_
        rintro e w' ⟨he, hb⟩
        exact ⟨.inr (.inr ⟨by rw [hrd2, if_pos (.inr ht)], he⟩), hb⟩
      · rw [if_neg (by omega)] at hrd2
        by_cases hl : (s.size : Int) < 4 + x0
        · refine (first_cut s w a ha x0 x1 x2 x3 e0 e1 e2 e3 b0 b1 b2 b3 (by omega) hn ht hl hs).mono ?_
          rintro e w' ⟨he, hb⟩
          exact ⟨.inr (.inl ⟨by rw [hrd2, if_pos (by omega)], he⟩), hb⟩
        · rw [if_neg (by omega)] at hrd2
          have hy := hex x0.toNat
          have hyz : ((strOfNums (r.take x0.toNat)).size : Int) = x0 := by rw [strOfNums_size, List.length_take]; omega
          have hys : (strOfNums (r.take x0.toNat)).size ≤ 200 := by omega
          obtain ⟨y, hyy⟩ : ∃ y, strOfNums (r.take x0.toNat) = y := ⟨_, rfl⟩
          rw [hyy] at hy hys hyz hrd2
          rcases (by omega : x2 = 0 ∨ x2 = 1) with h2 | h2
          · rw [show (x2 == 1) = false by rw [h2]; rfl] at hrd2
            cases hk : frOk ⟨x1, false, x3, y⟩ with
            | true =>
              refine (first_ok0 s w a ha x0 x1 x2 x3 e0 e1 e2 e3 b0 b1 b2 b3 (by omega) hn h2 hl y hy hys hk hs).mono ?_
              rintro e w' ⟨he, hb⟩
              exact ⟨.inl ⟨⟨x1, false, x3, y⟩, by rw [hrd2, if_pos hk, hyz], hys, he⟩, hb⟩
            | false =>
              refine (first_no0 s w a ha x0 x1 x2 x3 e0 e1 e2 e3 b0 b1 b2 b3 (by omega) hn h2 hl y hy hys hk hs).mono ?_
              rintro e w' ⟨he, hb⟩
              exact ⟨.inr (.inr ⟨by rw [hrd2, if_neg (by rw [hk]; decide)], he⟩), hb⟩
          · rw [show (x2 == 1) = true by rw [h2]; rfl] at hrd2
            cases hk : frOk ⟨x1, true, x3, y⟩ with
            | true =>
              refine (first_ok1 s w a ha x0 x1 x2 x3 e0 e1 e2 e3 b0 b1 b2 b3 (by omega) hn h2 hl y hy hys hk hs).mono ?_
              rintro e w' ⟨he, hb⟩
              exact ⟨.inl ⟨⟨x1, true, x3, y⟩, by rw [hrd2, if_pos hk, hyz], hys, he⟩, hb⟩
            | false =>
              refine (first_no1 s w a ha x0 x1 x2 x3 e0 e1 e2 e3 b0 b1 b2 b3 (by omega) hn h2 hl y hy hys hk hs).mono ?_
              rintro e w' ⟨he, hb⟩
              exact ⟨.inr (.inr ⟨by rw [hrd2, if_neg (by rw [hk]; decide)], he⟩), hb⟩
end Go.Proofs.YtmegdgkpdonikaaDoor
