import Derived.Test.YtbhoafiolalgaaaGreatBF
namespace Go.Proofs.YtbhoafiolalgaaaGreat
open Go.RowKit
set_option linter.unusedVariables false

set_option maxRecDepth 100000 in
theorem Fs.fromO {w : World} {a : Option Addr} {n cap : Nat} {fs : List Fd} (h : Fs w a n cap fs) (k : Nat) (l : Int) (hl : l = k) (hk : k ≤ n) : ∃ a2 c2, (∀ W, (Instr.sliceAt 23 (.slice a n cap) (some (.int .i64 l)) none none).run Tryz.prog W = .ok (.slice a2 (n - k) c2) W) ∧ ∀ W, Fs W a n cap fs → Fs W a2 (n - k) c2 (fs.drop k) := by
  rcases h.form with ⟨rfl, rfl, rfl⟩ | ⟨g, o, rfl⟩
  · obtain rfl : k = 0 := by omega
    obtain rfl : l = 0 := by omega
    refine ⟨none, 0, fun W => ?_, fun W hW => ?_⟩
    · have hu : Tryz.prog.underlying 23 = some (.slice (Tryz.prog.elem 23)) := by kernel_rfl
      rw [run_sliceAt_slice _ _ _ _ _ _ hu, run_slice_l W _ _ _ _ hu .i64 0 (by omega) (by omega)]
      have hsz : (sizeOf (Tryz.prog.elem 23)).run Tryz.prog W = .ok 3 W := by
        clear hu h
        go_simp
      rw [hsz]
      rfl
    · rw [List.drop_zero]; exact hW
  · obtain ⟨g2, o2, h1, h2⟩ := h.from k l hl hk
    exact ⟨_, _, h1, h2⟩
set_option maxRecDepth 100000 in
theorem Fs.oneAt {w : World} {g o n cap : Nat} {fs : List Fd} (h : Fs w (some ⟨g, o, none⟩) n cap fs) (k : Nat) (hk : k < n) (W : World) : (Instr.sliceAt 23 (.slice (some ⟨g, o, none⟩) n cap) (some (.int .i64 (k : Int))) (some (.int .i64 ((k : Int) + 1))) none).run Tryz.prog W = .ok (.slice (some ⟨g, o + k * 3, none⟩) 1 (cap - k)) W := by
  have hle := h.le
  have hu : Tryz.prog.underlying 23 = some (.slice (Tryz.prog.elem 23)) := by kernel_rfl
  have hs : (Instr.sliceAt 23 (.slice (some ⟨g, o, none⟩) n cap) (some (.int .i64 (k : Int))) (some (.int .i64 ((k : Int) + 1))) none).run Tryz.prog W = .ok (sliced (some ⟨g, o, none⟩) k (k + 1) cap 3) W := by
    rw [run_sliceAt_slice _ _ _ _ _ _ hu, run_slice_lh W _ _ _ _ hu .i64 .i64 k (k + 1) (by omega) (by omega) (by omega)]
    have e1 : ((k : Int) + 1).toNat = k + 1 := by omega
    rw [e1, Int.toNat_natCast]
    have hsz : (sizeOf (Tryz.prog.elem 23)).run Tryz.prog W = .ok 3 W := by
      clear hu h
      go_simp
    rw [hsz]
    rfl
  rw [hs]; unfold sliced; rw [if_neg (by omega)]
  show Result.ok (Value.slice (some ((⟨g, o, none⟩ : Addr).add (k * 3))) (k + 1 - k) (cap - k)) W = _
  rw [Addr.add_lit, show k + 1 - k = 1 by omega]
theorem Fs.one {w : World} {g o n cap : Nat} {fs : List Fd} (h : Fs w (some ⟨g, o, none⟩) n cap fs) (k : Nat) (hk : k < fs.length) : Fs w (some ⟨g, o + k * 3, none⟩) 1 (cap - k) [fs[k]] := by
  have hl := h.len
  have h1 := (h.drop k (by omega)).take 1 (by omega)
  rwa [List.drop_eq_getElem_cons hk, List.take_succ_cons, List.take_zero] at h1
end Go.Proofs.YtbhoafiolalgaaaGreat
