import Derived.Test.YtbhoafiolalgaaaGreatHR1
namespace Go.Proofs.YtbhoafiolalgaaaGreat
open Go.RowKit
set_option linter.unusedVariables false

def b0L (s : ByteArray) : Int := (bytesL s).headD 0
/-- What the model reads of a field. -/
def oneV (fs : List Fd) (max : Int) (s : ByteArray) : List Fd × Fd × Int × Bool :=
  if 128 ≤ b0L s then (fs, (atV fs (rdV s 7).1).1, (rdV s 7).2.1, (rdV s 7).2.2 && (atV fs (rdV s 7).1).2)
  else if 64 ≤ b0L s then (if (litV fs s 6).2.2 then (fitL max (⟨(litV fs s 6).1.n, (litV fs s 6).1.v, false⟩ :: fs), (litV fs s 6).1, (litV fs s 6).2.1, true) else (fs, (litV fs s 6).1, 0, false))
  else if 16 ≤ b0L s ∧ b0L s ≤ 31 then (fs, ⟨(litV fs s 4).1.n, (litV fs s 4).1.v, true⟩, (litV fs s 4).2.1, (litV fs s 4).2.2)
  else (fs, zFd, 0, false)
theorem litV_is (fs : List Fd) (s : ByteArray) (bits : Int) (b0 : 3 ≤ bits) (b1 : bits ≤ 7) :
    ((litV fs s bits).2.2 = true ∧ ∃ x u n, litL (pw bits) (bytesL s) = some (x, u) ∧ nameOf fs x = some n ∧ litV fs s bits = (⟨n, strOfNums x.v, false⟩, (u : Int), true)) ∨
    ((litV fs s bits).2.2 = false ∧ (litL (pw bits) (bytesL s) = none ∨ ∃ x u, litL (pw bits) (bytesL s) = some (x, u) ∧ nameOf fs x = none)) := by
  have hP := pw_bd bits b0 b1
  have hrd : rdV s bits = rd (pw bits) (bytesL s) := by unfold rdV; rw [if_pos ⟨b0, b1⟩]
  unfold litV litL
  rw [hrd]
  obtain ⟨⟨p, u, ok⟩, hr⟩ : ∃ r, rd (pw bits) (bytesL s) = r := ⟨_, rfl⟩
  rw [hr]
  dsimp only
  cases ok with
  | false =>
    refine .inr ⟨by rw [if_pos rfl], .inl (by rw [if_pos rfl])⟩
  | true =>
    obtain ⟨p0, p1, u0, u1, _⟩ := rd_more (bytesL_bd s) hP.1 hP.2 hr
    simp only [Bool.true_eq_false, if_false]
    by_cases hp : p = 0
    · rw [if_pos hp, if_pos hp]
      match h1 : rdWL ((bytesL s).drop u.toNat) with
      | none =>
        rw [rdWV_none (b := restS s u) (by rw [bytesL_rest]; exact h1), if_pos (.inl rfl)]
        exact .inr ⟨rfl, .inl rfl⟩
      | some (nl, m) =>
        have hx := rdWV_some (b := restS s u) (by rw [bytesL_rest]; exact h1)
        obtain ⟨n1, n2, n3, n4, _⟩ := rdWL_more (byteL_drop (bytesL_bd s) _) h1
        rw [hx, Option.bind_some]
        dsimp only
        have hsz : (strOfNums nl).size = nl.length := strOfNums_size nl
        by_cases hn : nl = []
        · rw [if_pos (.inr (by rw [hsz, hn]; rfl)), if_pos hn]
          exact .inr ⟨rfl, .inl rfl⟩
        · have hl : nl.length ≠ 0 := fun e => hn (List.eq_nil_of_length_eq_zero e)
          rw [if_neg (by rintro (c | c); cases c; omega), if_neg hn]
          match h2 : rdWL ((bytesL s).drop (u + m).toNat) with
          | none =>
            rw [rdWV_none (b := restS s (u + m)) (by rw [bytesL_rest]; exact h2)]
            exact .inr ⟨rfl, .inl rfl⟩
          | some (vl, k) =>
            obtain ⟨v1, v2, v3, v4, _⟩ := rdWL_more (byteL_drop (bytesL_bd s) _) h2
            rw [rdWV_some (b := restS s (u + m)) (by rw [bytesL_rest]; exact h2), Option.map_some]
            refine .inl ⟨rfl, _, _, strOfNums nl, rfl, ?_, ?_⟩
            · unfold nameOf; rw [if_pos rfl]
            · dsimp only; rw [Int.toNat_of_nonneg (by omega)]
    · rw [if_neg hp, if_neg hp]
      match h2 : rdWL ((bytesL s).drop u.toNat) with
      | none =>
        rw [rdWV_none (b := restS s u) (by rw [bytesL_rest]; exact h2)]
        refine .inr ⟨?_, .inl rfl⟩
        split <;> rfl
      | some (vl, k) =>
        obtain ⟨v1, v2, v3, v4, _⟩ := rdWL_more (byteL_drop (bytesL_bd s) _) h2
        rw [rdWV_some (b := restS s u) (by rw [bytesL_rest]; exact h2), Option.map_some]
        cases hb : (atV fs p).2 with
        | false =>
          refine .inr ⟨by rw [if_pos rfl], .inr ⟨_, _, rfl, ?_⟩⟩
          unfold nameOf; dsimp only; rw [if_neg hp, hb]; rfl
        | true =>
          rw [if_neg (by decide)]
          refine .inl ⟨rfl, _, _, (atV fs p).1.n, rfl, ?_, ?_⟩
          · unfold nameOf; dsimp only; rw [if_neg hp, hb]; rfl
          · dsimp only; rw [Int.toNat_of_nonneg (by omega)]
/-- What the model reads of a field is the form's step. -/
theorem oneV_is (fs : List Fd) (max : Int) (s : ByteArray) :
    ((oneV fs max s).2.2.2 = true ∧ ∃ m u, formL (bytesL s) = some (m, u) ∧ stepL fs max m = some ((oneV fs max s).1, (oneV fs max s).2.1) ∧ (oneV fs max s).2.2.1 = (u : Int)) ∨
    ((oneV fs max s).2.2.2 = false ∧ (formL (bytesL s) = none ∨ ∃ m u, formL (bytesL s) = some (m, u) ∧ stepL fs max m = none)) := by
  have hb0 : b0L s = (bytesL s).headD 0 := rfl
  unfold oneV formL
  rw [hb0]
  by_cases h1 : 128 ≤ (bytesL s).headD 0
  · rw [if_pos h1, if_pos h1]
    have hrd : rdV s 7 = rd 128 (bytesL s) := by unfold rdV; rw [if_pos ⟨by decide, by decide⟩, pw7]
    rw [hrd]
    obtain ⟨⟨p, u, ok⟩, hr⟩ : ∃ r, rd 128 (bytesL s) = r := ⟨_, rfl⟩
    rw [hr]
    dsimp only
    cases ok with
    | false => exact .inr ⟨rfl, .inl rfl⟩
    | true =>
      obtain ⟨p0, p1, u0, u1, _⟩ := rd_more (bytesL_bd s) (by decide) (by decide) hr
      cases hb : (atV fs p).2 with
      | false =>
        refine .inr ⟨rfl, .inr ⟨_, _, by rw [if_pos rfl], ?_⟩⟩
        unfold stepL; dsimp only; rw [if_pos rfl, hb]; rfl
      | true =>
        refine .inl ⟨rfl, _, _, by rw [if_pos rfl], ?_, ?_⟩
        · unfold stepL; dsimp only; rw [if_pos rfl, hb]; rfl
        · rw [Int.toNat_of_nonneg (by omega)]
  · rw [if_neg h1, if_neg h1]
    by_cases h2 : 64 ≤ (bytesL s).headD 0
    · rw [if_pos h2, if_pos h2]
      rcases litV_is fs s 6 (by decide) (by decide) with ⟨e, x, u, n, a1, a2, a3⟩ | ⟨e, a⟩
      · rw [pw6] at a1
        rw [a3, a1]
        dsimp only
        rw [if_pos rfl]
        refine .inl ⟨rfl, _, _, rfl, ?_, rfl⟩
        unfold stepL; dsimp only; rw [if_neg (by decide), if_pos rfl, a2]; rfl
      · rw [pw6] at a
        rw [e, if_neg (by decide)]
        refine .inr ⟨rfl, ?_⟩
        rcases a with a | ⟨x, u, a1, a2⟩
        · rw [a]; exact .inl rfl
        · rw [a1]
          refine .inr ⟨_, _, rfl, ?_⟩
          unfold stepL; dsimp only; rw [if_neg (by decide), if_pos rfl, a2]; rfl
    · rw [if_neg h2, if_neg h2]
      by_cases h3 : 16 ≤ (bytesL s).headD 0 ∧ (bytesL s).headD 0 ≤ 31
      · rw [if_pos h3, if_pos h3]
        rcases litV_is fs s 4 (by decide) (by decide) with ⟨e, x, u, n, a1, a2, a3⟩ | ⟨e, a⟩
        · rw [pw4] at a1
          rw [a3, a1]
          dsimp only
          refine .inl ⟨rfl, _, _, rfl, ?_, rfl⟩
          unfold stepL; dsimp only; rw [if_neg (by decide), if_neg (by decide), a2]; rfl
        · rw [pw4] at a
          refine .inr ⟨e, ?_⟩
          rcases a with a | ⟨x, u, a1, a2⟩
          · rw [a]; exact .inl rfl
          · rw [a1]
            refine .inr ⟨_, _, rfl, ?_⟩
            unfold stepL; dsimp only; rw [if_neg (by decide), if_neg (by decide), a2]; rfl
      · rw [if_neg h3, if_neg h3]
        exact .inr ⟨rfl, .inl rfl⟩
theorem results_cc2 {fn : Func} {p q r t : Tmp} {ty ty2 : TypeId} (h : fn.results = #[.cell p ty, .cell q ty2, .tmp r, .tmp t]) (tmps : Array Value) (w : World) (g g2 : Nat) (cs cs2 : Array Value)
    (hp : tmps.getD p undef = .pointer (some ⟨g, 0, none⟩)) (hl : (loadVar ty ⟨g, 0, none⟩).run Tryz.prog w = .ok (.agg cs) w) (hq : tmps.getD q undef = .pointer (some ⟨g2, 0, none⟩)) (hl2 : (loadVar ty2 ⟨g2, 0, none⟩).run Tryz.prog w = .ok (.agg cs2) w) :
    (results fn tmps).run Tryz.prog w = .ok (.tuple #[.agg cs, .agg cs2, tmps.getD r undef, tmps.getD t undef]) w := by
  have hp' : tmps[p]?.getD undef = .pointer (some ⟨g, 0, none⟩) := by simpa using hp
  have hq' : tmps[q]?.getD undef = .pointer (some ⟨g2, 0, none⟩) := by simpa using hq
  simp [results, h, hp', hq', asAddr, hl, hl2]
theorem Fs.setc {W : World} {a : Option Addr} {n cap B : Nat} {fs : List Fd} (h : Fs W a n cap fs) (o : Nat) (v : Value) (hne : ∀ g x, a = some ⟨g, x, none⟩ → 0 < n → g ≠ B) : Fs (W.setCell ⟨B, o, none⟩ v) a n cap fs := by
  refine ⟨h.len, h.le, h.cmax, ?_, h.some', h.form⟩
  intro g x e j u hu
  have hn : 0 < n := by
    obtain ⟨hj, _⟩ := List.getElem?_eq_some_iff.1 hu
    rw [cellsF_length, h.len] at hj
    omega
  rw [cell_set _ _ _ _ (hne g x e hn)]
  exact h.cells g x e j u hu
/-- The table lies where it lay, or in new memory. -/
def Apart (w : World) (a : Option Addr) (n : Nat) (a' : Option Addr) (n' : Nat) : Prop := (a' = a ∧ n' = n) ∨ ∀ g o, a' = some ⟨g, o, none⟩ → w.heap.size ≤ g
theorem own_ge {w : World} {base n cap : Nat} {a : Option Addr} {e : TypeId} {size : Nat} {xs : List Value} (h : w.ownsRow base e size (.slice a n cap) n xs) : ∀ g o, a = some ⟨g, o, none⟩ → base ≤ g := by
  rintro g o rfl
  exact (h.lt g rfl).1
theorem Fs.lt2 {w : World} {a : Option Addr} {n cap : Nat} {fs : List Fd} (h : Fs w a n cap fs) : ∀ g x, a = some ⟨g, x, none⟩ → 0 < n → g < w.heap.size := by
  rintro g x rfl hn
  exact h.lt hn
/-- The two results of reading a field: a table at B, a field behind it. -/
theorem two_rows {W : World} {B : Nat} {p q x y z : Value} {t1 t2 : TypeId} (h1 : W.heap[B]? = some (.cells #[p, q] t1 (0, 0))) (h2 : W.heap[B + 1]? = some (.cells #[x, y, z] t2 (0, 0))) (p' q' x' y' z' : Value) :
    (((((W.setCell ⟨B, 0, none⟩ p').setCell ⟨B, 1, none⟩ q').setCell ⟨B + 1, 0, none⟩ x').setCell ⟨B + 1, 1, none⟩ y').setCell ⟨B + 1, 2, none⟩ z').heap[B]? = some (.cells #[p', q'] t1 (0, 0)) ∧
    (((((W.setCell ⟨B, 0, none⟩ p').setCell ⟨B, 1, none⟩ q').setCell ⟨B + 1, 0, none⟩ x').setCell ⟨B + 1, 1, none⟩ y').setCell ⟨B + 1, 2, none⟩ z').heap[B + 1]? = some (.cells #[x', y', z'] t2 (0, 0)) := by
  have hn : B ≠ B + 1 := by omega
  exact ⟨setc_other 2 z' (setc_other 1 y' (setc_other 0 x' (set2_heap p' q' h1) hn) hn) hn, set3_heap x' y' z' (setc_other 1 q' (setc_other 0 p' h2 hn.symm) hn.symm)⟩
theorem bel5 {n : Nat} {w W : World} {B : Nat} (h : Below n w W) (hB : n ≤ B) (p q x y z : Value) : Below n w (((((W.setCell ⟨B, 0, none⟩ p).setCell ⟨B, 1, none⟩ q).setCell ⟨B + 1, 0, none⟩ x).setCell ⟨B + 1, 1, none⟩ y).setCell ⟨B + 1, 2, none⟩ z) :=
  bel3 ((h.setCell (p := ⟨B, 0, none⟩) hB p).setCell (p := ⟨B, 1, none⟩) hB q) (by omega) x y z
theorem Fs.set5 {W : World} {a : Option Addr} {n cap B : Nat} {fs : List Fd} (h : Fs W a n cap fs) (hne : ∀ g x, a = some ⟨g, x, none⟩ → 0 < n → g ≠ B ∧ g ≠ B + 1) (p q x y z : Value) : Fs (((((W.setCell ⟨B, 0, none⟩ p).setCell ⟨B, 1, none⟩ q).setCell ⟨B + 1, 0, none⟩ x).setCell ⟨B + 1, 1, none⟩ y).setCell ⟨B + 1, 2, none⟩ z) a n cap fs := by
  have h1 := fun g x e hn => (hne g x e hn).1
  have h2 := fun g x e hn => (hne g x e hn).2
  exact ((((h.setc 0 p h1).setc 1 q h1).setc 0 x h2).setc 1 y h2).setc 2 z h2
theorem drew_heap (W : World) : W.drew.heap = W.heap := rfl
theorem Fs.set5d {W : World} {a : Option Addr} {n cap B : Nat} {fs : List Fd} (h : Fs W a n cap fs) (hne : ∀ g x, a = some ⟨g, x, none⟩ → 0 < n → g ≠ B ∧ g ≠ B + 1) (p q x y z : Value) : Fs (((((W.setCell ⟨B, 0, none⟩ p).setCell ⟨B, 1, none⟩ q).setCell ⟨B + 1, 0, none⟩ x).setCell ⟨B + 1, 1, none⟩ y).setCell ⟨B + 1, 2, none⟩ z).drew a n cap fs :=
  (h.set5 hne p q x y z).below ((Below.refl _ _).drew)
theorem bel5d {n : Nat} {w W : World} {B : Nat} (h : Below n w W) (hB : n ≤ B) (p q x y z : Value) : Below n w (((((W.setCell ⟨B, 0, none⟩ p).setCell ⟨B, 1, none⟩ q).setCell ⟨B + 1, 0, none⟩ x).setCell ⟨B + 1, 1, none⟩ y).setCell ⟨B + 1, 2, none⟩ z).drew := (bel5 h hB p q x y z).drew
theorem two_rowsd {W : World} {B : Nat} {p q x y z : Value} {t1 t2 : TypeId} (h1 : W.heap[B]? = some (.cells #[p, q] t1 (0, 0))) (h2 : W.heap[B + 1]? = some (.cells #[x, y, z] t2 (0, 0))) (p' q' x' y' z' : Value) :
    (((((W.setCell ⟨B, 0, none⟩ p').setCell ⟨B, 1, none⟩ q').setCell ⟨B + 1, 0, none⟩ x').setCell ⟨B + 1, 1, none⟩ y').setCell ⟨B + 1, 2, none⟩ z').drew.heap[B]? = some (.cells #[p', q'] t1 (0, 0)) ∧
    (((((W.setCell ⟨B, 0, none⟩ p').setCell ⟨B, 1, none⟩ q').setCell ⟨B + 1, 0, none⟩ x').setCell ⟨B + 1, 1, none⟩ y').setCell ⟨B + 1, 2, none⟩ z').drew.heap[B + 1]? = some (.cells #[x', y', z'] t2 (0, 0)) := by
  rw [drew_heap]
  exact two_rows h1 h2 p' q' x' y' z'
set_option maxRecDepth 100000 in
set_option maxHeartbeats 4000000 in
theorem l11One_any (fs : List Fd) (a : Option Addr) (n cap : Nat) (max : Int) (s : ByteArray) (w : World) (hf : Fs w a n cap fs) (hbd : fsBd fs) (hnm : ∀ f ∈ fixedL ++ fs, f.n.size ≤ 16) (hn : n ≤ 1000) (m0 : 0 ≤ max) (m1 : max ≤ 64) (hs : s.size ≤ 1000) (h0 : 0 < s.size) :
    Calls Tryz.prog 38 #[.agg #[.slice a n cap, .int .i64 max], .string s] w fun e w' => ∃ a' n' c', e = .returned (.tuple #[.agg #[.slice a' n' c', .int .i64 max], (oneV fs max s).2.1.val, .int .i64 (oneV fs max s).2.2.1, .bool (oneV fs max s).2.2.2]) ∧ Fs w' a' n' c' (oneV fs max s).1 ∧ Apart w a n a' n' ∧ Below w.heap.size w w' := by
  have hlit := fun (w' : World) (bits : Int) (b0 : 3 ≤ bits) (b1 : bits ≤ 7) (h : Fs w' a n cap fs) => l11Lit_any fs a n cap max s bits w' h hn hs b0 b1
  have hlt := hf.lt2
  obtain ⟨x0, hx0⟩ : ∃ x, b0L s = x := ⟨_, rfl⟩
  obtain ⟨hk, q0, x00, x01⟩ := of_cons (s := s) (k := 0) (x := x0) rfl (by
    unfold b0L at hx0
    have hl : 0 < (bytesL s).length := by rw [bytesL_length]; exact h0
    match hb : bytesL s with
    | [] => rw [hb] at hl; simp at hl
    | c :: t => rw [hb] at hx0; simp at hx0; rw [hx0]; rfl)
  have hb2 : Below w.heap.size w (((w.alloc (.cells #[.slice a n cap, .int .i64 max] 25)).alloc (.cells #[.slice none 0 0, .int .i64 0] 25)).alloc (.cells #[.string ⟨#[]⟩, .string ⟨#[]⟩, .bool false] 52)) := (((Below.refl _ _).alloc (Nat.le_refl _) _).alloc (by simp) _).alloc (by simp; omega) _
  have hT3 : Hid ((((w.alloc (.cells #[.slice a n cap, .int .i64 max] 25)).alloc (.cells #[.slice none 0 0, .int .i64 0] 25)).alloc (.cells #[.string ⟨#[]⟩, .string ⟨#[]⟩, .bool false] 52)).heap[w.heap.size]? = some (.cells #[.slice a n cap, .int .i64 max] 25 (0, 0))) := blkT (blkT (heap_alloc_last w _) _) _
  have hR3 : Hid ((((w.alloc (.cells #[.slice a n cap, .int .i64 max] 25)).alloc (.cells #[.slice none 0 0, .int .i64 0] 25)).alloc (.cells #[.string ⟨#[]⟩, .string ⟨#[]⟩, .bool false] 52)).heap[w.heap.size + 1]? = some (.cells #[.slice none 0 0, .int .i64 0] 25 (0, 0))) := by
    have h := heap_alloc_last (w.alloc (.cells #[.slice a n cap, .int .i64 max] 25)) (.cells #[.slice none 0 0, .int .i64 0] 25)
    rw [World.size_alloc] at h
    exact blkT h _
  have hF3 : Hid ((((w.alloc (.cells #[.slice a n cap, .int .i64 max] 25)).alloc (.cells #[.slice none 0 0, .int .i64 0] 25)).alloc (.cells #[.string ⟨#[]⟩, .string ⟨#[]⟩, .bool false] 52)).heap[w.heap.size + 1 + 1]? = some (.cells #[.string ⟨#[]⟩, .string ⟨#[]⟩, .bool false] 52 (0, 0))) := by
    have h := heap_alloc_last ((w.alloc (.cells #[.slice a n cap, .int .i64 max] 25)).alloc (.cells #[.slice none 0 0, .int .i64 0] 25)) (.cells #[.string ⟨#[]⟩, .string ⟨#[]⟩, .bool false] 52)
    rw [World.size_alloc, World.size_alloc] at h
    exact h
  have hz3 : (((w.alloc (.cells #[.slice a n cap, .int .i64 max] 25)).alloc (.cells #[.slice none 0 0, .int .i64 0] 25)).alloc (.cells #[.string ⟨#[]⟩, .string ⟨#[]⟩, .bool false] 52)).heap.size = w.heap.size + 1 + 1 + 1 := by simp
  have HF : Hid (Fs w a n cap fs) := hf
  have hlen := hf.len
  have hmx : Tryz.prog.follows .mixedOrders = true := by kernel_rfl
  unfold oneV
  rw [hx0]
  clear hf hx0
  by_cases h1 : 128 ≤ x0
  · rw [if_pos h1]
    have hrd := fun w => l1Read_any s 7 w (by unfold maxLen; omega) (by decide) (by decide)
    unfold tupV at hrd
    obtain ⟨⟨p, u, ok⟩, hr⟩ : ∃ r, rdV s 7 = r := ⟨_, rfl⟩
    rw [hr] at hrd ⊢
    have hat := fun (w' : World) (h : Fs w' a n cap fs) => l3At_any fs a n cap max p w' h (by omega)
    dsimp only at hrd hat ⊢
    obtain ⟨⟨x, okx⟩, hx⟩ : ∃ r, atV fs p = r := ⟨_, rfl⟩
    rw [hx] at hat ⊢
    dsimp only at hat ⊢
    unfold Fd.val at hat ⊢
    clear hr hx hlit
    cases ok with
    | false =>
      go_enter Tryz.func38, Tryz.ntmps38
      go_wp2_with (first | (go_at_call 57; refine (hrd _).mono ?_; clear hrd; rintro e w' ⟨rfl, rfl⟩) | (go_at_call 58; refine (hat _ (HF.out.below hb2)).mono ?_; clear hat; rintro e w1 ⟨rfl, hb1⟩))
      have hT1 := blkT (blkH hb1 hT3.out) (.cells #[.string x.n, .string x.v, .bool x.q] 52)
      have hR1 := blkT (blkH hb1 hR3.out) (.cells #[.string x.n, .string x.v, .bool x.q] 52)
      have hF1 := blkT (blkH hb1 hF3.out) (.cells #[.string x.n, .string x.v, .bool x.q] 52)
      have hL1 := heap_alloc_last w1 (.cells #[.string x.n, .string x.v, .bool x.q] 52)
      have hBw := bt' hb2 hb1
      have hB1 := hBw.alloc hBw.size (.cells #[.string x.n, .string x.v, .bool x.q] 52)
      have hFs := HF.out.below hB1
      have hzz : w.heap.size + 1 + 1 + 1 ≤ w1.heap.size := by have := hb1.size; rw [hz3] at this; exact this
      have hzU : (w1.alloc (.cells #[.string x.n, .string x.v, .bool x.q] 52)).heap.size = w1.heap.size + 1 := by simp
      clear hb1 hBw
      refine wabs (fun U => U.heap[w.heap.size]? = some (.cells #[.slice a n cap, .int .i64 max] 25 (0, 0)) ∧ U.heap[w.heap.size + 1]? = some (.cells #[.slice none 0 0, .int .i64 0] 25 (0, 0)) ∧ U.heap[w.heap.size + 1 + 1]? = some (.cells #[.string ⟨#[]⟩, .string ⟨#[]⟩, .bool false] 52 (0, 0)) ∧ U.heap[w1.heap.size]? = some (.cells #[.string x.n, .string x.v, .bool x.q] 52 (0, 0)) ∧ Fs U a n cap fs ∧ Below w.heap.size w U ∧ U.heap.size = w1.heap.size + 1) ⟨hT1, hR1, hF1, hL1, hFs, hB1, hzU⟩ ?_
      clear hT1 hR1 hF1 hL1 hFs hB1 hzU
      rintro U ⟨hT1, hR1, hF1, hL1, hFs, hB1, hzU⟩
      obtain ⟨t0, t1⟩ := row2c (W := U) hT1
      obtain ⟨l0, l1, l2⟩ := row3c (W := U) hL1
      obtain ⟨r0, r1⟩ := row2c (W := U) hR1
      obtain ⟨d0, d1, d2⟩ := row3c (W := U) hF1
      have f0 := frz (W := U) 0 hR1
      have f1 := frz (W := U) 1 hR1
      have e0 := frz (W := U) 0 hF1
      have e1 := frz (W := U) 1 hF1
      have e2 := frz (W := U) 2 hF1
      have k2 := frz (W := U) 2 hL1
      go_region
      go_wp2
      refine bodyPost_ret (results_cc2 rfl _ _ (w.heap.size + 1) (w.heap.size + 1 + 1) #[.slice a n cap, .int .i64 max] #[.string x.n, .string x.v, .bool x.q] rfl (load_tab (two_rowsd hR1 hF1 _ _ _ _ _).1) rfl (load_fld (two_rowsd hR1 hF1 _ _ _ _ _).2)) rfl ⟨a, n, cap, rfl, hFs.set5d (B := w.heap.size + 1) (fun g x e hn => by have := hlt g x e hn; omega) _ _ _ _ _, .inl ⟨rfl, rfl⟩, bel5d (B := w.heap.size + 1) hB1 (by omega) _ _ _ _ _⟩
    | true =>
      go_enter Tryz.func38, Tryz.ntmps38
      go_wp2_with (first | (go_at_call 57; refine (hrd _).mono ?_; clear hrd; rintro e w' ⟨rfl, rfl⟩) | (go_at_call 58; refine (hat _ (HF.out.below hb2)).mono ?_; clear hat; rintro e w1 ⟨rfl, hb1⟩))
      have hT1 := blkT (blkH hb1 hT3.out) (.cells #[.string x.n, .string x.v, .bool x.q] 52)
      have hR1 := blkT (blkH hb1 hR3.out) (.cells #[.string x.n, .string x.v, .bool x.q] 52)
      have hF1 := blkT (blkH hb1 hF3.out) (.cells #[.string x.n, .string x.v, .bool x.q] 52)
      have hL1 := heap_alloc_last w1 (.cells #[.string x.n, .string x.v, .bool x.q] 52)
      have hBw := bt' hb2 hb1
      have hB1 := hBw.alloc hBw.size (.cells #[.string x.n, .string x.v, .bool x.q] 52)
      have hFs := HF.out.below hB1
      have hzz : w.heap.size + 1 + 1 + 1 ≤ w1.heap.size := by have := hb1.size; rw [hz3] at this; exact this
      have hzU : (w1.alloc (.cells #[.string x.n, .string x.v, .bool x.q] 52)).heap.size = w1.heap.size + 1 := by simp
      clear hb1 hBw
      refine wabs (fun U => U.heap[w.heap.size]? = some (.cells #[.slice a n cap, .int .i64 max] 25 (0, 0)) ∧ U.heap[w.heap.size + 1]? = some (.cells #[.slice none 0 0, .int .i64 0] 25 (0, 0)) ∧ U.heap[w.heap.size + 1 + 1]? = some (.cells #[.string ⟨#[]⟩, .string ⟨#[]⟩, .bool false] 52 (0, 0)) ∧ U.heap[w1.heap.size]? = some (.cells #[.string x.n, .string x.v, .bool x.q] 52 (0, 0)) ∧ Fs U a n cap fs ∧ Below w.heap.size w U ∧ U.heap.size = w1.heap.size + 1) ⟨hT1, hR1, hF1, hL1, hFs, hB1, hzU⟩ ?_
      clear hT1 hR1 hF1 hL1 hFs hB1 hzU
      rintro U ⟨hT1, hR1, hF1, hL1, hFs, hB1, hzU⟩
      obtain ⟨t0, t1⟩ := row2c (W := U) hT1
      obtain ⟨l0, l1, l2⟩ := row3c (W := U) hL1
      obtain ⟨r0, r1⟩ := row2c (W := U) hR1
      obtain ⟨d0, d1, d2⟩ := row3c (W := U) hF1
      have f0 := frz (W := U) 0 hR1
      have f1 := frz (W := U) 1 hR1
      have e0 := frz (W := U) 0 hF1
      have e1 := frz (W := U) 1 hF1
      have e2 := frz (W := U) 2 hF1
      have k2 := frz (W := U) 2 hL1
      go_region
      go_wp2
      refine bodyPost_ret (results_cc2 rfl _ _ (w.heap.size + 1) (w.heap.size + 1 + 1) #[.slice a n cap, .int .i64 max] #[.string x.n, .string x.v, .bool x.q] rfl (load_tab (two_rowsd hR1 hF1 _ _ _ _ _).1) rfl (load_fld (two_rowsd hR1 hF1 _ _ _ _ _).2)) rfl ⟨a, n, cap, rfl, hFs.set5d (B := w.heap.size + 1) (fun g x e hn => by have := hlt g x e hn; omega) _ _ _ _ _, .inl ⟨rfl, rfl⟩, bel5d (B := w.heap.size + 1) hB1 (by omega) _ _ _ _ _⟩
  · rw [if_neg h1]
    by_cases h2 : 64 ≤ x0
    · rw [if_pos h2]
      have hlt6 := fun (w' : World) (h : Fs w' a n cap fs) => hlit w' 6 (by decide) (by decide) h
      obtain ⟨⟨x, u, ok⟩, hx⟩ : ∃ r, litV fs s 6 = r := ⟨_, rfl⟩
      have hxs : ok = true → x.n.size ≤ 16 ∧ x.v.size ≤ 16 := by
        rintro rfl
        have h6 := litV_is fs s 6 (by decide) (by decide)
        rw [hx] at h6
        rcases h6 with ⟨_, y, q, nn, a1, a2, a3⟩ | ⟨e, _⟩
        · obtain ⟨_, _, c3, c4, c5, c6, _⟩ := litL_more (bytesL_bd s) (by rw [pw6]; decide) (by rw [pw6]; decide) a1
          injection a3 with a3 _
          subst a3
          have hv : (strOfNums y.v).size ≤ 16 := by rw [strOfNums_size]; exact c6
          refine ⟨?_, hv⟩
          unfold nameOf at a2
          split at a2
          · rename_i hp
            injection a2 with a2
            rw [← a2]
            show (strOfNums y.n).size ≤ 16
            rw [strOfNums_size]
            exact (c3 hp).2.1
          · split at a2
            · rename_i hb
              injection a2 with a2
              rw [← a2]
              show (atV fs y.p).1.n.size ≤ 16
              exact hnm _ (atV_some hb)
            · cases a2
        · cases e
      rw [hx] at hlt6 ⊢
      dsimp only at hlt6 ⊢
      unfold Fd.val at hlt6
      clear hx hlit
      cases ok with
      | false =>
        rw [if_neg (by decide)]
        unfold Fd.val
        dsimp only
        go_enter Tryz.func38, Tryz.ntmps38
        go_wp2_with (go_at_call 59; refine (hlt6 _ (HF.out.below hb2)).mono ?_; clear hlt6; rintro e w1 ⟨rfl, hb1⟩)
        have hT1 := blkT (blkH hb1 hT3.out) (.cells #[.string x.n, .string x.v, .bool x.q] 52)
        have hR1 := blkT (blkH hb1 hR3.out) (.cells #[.string x.n, .string x.v, .bool x.q] 52)
        have hF1 := blkT (blkH hb1 hF3.out) (.cells #[.string x.n, .string x.v, .bool x.q] 52)
        have hL1 := heap_alloc_last w1 (.cells #[.string x.n, .string x.v, .bool x.q] 52)
        have hBw := bt' hb2 hb1
        have hB1 := hBw.alloc hBw.size (.cells #[.string x.n, .string x.v, .bool x.q] 52)
        have hFs := HF.out.below hB1
        have hzz : w.heap.size + 1 + 1 + 1 ≤ w1.heap.size := by have := hb1.size; rw [hz3] at this; exact this
        have hzU : (w1.alloc (.cells #[.string x.n, .string x.v, .bool x.q] 52)).heap.size = w1.heap.size + 1 := by simp
        clear hb1 hBw
        refine wabs (fun U => U.heap[w.heap.size]? = some (.cells #[.slice a n cap, .int .i64 max] 25 (0, 0)) ∧ U.heap[w.heap.size + 1]? = some (.cells #[.slice none 0 0, .int .i64 0] 25 (0, 0)) ∧ U.heap[w.heap.size + 1 + 1]? = some (.cells #[.string ⟨#[]⟩, .string ⟨#[]⟩, .bool false] 52 (0, 0)) ∧ U.heap[w1.heap.size]? = some (.cells #[.string x.n, .string x.v, .bool x.q] 52 (0, 0)) ∧ Fs U a n cap fs ∧ Below w.heap.size w U ∧ U.heap.size = w1.heap.size + 1) ⟨hT1, hR1, hF1, hL1, hFs, hB1, hzU⟩ ?_
        clear hT1 hR1 hF1 hL1 hFs hB1 hzU
        rintro U ⟨hT1, hR1, hF1, hL1, hFs, hB1, hzU⟩
        obtain ⟨t0, t1⟩ := row2c (W := U) hT1
        obtain ⟨l0, l1, l2⟩ := row3c (W := U) hL1
        obtain ⟨r0, r1⟩ := row2c (W := U) hR1
        obtain ⟨d0, d1, d2⟩ := row3c (W := U) hF1
        have f0 := frz (W := U) 0 hR1
        have f1 := frz (W := U) 1 hR1
        have e0 := frz (W := U) 0 hF1
        have e1 := frz (W := U) 1 hF1
        have e2 := frz (W := U) 2 hF1
        have k2 := frz (W := U) 2 hL1
        go_region
        go_wp2
        refine bodyPost_ret (results_cc2 rfl _ _ (w.heap.size + 1) (w.heap.size + 1 + 1) #[.slice a n cap, .int .i64 max] #[.string x.n, .string x.v, .bool x.q] rfl (load_tab (two_rowsd hR1 hF1 _ _ _ _ _).1) rfl (load_fld (two_rowsd hR1 hF1 _ _ _ _ _).2)) rfl ⟨a, n, cap, rfl, hFs.set5d (B := w.heap.size + 1) (fun g x e hn => by have := hlt g x e hn; omega) _ _ _ _ _, .inl ⟨rfl, rfl⟩, bel5d (B := w.heap.size + 1) hB1 (by omega) _ _ _ _ _⟩
      | true =>
        rw [if_pos rfl]
        unfold Fd.val
        dsimp only
        have hxs := hxs rfl
        have hadd := fun (w' : World) (h : Fs w' a n cap fs) => l3Add_any fs x a n cap max w' h hbd ⟨by omega, by omega⟩ (by omega) m0 (by omega)
        unfold Fd.val at hadd
        obtain ⟨gs, hgs⟩ : ∃ g, fitL max (⟨x.n, x.v, false⟩ :: fs) = g := ⟨_, rfl⟩
        rw [hgs] at hadd ⊢
        clear hgs
        go_enter Tryz.func38, Tryz.ntmps38
        go_wp2_with (go_at_call 59; refine (hlt6 _ (HF.out.below hb2)).mono ?_; clear hlt6; rintro e w1 ⟨rfl, hb1⟩)
        have hT1 := blkT (blkH hb1 hT3.out) (.cells #[.string x.n, .string x.v, .bool x.q] 52)
        have hR1 := blkT (blkH hb1 hR3.out) (.cells #[.string x.n, .string x.v, .bool x.q] 52)
        have hF1 := blkT (blkH hb1 hF3.out) (.cells #[.string x.n, .string x.v, .bool x.q] 52)
        have hL1 := heap_alloc_last w1 (.cells #[.string x.n, .string x.v, .bool x.q] 52)
        have hBw := bt' hb2 hb1
        have hB1 := hBw.alloc hBw.size (.cells #[.string x.n, .string x.v, .bool x.q] 52)
        have hFs := HF.out.below hB1
        have hzz : w.heap.size + 1 + 1 + 1 ≤ w1.heap.size := by have := hb1.size; rw [hz3] at this; exact this
        have hzU : (w1.alloc (.cells #[.string x.n, .string x.v, .bool x.q] 52)).heap.size = w1.heap.size + 1 := by simp
        clear hb1 hBw
        refine wabs (fun U => U.heap[w.heap.size]? = some (.cells #[.slice a n cap, .int .i64 max] 25 (0, 0)) ∧ U.heap[w.heap.size + 1]? = some (.cells #[.slice none 0 0, .int .i64 0] 25 (0, 0)) ∧ U.heap[w.heap.size + 1 + 1]? = some (.cells #[.string ⟨#[]⟩, .string ⟨#[]⟩, .bool false] 52 (0, 0)) ∧ U.heap[w1.heap.size]? = some (.cells #[.string x.n, .string x.v, .bool x.q] 52 (0, 0)) ∧ Fs U a n cap fs ∧ Below w.heap.size w U ∧ U.heap.size = w1.heap.size + 1) ⟨hT1, hR1, hF1, hL1, hFs, hB1, hzU⟩ ?_
        clear hT1 hR1 hF1 hL1 hFs hB1 hzU
        rintro U ⟨hT1, hR1, hF1, hL1, hFs, hB1, hzU⟩
        obtain ⟨t0, t1⟩ := row2c (W := U) hT1
        obtain ⟨l0, l1, l2⟩ := row3c (W := U) hL1
        obtain ⟨r0, r1⟩ := row2c (W := U) hR1
        obtain ⟨d0, d1, d2⟩ := row3c (W := U) hF1
        have f0 := frz (W := U) 0 hR1
        have f1 := frz (W := U) 1 hR1
        have e0 := frz (W := U) 0 hF1
        have e1 := frz (W := U) 1 hF1
        have e2 := frz (W := U) 2 hF1
        have k2 := frz (W := U) 2 hL1
        have hSU : U.drew.cell? ⟨w.heap.size, 0, none⟩ = some (.slice a n cap) ∧ U.drew.cell? ⟨w.heap.size, 1, none⟩ = some (.int .i64 max) ∧ U.drew.cell? ⟨w1.heap.size, 0, none⟩ = some (.string x.n) ∧ U.drew.cell? ⟨w1.heap.size, 1, none⟩ = some (.string x.v) ∧ U.drew.cell? ⟨w1.heap.size, 2, none⟩ = some (.bool x.q) := ⟨t0, t1, l0, l1, l2⟩
        have hFsd : Fs U.drew a n cap fs := hFs.below ((Below.refl _ _).drew)
        have hTd : U.drew.heap[w.heap.size]? = some (.cells #[.slice a n cap, .int .i64 max] 25 (0, 0)) := hT1
        have hLd : U.drew.heap[w1.heap.size]? = some (.cells #[.string x.n, .string x.v, .bool x.q] 52 (0, 0)) := hL1
        have hRd : U.drew.heap[w.heap.size + 1]? = some (.cells #[.slice none 0 0, .int .i64 0] 25 (0, 0)) := hR1
        have hDd : U.drew.heap[w.heap.size + 1 + 1]? = some (.cells #[.string ⟨#[]⟩, .string ⟨#[]⟩, .bool false] 52 (0, 0)) := hF1
        go_region_held3 (fun w' => w'.cell? ⟨w.heap.size, 0, none⟩ = some (.slice a n cap) ∧ w'.cell? ⟨w.heap.size, 1, none⟩ = some (.int .i64 max) ∧ w'.cell? ⟨w1.heap.size, 0, none⟩ = some (.string x.n) ∧ w'.cell? ⟨w1.heap.size, 1, none⟩ = some (.string x.v) ∧ w'.cell? ⟨w1.heap.size, 2, none⟩ = some (.bool x.q)) (first | with_reducible assumption | ((refine ⟨?_, ?_, ?_, ?_, ?_⟩) <;> ((iterate 5 (try rw [cell_set _ _ _ _ (by dsimp only; omega)])); with_reducible assumption))) ((first | (go_at_call 30; refine (hadd _ hFsd).mono ?_; clear hadd; rintro e w2 ⟨v2, rfl, hown2, hb2'⟩; obtain ⟨a2, c2, rfl⟩ := own_formT hown2; have hF2 := own_Fs hown2; have hge := own_ge hown2; clear hown2; obtain ⟨y0, y1⟩ := row2c (blkH hb2' hTd); obtain ⟨y2, y3, y4⟩ := row3c (blkH hb2' hLd); have hS2 : w2.cell? ⟨w.heap.size, 0, none⟩ = some (.slice a n cap) ∧ w2.cell? ⟨w.heap.size, 1, none⟩ = some (.int .i64 max) ∧ w2.cell? ⟨w1.heap.size, 0, none⟩ = some (.string x.n) ∧ w2.cell? ⟨w1.heap.size, 1, none⟩ = some (.string x.v) ∧ w2.cell? ⟨w1.heap.size, 2, none⟩ = some (.bool x.q) := ⟨y0, y1, y2, y3, y4⟩; have hR2 := blkH hb2' hRd; have hF2r := blkH hb2' hDd; obtain ⟨rr0, rr1⟩ := row2c hR2; obtain ⟨dd0, dd1, dd2⟩ := row3c hF2r; have ff0 := frz 0 hR2; have ff1 := frz 1 hR2; have ee0 := frz 0 hF2r; have ee1 := frz 1 hF2r; have ee2 := frz 2 hF2r)))
        go_wp2
        have hgz : ∀ g o, a2 = some ⟨g, o, none⟩ → w1.heap.size + 1 ≤ g := fun g o e => by have := hge g o e; rw [show U.drew.heap.size = U.heap.size from rfl, hzU] at this; exact this
        have hBz := hB1.size
        refine bodyPost_ret (results_cc2 rfl _ _ (w.heap.size + 1) (w.heap.size + 1 + 1) #[.slice a2 gs.length c2, .int .i64 max] #[.string x.n, .string x.v, .bool x.q] rfl (load_tab (two_rows hR2 hF2r _ _ _ _ _).1) rfl (load_fld (two_rows hR2 hF2r _ _ _ _ _).2)) rfl ⟨a2, gs.length, c2, rfl, hF2.set5 (B := w.heap.size + 1) (fun g x e hn => by have := hgz g x e; omega) _ _ _ _ _, .inr (fun g o e => by have := hgz g o e; omega), bel5 (B := w.heap.size + 1) (bt' hB1.drew hb2') (by omega) _ _ _ _ _⟩
    · rw [if_neg h2]
      have hin := fun w => l6In_any x0 16 31 w
      by_cases h3 : 16 ≤ x0 ∧ x0 ≤ 31
      · rw [if_pos h3]
        rw [show (decide (16 ≤ x0) && decide (x0 ≤ 31)) = true by rw [decide_eq_true h3.1, decide_eq_true h3.2]; rfl] at hin
        have hlt6 := fun (w' : World) (h : Fs w' a n cap fs) => hlit w' 4 (by decide) (by decide) h
        obtain ⟨⟨x, u, ok⟩, hx⟩ : ∃ r, litV fs s 4 = r := ⟨_, rfl⟩
        rw [hx] at hlt6 ⊢
        dsimp only at hlt6 ⊢
        unfold Fd.val at hlt6
        clear hx hlit
        unfold Fd.val
        dsimp only
        go_enter Tryz.func38, Tryz.ntmps38
        go_upto_region 12 with (first | (go_at_call 36; refine (hin _).mono ?_; clear hin; rintro e wi ⟨rfl, rfl⟩) | (go_at_call 59; refine (hlt6 _ (HF.out.below hb2)).mono ?_; clear hlt6; rintro e w1 ⟨rfl, hb1⟩))
        have hT1 := blkT (blkH hb1 hT3.out) (.cells #[.string x.n, .string x.v, .bool x.q] 52)
        have hR1 := blkT (blkH hb1 hR3.out) (.cells #[.string x.n, .string x.v, .bool x.q] 52)
        have hF1 := blkT (blkH hb1 hF3.out) (.cells #[.string x.n, .string x.v, .bool x.q] 52)
        have hL1 := heap_alloc_last w1 (.cells #[.string x.n, .string x.v, .bool x.q] 52)
        have hBw := bt' hb2 hb1
        have hB1 := hBw.alloc hBw.size (.cells #[.string x.n, .string x.v, .bool x.q] 52)
        have hFs := HF.out.below hB1
        have hzz : w.heap.size + 1 + 1 + 1 ≤ w1.heap.size := by have := hb1.size; rw [hz3] at this; exact this
        have hzU : (w1.alloc (.cells #[.string x.n, .string x.v, .bool x.q] 52)).heap.size = w1.heap.size + 1 := by simp
        clear hb1 hBw
        refine wabs (fun U => U.heap[w.heap.size]? = some (.cells #[.slice a n cap, .int .i64 max] 25 (0, 0)) ∧ U.heap[w.heap.size + 1]? = some (.cells #[.slice none 0 0, .int .i64 0] 25 (0, 0)) ∧ U.heap[w.heap.size + 1 + 1]? = some (.cells #[.string ⟨#[]⟩, .string ⟨#[]⟩, .bool false] 52 (0, 0)) ∧ U.heap[w1.heap.size]? = some (.cells #[.string x.n, .string x.v, .bool x.q] 52 (0, 0)) ∧ Fs U a n cap fs ∧ Below w.heap.size w U ∧ U.heap.size = w1.heap.size + 1) ⟨hT1, hR1, hF1, hL1, hFs, hB1, hzU⟩ ?_
        clear hT1 hR1 hF1 hL1 hFs hB1 hzU
        rintro U ⟨hT1, hR1, hF1, hL1, hFs, hB1, hzU⟩
        obtain ⟨t0, t1⟩ := row2c (W := U) hT1
        obtain ⟨l0, l1, l2⟩ := row3c (W := U) hL1
        obtain ⟨r0, r1⟩ := row2c (W := U) hR1
        obtain ⟨d0, d1, d2⟩ := row3c (W := U) hF1
        have f0 := frz (W := U) 0 hR1
        have f1 := frz (W := U) 1 hR1
        have e0 := frz (W := U) 0 hF1
        have e1 := frz (W := U) 1 hF1
        have e2 := frz (W := U) 2 hF1
        have k2 := frz (W := U) 2 hL1
        go_wp2
        have hLs := setc_heap 2 (.bool true) hL1
        have hTs := setc_other (B := w1.heap.size) 2 (.bool true) hT1 (by omega)
        have hRs := setc_other (B := w1.heap.size) 2 (.bool true) hR1 (by omega)
        have hDs := setc_other (B := w1.heap.size) 2 (.bool true) hF1 (by omega)
        have hFss := hFs.setc (B := w1.heap.size) 2 (.bool true) (fun g x e hn => by have := hlt g x e hn; omega)
        have hBs := hB1.setCell (p := ⟨w1.heap.size, 2, none⟩) (by show w.heap.size ≤ w1.heap.size; omega) (.bool true)
        obtain ⟨lt0, lt1⟩ := row2c hTs
        obtain ⟨ll0, ll1, ll2⟩ := row3c hLs
        obtain ⟨rr0, rr1⟩ := row2c hRs
        obtain ⟨dd0, dd1, dd2⟩ := row3c hDs
        have ff0 := frz 0 hRs
        have ff1 := frz 1 hRs
        have ee0 := frz 0 hDs
        have ee1 := frz 1 hDs
        have ee2 := frz 2 hDs
        go_region
        go_wp2
        refine bodyPost_ret (results_cc2 rfl _ _ (w.heap.size + 1) (w.heap.size + 1 + 1) #[.slice a n cap, .int .i64 max] #[.string x.n, .string x.v, .bool true] rfl (load_tab (two_rowsd hRs hDs _ _ _ _ _).1) rfl (load_fld (two_rowsd hRs hDs _ _ _ _ _).2)) rfl ⟨a, n, cap, rfl, hFss.set5d (B := w.heap.size + 1) (fun g x e hn => by have := hlt g x e hn; omega) _ _ _ _ _, .inl ⟨rfl, rfl⟩, bel5d (B := w.heap.size + 1) hBs (by omega) _ _ _ _ _⟩
      · rw [if_neg h3]
        rw [show (decide (16 ≤ x0) && decide (x0 ≤ 31)) = false by
          by_cases c : 16 ≤ x0
          · rw [decide_eq_false (by omega : ¬ x0 ≤ 31), Bool.and_false]
          · rw [decide_eq_false c, Bool.false_and]] at hin
        unfold zFd Fd.val
        dsimp only
        clear hlit
        have hFs := HF.out.below hb2
        obtain ⟨t0, t1⟩ := row2c hT3.out
        obtain ⟨r0, r1⟩ := row2c hR3.out
        obtain ⟨d0, d1, d2⟩ := row3c hF3.out
        go_enter Tryz.func38, Tryz.ntmps38
        go_wp2_with (go_at_call 36; refine (hin _).mono ?_; clear hin; rintro e wi ⟨rfl, rfl⟩)
        exact bodyPost_ret (results_cc2 rfl _ _ (w.heap.size + 1) (w.heap.size + 1 + 1) #[.slice a n cap, .int .i64 max] #[.string ⟨#[]⟩, .string ⟨#[]⟩, .bool false] rfl (load_tab (by
          have h := heap_alloc_last (w.alloc (.cells #[.slice a n cap, .int .i64 max] 25)) (.cells #[.slice a n cap, .int .i64 max] 25)
          rw [World.size_alloc] at h
          exact blkT h _)) rfl (load_fld (by
          have h := heap_alloc_last ((w.alloc (.cells #[.slice a n cap, .int .i64 max] 25)).alloc (.cells #[.slice a n cap, .int .i64 max] 25)) (.cells #[.string ⟨#[]⟩, .string ⟨#[]⟩, .bool false] 52)
          rw [World.size_alloc, World.size_alloc] at h
          exact h))) rfl ⟨a, n, cap, rfl, HF.out.below (((((Below.refl _ _).alloc (Nat.le_refl _) _).alloc (by simp) _).alloc (by simp; omega) _)), .inl ⟨rfl, rfl⟩, (((Below.refl _ _).alloc (Nat.le_refl _) _).alloc (by simp) _).alloc (by simp; omega) _⟩
end Go.Proofs.YtbhoafiolalgaaaGreat
