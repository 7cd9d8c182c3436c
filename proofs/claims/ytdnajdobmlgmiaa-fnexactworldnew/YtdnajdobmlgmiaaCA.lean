import Derived.Test.YtdnajdobmlgmiaaCD
import Derived.Test.YtdnajdobmlgmiaaBE
import Derived.Test.YtdnajdobmlgmiaaCE
namespace Go.Proofs.Ytdnajdobmlgmiaa
open Go.RowKit
set_option linter.unusedVariables false

/-- A stream. -/
structure Sm where
  id : Int
  st : Int
  head : List Fd
  say : ByteArray
  begun : Bool
  said : Bool
  sent : Int
  got : List Fd
  text : ByteArray
  heard : Bool
  fl : Fw
/-- An end. -/
structure Ed where
  ans : Bool
  out : List Fd
  outM : Int
  inn : List Fd
  innM : Int
  came : ByteArray
  sts : List Sm
  fl : Fw
  wait : List Fr
  bad : Bool
def eB : ByteArray := ⟨#[]⟩
def zEd : Ed := ⟨false, [], 0, [], 0, eB, [], zFw, [], false⟩
def edNew (ans : Bool) : Ed := ⟨ans, [], 64, [], 64, eB, [], ⟨16, 16⟩, [], false⟩
def wB (s : ByteArray) : Bool := wOk (bytesL s)
def smOk (s : Sm) : Bool := strm s.id && (decide (1 ≤ s.st ∧ s.st ≤ 3) && (hOk s.head && (hOk s.got && (wB s.say && (wB s.text && (decide (0 ≤ s.sent ∧ s.sent ≤ s.say.size) && flOk s.fl))))))
/-- Streams are ok, ascending, of who calls without a gap: from place i on, behind the number p. -/
def smsOk (ans : Bool) (p : Int) (i : Nat) : List Sm → Bool
  | [] => true
  | s :: r => smOk s && ((decide (i = 0) || decide (p < s.id)) && ((ans || decide (s.id = 2 * (i : Int) + 1)) && smsOk ans s.id (i + 1) r))
def edOk (e : Ed) : Bool := smsOk e.ans 0 0 e.sts && (e.wait.all frOk && (tOk e.out e.outM && (tOk e.inn e.innM && (flOk e.fl && (decide (e.came.size ≤ 600) && decide (e.wait.length ≤ 60))))))
def smNew (id : Int) : Sm := ⟨id, 1, [], eB, false, false, 0, [], eB, false, ⟨8, 8⟩⟩
def decF : Nat → Nat → List Int
  | 0, n => [48 + (n : Int)]
  | k + 1, n => if n < 10 then [48 + (n : Int)] else decF k (n / 10) ++ [48 + ((n % 10 : Nat) : Int)]
/-- A number in decimals. -/
def decB (n : Nat) : ByteArray := strOfNums (decF n n)
def nPath : ByteArray := ⟨#[58, 112, 97, 116, 104]⟩
def nStatus : ByteArray := ⟨#[58, 115, 116, 97, 116, 117, 115]⟩
def nKind : ByteArray := ⟨#[107, 105, 110, 100]⟩
def nText : ByteArray := ⟨#[116, 101, 120, 116]⟩
def nSize : ByteArray := ⟨#[115, 105, 122, 101]⟩
def headC (path text : ByteArray) : List Fd := [⟨nPath, path, false⟩, ⟨nKind, nText, false⟩, ⟨nSize, decB text.size, false⟩]
/-- A call begins. -/
def edCallX (e : Ed) (path text : ByteArray) : Ed × Int × Bool :=
  if e.ans = true ∨ 7 < 2 * (e.sts.length : Int) + 1 ∨ hOk (headC path text) = false ∨ wB text = false then (e, 0, false)
  else ({ e with sts := e.sts ++ [{ smNew (2 * (e.sts.length : Int) + 1) with head := headC path text, say := text }] }, 2 * (e.sts.length : Int) + 1, true)
def edCall (e : Ed) (path text : ByteArray) : Ed × Int × Bool := if edOk e then edCallX e path text else (zEd, 0, false)
/-- The place of a stream: how many there are, if there is none. -/
def smAt (id : Int) (l : List Sm) : Nat := l.findIdx fun s => s.id == id
def setSm (e : Ed) (k : Nat) (s : Sm) : Ed := { e with sts := e.sts.set k s }
def frReset (id : Int) : Fr := ⟨3, false, id, eB⟩
def edLeaveX (e : Ed) (id : Int) : Ed × Bool :=
  if e.ans = true then (e, false)
  else match e.sts[smAt id e.sts]? with
    | none => (e, false)
    | some s => if s.st = 1 then (setSm (if s.begun then { e with wait := e.wait ++ [frReset id] } else e) (smAt id e.sts) { s with st := 3 }, true) else (e, false)
def edLeave (e : Ed) (id : Int) : Ed × Bool := if edOk e then edLeaveX e id else (zEd, false)
/-- The head of a stream, said: if it was not begun. -/
def saidH (e : Ed) (s : Sm) : Ed × Sm × List Fr :=
  if s.begun then (e, s, [])
  else ({ e with out := (wrH e.out e.outM s.head).1 }, { s with begun := true, said := decide (s.say.size = 0) }, [⟨1, decide (s.say.size = 0), s.id, (wrH e.out e.outM s.head).2⟩])
/-- A piece of its text, said: as much as may be. -/
def saidT (e : Ed) (s : Sm) : Ed × Sm × List Fr :=
  let n := min ((s.say.size : Int) - s.sent) (min s.fl.s e.fl.s)
  if s.said = false ∧ 0 < n then
    ({ e with fl := ⟨e.fl.s - n, e.fl.r⟩ }, { s with fl := ⟨s.fl.s - n, s.fl.r⟩, said := decide (s.sent + n = s.say.size), sent := s.sent + n },
      [⟨0, decide (s.sent + n = s.say.size), s.id, s.say.extract s.sent.toNat (s.sent + n).toNat⟩])
  else (e, s, [])
def saidD (ans : Bool) (s : Sm) : Sm := if ans && s.said then { s with st := 2 } else s
/-- What is said of the stream at a place. -/
def edSay (e : Ed) (k : Nat) : Ed × List Fr :=
  match e.sts[k]? with
  | none => (e, [])
  | some s =>
    if s.st ≠ 1 ∨ s.head = [] ∨ s.said = true then (e, [])
    else (setSm (saidT (saidH e s).1 (saidH e s).2.1).1 k (saidD e.ans (saidT (saidH e s).1 (saidH e s).2.1).2.1), (saidH e s).2.2 ++ (saidT (saidH e s).1 (saidH e s).2.1).2.2)
def edRoom (e : Ed) (f : Fr) : Ed :=
  if f.k ≠ 8 then e
  else if f.s = 0 then { e with fl := ⟨e.fl.s, min (e.fl.r + b0of f.b) 31⟩ }
  else match e.sts[smAt f.s e.sts]? with
    | none => e
    | some s => setSm e (smAt f.s e.sts) { s with fl := ⟨s.fl.s, min (s.fl.r + b0of f.b) 31⟩ }
def edRooms (e : Ed) (l : List Fr) : Ed := l.foldl edRoom e
/-- Stream by stream, from place k on, so many. -/
def edSays : Nat → Ed → Nat → Ed × List Fr
  | 0, e, _ => (e, [])
  | n + 1, e, k => ((edSays n (edSay e k).1 (k + 1)).1, (edSay e k).2 ++ (edSays n (edSay e k).1 (k + 1)).2)
def frsB : List Fr → ByteArray
  | [] => eB
  | f :: r => frB f ++ frsB r
def edWriteX (e : Ed) : Ed × List Fr :=
  let r := edSays e.sts.length { edRooms e e.wait with wait := [] } 0
  (r.1, e.wait ++ r.2)
def edWrite (e : Ed) : Ed × ByteArray := if edOk e then (if e.bad then (e, eB) else ((edWriteX e).1, frsB (edWriteX e).2)) else (zEd, eB)
def upL (l : List Int) : List Int := l.map fun c => if 97 ≤ c ∧ c < 122 then c + 1 else c
def upB (s : ByteArray) : ByteArray := strOfNums (upL (bytesL s))
def pEcho : ByteArray := ⟨#[47, 101, 99, 104, 111]⟩
def pUp : ByteArray := ⟨#[47, 117, 112]⟩
def pLen : ByteArray := ⟨#[47, 108, 101, 110]⟩
def sNo : ByteArray := ⟨#[49, 50]⟩
def sYes : ByteArray := ⟨#[48]⟩
def edAns (path text : ByteArray) : ByteArray × ByteArray :=
  if path.toList == pEcho.toList then (sYes, text)
  else if path.toList == pUp.toList then (sYes, upB text)
  else if path.toList == pLen.toList then (sYes, decB text.size)
  else (sNo, eB)
def smAsk (s : Sm) : Sm :=
  let a := edAns (getH s.got nPath).1 s.text
  { s with head := [⟨nStatus, a.1, false⟩, ⟨nKind, nText, false⟩], say := a.2, begun := false, said := false, sent := 0 }
def smDone (ans : Bool) (s : Sm) : Sm :=
  if s.st ≠ 1 then { s with heard := true } else if ans then smAsk { s with heard := true } else { s with heard := true, st := 2 }
def lastId (l : List Sm) : Int := match l.getLast? with | none => 0 | some s => s.id
/-- A head came. -/
def edHead (e : Ed) (f : Fr) : Ed :=
  let r := hRd e.inn e.innM f.b
  let e1 := if smAt f.s e.sts = e.sts.length ∧ e.ans = true ∧ (e.sts = [] ∨ lastId e.sts < f.s) then { e with sts := e.sts ++ [smNew f.s] } else e
  match e1.sts[smAt f.s e1.sts]? with
  | none => { e1 with bad := true }
  | some s => if r.2.2 = false ∨ s.heard = true ∨ s.got ≠ [] ∨ r.2.1 = [] then { e1 with bad := true }
    else setSm { e1 with inn := r.1.1 } (smAt f.s e1.sts) (if f.l then smDone e.ans { s with got := r.2.1 } else { s with got := r.2.1 })
def frMore (id : Int) (n : Int) : Fr := ⟨8, false, id, strOfNums [n]⟩
/-- A piece of a text came. -/
def edData (e : Ed) (f : Fr) : Ed :=
  let n : Int := f.b.size
  match e.sts[smAt f.s e.sts]? with
  | none => { e with bad := true }
  | some s => if s.heard = true ∨ s.got = [] ∨ e.fl.r < n ∨ s.fl.r < n ∨ wB (s.text ++ f.b) = false then { e with bad := true }
    else
      let s1 := { s with text := s.text ++ f.b, fl := ⟨s.fl.s, s.fl.r - n⟩ }
      setSm { e with fl := ⟨e.fl.s, e.fl.r - n⟩, wait := if 0 < n then e.wait ++ [frMore 0 n, frMore s.id n] else e.wait } (smAt f.s e.sts) (if f.l then smDone e.ans s1 else s1)
def edMore (e : Ed) (f : Fr) : Ed :=
  let n := b0of f.b
  if f.s = 0 then { e with fl := ⟨min (e.fl.s + n) 31, e.fl.r⟩, bad := e.bad || decide (31 < e.fl.s + n) }
  else match e.sts[smAt f.s e.sts]? with
    | none => { e with bad := true }
    | some s => setSm { e with bad := e.bad || decide (31 < s.fl.s + n) } (smAt f.s e.sts) { s with fl := ⟨min (s.fl.s + n) 31, s.fl.r⟩ }
def edReset (e : Ed) (f : Fr) : Ed :=
  if e.ans = false then { e with bad := true }
  else match e.sts[smAt f.s e.sts]? with
    | none => { e with bad := true }
    | some s => setSm e (smAt f.s e.sts) { s with st := 3 }
def edFrame (e : Ed) (f : Fr) : Ed := if f.k = 1 then edHead e f else if f.k = 0 then edData e f else if f.k = 8 then edMore e f else edReset e f
/-- Frame by frame, so many at most. -/
def edLoop : Nat → Ed → Ed
  | 0, e => e
  | n + 1, e =>
    if e.bad then e
    else if (frRd e.came).2.2 < 0 then { e with bad := true }
    else if (frRd e.came).2.2 = 0 then e
    else edLoop n (edFrame { e with came := e.came.extract (frRd e.came).2.1.toNat e.came.size } (frRd e.came).1)
def edHearX (e : Ed) (b : ByteArray) : Ed := edLoop (e.came.size + b.size + 1) { e with came := e.came ++ b }
def edHear (e : Ed) (b : ByteArray) : Ed :=
  if edOk e = true ∧ b.size ≤ 300 then (if e.bad = true ∨ 300 < e.came.size + b.size ∨ 40 < e.wait.length then e else edHearX e b) else zEd
end Go.Proofs.Ytdnajdobmlgmiaa

namespace Go.Proofs.Ytdnajdobmlgmiaa
open Go.RowKit
set_option linter.unusedVariables false

theorem frsB_append (a b : List Fr) : frsB (a ++ b) = frsB a ++ frsB b := by
  induction a with
  | nil =>
    show frsB b = eB ++ frsB b
    apply ByteArray.ext
    simp [eB, ByteArray.data_append]
  | cons f r ih =>
    show frB f ++ frsB (r ++ b) = (frB f ++ frsB r) ++ frsB b
    rw [ih, ByteArray.append_assoc]
theorem smAt_le (id : Int) (l : List Sm) : smAt id l ≤ l.length := List.findIdx_le_length
theorem smAt_get {id : Int} {l : List Sm} {s : Sm} (h : l[smAt id l]? = some s) : s.id = id := by
  obtain ⟨hlt, e⟩ := List.getElem?_eq_some_iff.1 h
  have h2 : ((fun s : Sm => s.id == id) (l[smAt id l]'hlt)) = true := List.findIdx_getElem (w := hlt)
  rw [e] at h2
  simpa using h2
theorem smAt_lt {id : Int} {l : List Sm} (h : smAt id l < l.length) : ∃ s, l[smAt id l]? = some s ∧ s.id = id := by
  have e : l[smAt id l]? = some (l[smAt id l]'h) := List.getElem?_eq_getElem h
  exact ⟨_, e, smAt_get e⟩
theorem smAt_none {id : Int} {l : List Sm} (h : ¬ smAt id l < l.length) : ∀ s ∈ l, s.id ≠ id := by
  intro s hs e
  apply h
  exact List.findIdx_lt_length_of_exists ⟨s, hs, by simpa using e⟩
/-- What is behind the first so many streams with that number does not matter. -/
theorem smAt_before {id : Int} {l : List Sm} {k : Nat} (hk : k < smAt id l) : ∀ s, l[k]? = some s → s.id ≠ id := by
  intro s hs e
  have := List.not_of_lt_findIdx hk
  obtain ⟨hlt, e2⟩ := List.getElem?_eq_some_iff.1 hs
  rw [e2] at this
  simp [e] at this
theorem smAt_eq {id : Int} {l : List Sm} {k : Nat} {s : Sm} (hs : l[k]? = some s) (he : s.id = id) (hb : ∀ j, j < k → ∀ t, l[j]? = some t → t.id ≠ id) : smAt id l = k := by
  obtain ⟨hlt, e2⟩ := List.getElem?_eq_some_iff.1 hs
  unfold smAt
  rw [List.findIdx_eq hlt]
  refine ⟨by rw [e2]; simpa using he, ?_⟩
  intro j hj
  have := hb j hj _ (List.getElem?_eq_getElem (by omega))
  simpa using this
theorem smAt_append_new {id : Int} {l : List Sm} (h : smAt id l = l.length) (s : Sm) (he : s.id = id) : smAt id (l ++ [s]) = l.length := by
  refine smAt_eq (s := s) (by simp) he ?_
  intro j hj t ht
  rw [List.getElem?_append_left hj] at ht
  exact smAt_none (by omega) t (List.mem_of_getElem? ht)
theorem setSm_length (e : Ed) (k : Nat) (s : Sm) : (setSm e k s).sts.length = e.sts.length := by unfold setSm; simp
/-- Which numbers streams have does not turn, if one is laid anew with its own. -/
theorem smAt_set {id : Int} {l : List Sm} {k : Nat} {s t : Sm} (hs : l[k]? = some s) (he : t.id = s.id) : smAt id (l.set k t) = smAt id l := by
  unfold smAt
  have hlt := (List.getElem?_eq_some_iff.1 hs).1
  induction l generalizing k with
  | nil => simp at hlt
  | cons a r ih =>
    cases k with
    | zero =>
      simp at hs
      subst hs
      simp [List.findIdx_cons, he]
    | succ k =>
      simp at hs
      have := ih (k := k) hs (by simpa using hlt)
      simp [List.findIdx_cons, this]
theorem edRoom_same (e : Ed) (f : Fr) : (edRoom e f).ans = e.ans ∧ (edRoom e f).out = e.out ∧ (edRoom e f).outM = e.outM ∧ (edRoom e f).inn = e.inn ∧ (edRoom e f).innM = e.innM ∧ (edRoom e f).came = e.came ∧ (edRoom e f).sts.length = e.sts.length ∧ (edRoom e f).fl.s = e.fl.s ∧ (edRoom e f).wait = e.wait ∧ (edRoom e f).bad = e.bad := by
  unfold edRoom
  split
  · simp
  · split
    · simp
    · split
      · simp
      · simp [setSm]
theorem edRooms_length (e : Ed) (l : List Fr) : (edRooms e l).sts.length = e.sts.length := by
  unfold edRooms
  induction l generalizing e with
  | nil => rfl
  | cons f r ih => rw [List.foldl_cons, ih, (edRoom_same e f).2.2.2.2.2.2.1]
end Go.Proofs.Ytdnajdobmlgmiaa

namespace Go.Proofs.Ytdnajdobmlgmiaa
open Go.RowKit
set_option linter.unusedVariables false

theorem edHead_came (e : Ed) (f : Fr) : (edHead e f).came = e.came := by
  unfold edHead
  dsimp only
  split
  · split <;> rfl
  · split
    · split <;> rfl
    · split <;> rfl
theorem edData_came (e : Ed) (f : Fr) : (edData e f).came = e.came := by
  unfold edData
  dsimp only
  split
  · rfl
  · split <;> rfl
theorem edMore_came (e : Ed) (f : Fr) : (edMore e f).came = e.came := by
  unfold edMore
  dsimp only
  split
  · rfl
  · split <;> rfl
theorem edReset_came (e : Ed) (f : Fr) : (edReset e f).came = e.came := by
  unfold edReset
  split
  · rfl
  · split <;> rfl
theorem edFrame_came (e : Ed) (f : Fr) : (edFrame e f).came = e.came := by
  unfold edFrame
  split
  · exact edHead_came e f
  · split
    · exact edData_came e f
    · split
      · exact edMore_came e f
      · exact edReset_came e f
/-- What comes of a frame does not look at the bytes that wait. -/
theorem edFrame_with (e : Ed) (f : Fr) (b : ByteArray) : edFrame { e with came := b } f = { edFrame e f with came := b } := by
  unfold edFrame
  split
  · unfold edHead
    dsimp only
    by_cases hc : smAt f.s e.sts = e.sts.length ∧ e.ans = true ∧ (e.sts = [] ∨ lastId e.sts < f.s)
    · rw [if_pos hc, if_pos hc]
      dsimp only
      cases (e.sts ++ [smNew f.s])[smAt f.s (e.sts ++ [smNew f.s])]? with
      | none => rfl
      | some s =>
        dsimp only
        split <;> rfl
    · rw [if_neg hc, if_neg hc]
      dsimp only
      cases e.sts[smAt f.s e.sts]? with
      | none => rfl
      | some s =>
        dsimp only
        split <;> rfl
  · split
    · unfold edData
      dsimp only
      split
      · rfl
      · split <;> rfl
    · split
      · unfold edMore
        dsimp only
        split
        · rfl
        · split <;> rfl
      · unfold edReset
        dsimp only
        split
        · rfl
        · split <;> rfl
/-- A frame that is read has four bytes at least. -/
theorem frRd_one {s : ByteArray} (h : (frRd s).2.2 = 1) : frOk (frRd s).1 = true ∧ (frRd s).2.1 = 4 + ((frRd s).1.b.size : Int) ∧ 4 + (frRd s).1.b.size ≤ s.size ∧ frB (frRd s).1 = s.extract 0 (4 + (frRd s).1.b.size) := by
  obtain ⟨⟨f, u, i⟩, hr⟩ : ∃ x, frRd s = x := ⟨_, rfl⟩
  rw [hr] at h ⊢
  dsimp only at h ⊢
  subst h
  exact frRd_strict hr
theorem frRd_cases (s : ByteArray) : (frRd s).2.2 = 1 ∨ frRd s = (zFr, 0, 0) ∨ frRd s = (zFr, 0, -1) := by
  by_cases h : (frRd s).2.2 = 1
  · exact .inl h
  · right
    unfold frRd rdFr at h ⊢
    split at h
    · split at h
      · rename_i h0
        rw [if_pos h0]
        exact .inr rfl
      · rename_i h0
        rw [if_neg h0]
        split at h
        · rename_i h1
          rw [if_pos h1]
          exact .inl rfl
        · rename_i h1
          rw [if_neg h1]
          split at h
          · exact absurd rfl h
          · rename_i h2
            rw [if_neg h2]
            exact .inr rfl
    · exact .inl rfl
theorem rdFr_more {l : List Int} {f : Fr} {u i : Int} (h : rdFr l = (f, u, i)) (hi : i ≠ 0) (hl : ∀ x ∈ l, 0 ≤ x) (t : List Int) : rdFr (l ++ t) = (f, u, i) := by
  match l, h, hl with
  | [], h, _ => exfalso; simp only [rdFr] at h; injection h with _ h; injection h with _ h; exact hi h.symm
  | [_], h, _ => exfalso; simp only [rdFr] at h; injection h with _ h; injection h with _ h; exact hi h.symm
  | [_, _], h, _ => exfalso; simp only [rdFr] at h; injection h with _ h; injection h with _ h; exact hi h.symm
  | [_, _, _], h, _ => exfalso; simp only [rdFr] at h; injection h with _ h; injection h with _ h; exact hi h.symm
  | n :: k :: x :: s :: r, h, hl =>
    have hn := hl n (by simp)
    rw [rdFr_four] at h
    show rdFr (n :: k :: x :: s :: (r ++ t)) = _
    rw [rdFr_four]
    by_cases h1 : 200 < n ∨ 1 < x
    · rw [if_pos h1] at h ⊢
      exact h
    · rw [if_neg h1] at h ⊢
      by_cases h2 : (r.length : Int) < n
      · rw [if_pos h2] at h
        exfalso
        injection h with _ h
        injection h with _ h
        exact hi h.symm
      · rw [if_neg h2] at h
        rw [if_neg (by rw [List.length_append]; omega), List.take_append_of_le_length (by omega)]
        exact h
theorem frRd_more {s : ByteArray} (h : (frRd s).2.2 ≠ 0) (t : ByteArray) : frRd (s ++ t) = frRd s := by
  unfold frRd at h ⊢
  rw [bytesL_append]
  exact rdFr_more (f := (rdFr (bytesL s)).1) (u := (rdFr (bytesL s)).2.1) rfl h (fun x hx => (bytesL_bd s x hx).1) _
theorem bytes_drop (s t : ByteArray) (k : Nat) (h : k ≤ s.size) : (s ++ t).extract k (s ++ t).size = s.extract k s.size ++ t := by
  have e1 : bytesL ((s ++ t).extract k (s ++ t).size) = bytesL (s.extract k s.size ++ t) := by
    rw [bytesL_append, bytesL_extract, bytesL_extract, bytesL_append, ByteArray.size_append]
    have l1 := bytesL_length s
    have l2 := bytesL_length t
    rw [List.take_of_length_le (by rw [List.length_append]; omega), List.take_of_length_le (by omega), List.drop_append_of_le_length (by omega)]
  rw [← strOfNums_bytesL ((s ++ t).extract k (s ++ t).size), e1, strOfNums_bytesL]
/-- So many rounds as there are bytes are enough. -/
theorem edLoop_fuel : ∀ (n : Nat) (e : Ed), e.came.size < n → ∀ m, e.came.size < m → edLoop n e = edLoop m e
  | 0, e, h, _, _ => by omega
  | n + 1, e, h, m, hm => by
    cases m with
    | zero => omega
    | succ m =>
      unfold edLoop
      split
      · rfl
      · split
        · rfl
        · split
          · rfl
          · rename_i h1 h2 h3
            have h4 : (frRd e.came).2.2 = 1 := by
              rcases frRd_cases e.came with h | h | h
              · exact h
              · rw [h] at h3; exact absurd rfl h3
              · rw [h] at h2; exact absurd (by decide) h2
            obtain ⟨_, hu, hz, _⟩ := frRd_one h4
            have hc : (edFrame { e with came := e.came.extract (frRd e.came).2.1.toNat e.came.size } (frRd e.came).1).came.size < e.came.size := by
              rw [edFrame_came]
              show (e.came.extract _ _).size < _
              rw [ByteArray.size_extract, hu]
              omega
            exact edLoop_fuel n _ (by omega) m (by omega)
/-- What is heard in two is heard as at once; who heard what is none in the first heard it at all. -/
theorem edLoop_parts : ∀ (n : Nat) (e : Ed) (b : ByteArray) (m : Nat), e.came.size < n → e.came.size + b.size < m →
    (edLoop n e).bad = true ∧ (edLoop m { e with came := e.came ++ b }).bad = true ∨
    (edLoop n e).bad = false ∧ (edLoop n e).came.size ≤ e.came.size ∧ edLoop m { e with came := e.came ++ b } = edLoop m { edLoop n e with came := (edLoop n e).came ++ b }
  | 0, e, b, m, h, _ => by omega
  | n + 1, e, b, m, hn, hm => by
    cases m with
    | zero => omega
    | succ m =>
      by_cases hb : e.bad = true
      · left
        unfold edLoop
        rw [if_pos hb, if_pos (show ({ e with came := e.came ++ b } : Ed).bad = true from hb)]
        exact ⟨hb, hb⟩
      · rcases frRd_cases e.came with h1 | h1 | h1
        · have hmo : frRd (e.came ++ b) = frRd e.came := frRd_more (by rw [h1]; decide) b
          obtain ⟨_, hu, hz, _⟩ := frRd_one h1
          have s1 : edLoop (n + 1) e = edLoop n (edFrame { e with came := e.came.extract (frRd e.came).2.1.toNat e.came.size } (frRd e.came).1) := by
            conv => lhs; unfold edLoop
            rw [if_neg hb, if_neg (by rw [h1]; decide), if_neg (by rw [h1]; decide)]
          have s2 : edLoop (m + 1) { e with came := e.came ++ b } = edLoop m (edFrame { e with came := e.came.extract (frRd e.came).2.1.toNat e.came.size ++ b } (frRd e.came).1) := by
            conv => lhs; unfold edLoop
            rw [if_neg (show ¬ ({ e with came := e.came ++ b } : Ed).bad = true from hb)]
            dsimp only
            rw [hmo, if_neg (by rw [h1]; decide), if_neg (by rw [h1]; decide), bytes_drop _ _ _ (by rw [hu]; omega)]
          have hcs : (e.came.extract (frRd e.came).2.1.toNat e.came.size).size + 4 ≤ e.came.size := by
            rw [ByteArray.size_extract, hu]; omega
          obtain ⟨c, hcc⟩ : ∃ c, e.came.extract (frRd e.came).2.1.toNat e.came.size = c := ⟨_, rfl⟩
          rw [hcc] at s1 s2 hcs
          have hcf : (edFrame { e with came := c } (frRd e.came).1).came = c := edFrame_came _ _
          have ih := edLoop_parts n (edFrame { e with came := c } (frRd e.came).1) b m (by rw [hcf]; omega) (by rw [hcf]; omega)
          have e3 : edFrame { e with came := c ++ b } (frRd e.came).1 = { edFrame { e with came := c } (frRd e.came).1 with came := (edFrame { e with came := c } (frRd e.came).1).came ++ b } := by
            rw [hcf, edFrame_with e _ (c ++ b), edFrame_with e _ c]
          rw [s1, s2, e3]
          rcases ih with ⟨i1, i2⟩ | ⟨i1, i2, i3⟩
          · exact .inl ⟨i1, i2⟩
          · refine .inr ⟨i1, by rw [hcf] at i2; omega, ?_⟩
            rw [i3]
            refine edLoop_fuel m _ ?_ (m + 1) ?_
            · show ((edLoop n _).came ++ b).size < m
              rw [ByteArray.size_append]
              rw [hcf] at i2
              omega
            · show ((edLoop n _).came ++ b).size < m + 1
              rw [ByteArray.size_append]
              rw [hcf] at i2
              omega
        · have s1 : edLoop (n + 1) e = e := by
            conv => lhs; unfold edLoop
            rw [if_neg hb, h1, if_neg (by decide), if_pos rfl]
          rw [s1]
          exact .inr ⟨by simpa using hb, Nat.le_refl _, rfl⟩
        · have s1 : edLoop (n + 1) e = { e with bad := true } := by
            conv => lhs; unfold edLoop
            rw [if_neg hb, h1, if_pos (by decide)]
          have hmo : frRd (e.came ++ b) = frRd e.came := frRd_more (by rw [h1]; decide) b
          have s2 : edLoop (m + 1) { e with came := e.came ++ b } = { e with came := e.came ++ b, bad := true } := by
            conv => lhs; unfold edLoop
            rw [if_neg (show ¬ ({ e with came := e.came ++ b } : Ed).bad = true from hb)]
            dsimp only
            rw [hmo, h1, if_pos (by decide)]
          rw [s1, s2]
          exact .inl ⟨rfl, rfl⟩
end Go.Proofs.Ytdnajdobmlgmiaa

namespace Go.Proofs.Ytdnajdobmlgmiaa
open Go.RowKit
set_option linter.unusedVariables false

theorem smsOk_cons {ans : Bool} {p : Int} {i : Nat} {s : Sm} {r : List Sm} : smsOk ans p i (s :: r) = true ↔ smOk s = true ∧ (i = 0 ∨ p < s.id) ∧ (ans = true ∨ s.id = 2 * (i : Int) + 1) ∧ smsOk ans s.id (i + 1) r = true := by
  show (smOk s && _) = true ↔ _
  simp only [Bool.and_eq_true, Bool.or_eq_true, decide_eq_true_eq]
theorem smsOk_mem {ans : Bool} : ∀ {l : List Sm} {p : Int} {i : Nat}, smsOk ans p i l = true → ∀ s ∈ l, smOk s = true
  | [], _, _, _, _, h => by cases h
  | a :: r, _, _, h, s, hs => by
    obtain ⟨h1, _, _, h4⟩ := smsOk_cons.1 h
    rcases List.mem_cons.1 hs with rfl | hs
    · exact h1
    · exact smsOk_mem h4 s hs
theorem smsOk_set {ans : Bool} : ∀ {l : List Sm} {p : Int} {i k : Nat} {s t : Sm}, smsOk ans p i l = true → l[k]? = some s → smOk t = true → t.id = s.id → smsOk ans p i (l.set k t) = true
  | [], _, _, _, _, _, _, h, _, _ => by simp at h
  | a :: r, p, i, 0, s, t, h, hs, ht, he => by
    obtain ⟨h1, h2, h3, h4⟩ := smsOk_cons.1 h
    simp at hs
    subst hs
    exact smsOk_cons.2 ⟨ht, by rw [he]; exact h2, by rw [he]; exact h3, by rw [he]; exact h4⟩
  | a :: r, p, i, k + 1, s, t, h, hs, ht, he => by
    obtain ⟨h1, h2, h3, h4⟩ := smsOk_cons.1 h
    simp at hs
    exact smsOk_cons.2 ⟨h1, h2, h3, smsOk_set h4 hs ht he⟩
theorem lastId_cons (a b : Sm) (r : List Sm) : lastId (a :: b :: r) = lastId (b :: r) := by
  unfold lastId
  rw [List.getLast?_cons_cons]
theorem smsOk_append {ans : Bool} {t : Sm} (ht : smOk t = true) : ∀ {l : List Sm} {p : Int} {i : Nat}, smsOk ans p i l = true → (l = [] → i = 0 ∨ p < t.id) → (l ≠ [] → lastId l < t.id) → (ans = true ∨ t.id = 2 * ((i + l.length : Nat) : Int) + 1) → smsOk ans p i (l ++ [t]) = true
  | [], p, i, h, h0, _, ha => smsOk_cons.2 ⟨ht, h0 rfl, by simpa using ha, rfl⟩
  | [a], p, i, h, _, h1, ha => by
    obtain ⟨q1, q2, q3, _⟩ := smsOk_cons.1 h
    refine smsOk_cons.2 ⟨q1, q2, q3, smsOk_cons.2 ⟨ht, .inr ?_, by simpa using ha, rfl⟩⟩
    have := h1 (by simp)
    simpa [lastId] using this
  | a :: b :: r, p, i, h, _, h1, ha => by
    obtain ⟨q1, q2, q3, q4⟩ := smsOk_cons.1 h
    refine smsOk_cons.2 ⟨q1, q2, q3, smsOk_append ht q4 (by simp) (fun _ => ?_) ?_⟩
    · have := h1 (by simp)
      rwa [lastId_cons] at this
    · rcases ha with ha | ha
      · exact .inl ha
      · refine .inr ?_
        rw [ha]
        simp only [List.length_cons]
        omega
/-- What an end that is ok is. -/
structure EdOkP (e : Ed) : Prop where
  sts : smsOk e.ans 0 0 e.sts = true
  wait : ∀ f ∈ e.wait, frOk f = true
  out : tOk e.out e.outM = true
  inn : tOk e.inn e.innM = true
  fl : flOk e.fl = true
  came : e.came.size ≤ 600
  len : e.wait.length ≤ 60
theorem edOk_iff {e : Ed} : edOk e = true ↔ EdOkP e := by
  unfold edOk
  simp only [Bool.and_eq_true, List.all_eq_true, decide_eq_true_eq]
  constructor
  · rintro ⟨h1, h2, h3, h4, h5, h6, h7⟩
    exact ⟨h1, h2, h3, h4, h5, h6, h7⟩
  · rintro ⟨h1, h2, h3, h4, h5, h6, h7⟩
    exact ⟨h1, h2, h3, h4, h5, h6, h7⟩
structure SmOkP (s : Sm) : Prop where
  id : strm s.id = true
  st : 1 ≤ s.st ∧ s.st ≤ 3
  head : hOk s.head = true
  got : hOk s.got = true
  say : wB s.say = true
  text : wB s.text = true
  sent : 0 ≤ s.sent ∧ s.sent ≤ s.say.size
  fl : flOk s.fl = true
theorem smOk_iff {s : Sm} : smOk s = true ↔ SmOkP s := by
  unfold smOk
  simp only [Bool.and_eq_true, decide_eq_true_eq]
  constructor
  · rintro ⟨h1, h2, h3, h4, h5, h6, h7, h8⟩
    exact ⟨h1, h2, h3, h4, h5, h6, h7, h8⟩
  · rintro ⟨h1, h2, h3, h4, h5, h6, h7, h8⟩
    exact ⟨h1, h2, h3, h4, h5, h6, h7, h8⟩
theorem hOk_nil : hOk [] = true := by decide
theorem wB_nil : wB eB = true := by decide
theorem smNew_ok {id : Int} (h : strm id = true) : smOk (smNew id) = true :=
  smOk_iff.2 ⟨h, by show (1 : Int) ≤ 1 ∧ (1 : Int) ≤ 3; decide, hOk_nil, hOk_nil, wB_nil, wB_nil, by show (0 : Int) ≤ 0 ∧ (0 : Int) ≤ ((eB.size : Nat) : Int); decide, by show flOk ⟨8, 8⟩ = true; decide⟩
theorem edNew_ok (a : Bool) : edOk (edNew a) = true := by
  cases a <;> decide
/-- Letters, each the next one. -/
theorem up_sgn : ∀ c ∈ WS, (if 97 ≤ c ∧ c < 122 then c + 1 else c) ∈ WS := by decide
theorem wB_iff {s : ByteArray} : wB s = true ↔ (∀ c ∈ bytesL s, c ∈ WS) ∧ s.size ≤ 16 := by
  unfold wB wOk
  rw [Bool.and_eq_true, List.all_eq_true, decide_eq_true_eq, bytesL_length]
  constructor
  · rintro ⟨h1, h2⟩
    refine ⟨fun c hc => ?_, h2⟩
    have := of_decide_eq_true (h1 c hc)
    unfold sgn at this
    by_cases hm : c ∈ WS
    · exact hm
    · rw [if_neg hm] at this; omega
  · rintro ⟨h1, h2⟩
    refine ⟨fun c hc => ?_, h2⟩
    unfold sgn
    rw [if_pos (h1 c hc)]
    exact decide_eq_true (Int.natCast_nonneg _)
theorem upL_bd {l : List Int} (h : ∀ x ∈ l, 0 ≤ x ∧ x ≤ 255) : ∀ x ∈ upL l, 0 ≤ x ∧ x ≤ 255 := by
  intro x hx
  obtain ⟨c, hc, rfl⟩ := List.mem_map.1 hx
  have := h c hc
  split <;> omega
theorem bytesL_upB (s : ByteArray) : bytesL (upB s) = upL (bytesL s) := bytesL_strOfNums _ (upL_bd (bytesL_bd s))
theorem upB_size (s : ByteArray) : (upB s).size = s.size := by
  rw [← bytesL_length, bytesL_upB]
  unfold upL
  rw [List.length_map, bytesL_length]
theorem upB_ok {s : ByteArray} (h : wB s = true) : wB (upB s) = true := by
  obtain ⟨h1, h2⟩ := wB_iff.1 h
  refine wB_iff.2 ⟨?_, by rw [upB_size]; exact h2⟩
  rw [bytesL_upB]
  intro c hc
  obtain ⟨d, hd, rfl⟩ := List.mem_map.1 hc
  exact up_sgn d (h1 d hd)
theorem decB_ok {n : Nat} (h : n ≤ 16) : wB (decB n) = true := by
  have key : ∀ k : Fin 17, wB (decB k.1) = true := by decide +kernel
  exact key ⟨n, by omega⟩
theorem edAns_ok {p t : ByteArray} (h : wB t = true) : ((edAns p t).1 = sYes ∨ (edAns p t).1 = sNo) ∧ wB (edAns p t).2 = true := by
  unfold edAns
  split
  · exact ⟨.inl rfl, h⟩
  · split
    · exact ⟨.inl rfl, upB_ok h⟩
    · split
      · exact ⟨.inl rfl, decB_ok (wB_iff.1 h).2⟩
      · exact ⟨.inr rfl, wB_nil⟩
theorem headA_ok {v : ByteArray} (h : v = sYes ∨ v = sNo) : hOk [⟨nStatus, v, false⟩, ⟨nKind, nText, false⟩] = true := by
  rcases h with rfl | rfl <;> decide +kernel
theorem smAsk_ok {s : Sm} (h : smOk s = true) : smOk (smAsk s) = true := by
  obtain ⟨h1, h2, h3, h4, h5, h6, h7, h8⟩ := smOk_iff.1 h
  obtain ⟨k1, k2⟩ := edAns_ok (p := (getH s.got nPath).1) h6
  exact smOk_iff.2 ⟨h1, h2, headA_ok k1, h4, k2, h6, ⟨Int.le_refl _, by show (0 : Int) ≤ _; omega⟩, h8⟩
theorem smDone_ok {a : Bool} {s : Sm} (h : smOk s = true) : smOk (smDone a s) = true := by
  obtain ⟨h1, h2, h3, h4, h5, h6, h7, h8⟩ := smOk_iff.1 h
  have h' : smOk { s with heard := true } = true := smOk_iff.2 ⟨h1, h2, h3, h4, h5, h6, h7, h8⟩
  unfold smDone
  split
  · exact h'
  · split
    · exact smAsk_ok h'
    · exact smOk_iff.2 ⟨h1, by show (1 : Int) ≤ 2 ∧ (2 : Int) ≤ 3; decide, h3, h4, h5, h6, h7, h8⟩
theorem smDone_id (a : Bool) (s : Sm) : (smDone a s).id = s.id := by
  unfold smDone
  split
  · rfl
  · split <;> rfl
theorem frMore_ok {id n : Int} (hid : id = 0 ∨ strm id = true) (h0 : 1 ≤ n) (h1 : n ≤ 31) : frOk (frMore id n) = true := by
  unfold frMore
  rw [frOk_8]
  have hb : bytesL (strOfNums [n]) = [n] := bytesL_strOfNums _ (by intro x hx; simp at hx; omega)
  have hm : moreB (strOfNums [n]) = true := by
    unfold moreB b0of
    rw [hb]
    exact decide_eq_true ⟨rfl, h0, h1⟩
  rw [hm]
  rcases hid with rfl | h
  · decide
  · rw [h]; simp
theorem frReset_ok {id : Int} (h : strm id = true) : frOk (frReset id) = true := by
  unfold frReset
  rw [frOk_3, h]
  decide
end Go.Proofs.Ytdnajdobmlgmiaa

namespace Go.Proofs.Ytdnajdobmlgmiaa
open Go.RowKit
set_option linter.unusedVariables false

theorem bad_ok {e : Ed} (h : edOk e = true) : edOk { e with bad := true } = true := by
  obtain ⟨h1, h2, h3, h4, h5, h6, h7⟩ := edOk_iff.1 h
  exact edOk_iff.2 ⟨h1, h2, h3, h4, h5, h6, h7⟩
theorem setSm_ok {e : Ed} {k : Nat} {s t : Sm} (h : edOk e = true) (hs : e.sts[k]? = some s) (ht : smOk t = true) (he : t.id = s.id) : edOk (setSm e k t) = true := by
  obtain ⟨h1, h2, h3, h4, h5, h6, h7⟩ := edOk_iff.1 h
  exact edOk_iff.2 ⟨smsOk_set h1 hs ht he, h2, h3, h4, h5, h6, h7⟩
theorem sts_ok {e : Ed} {k : Nat} {s : Sm} (h : edOk e = true) (hs : e.sts[k]? = some s) : SmOkP s :=
  smOk_iff.1 (smsOk_mem (edOk_iff.1 h).sts s (List.mem_of_getElem? hs))
theorem frOk_id {f : Fr} (h : frOk f = true) (hk : f.k ≠ 8) : strm f.s = true := by
  rcases frOk_parts h with ⟨_, h, _⟩ | ⟨_, h, _⟩ | ⟨h, _⟩
  · exact h
  · exact h
  · exact absurd h hk
theorem edHead_ok {e : Ed} {f : Fr} (h : edOk e = true) (hf : strm f.s = true) : edOk (edHead e f) = true := by
  unfold edHead
  dsimp only
  have h0 := edOk_iff.1 h
  obtain ⟨e1, he1⟩ : ∃ e1, (if smAt f.s e.sts = e.sts.length ∧ e.ans = true ∧ (e.sts = [] ∨ lastId e.sts < f.s) then ({ e with sts := e.sts ++ [smNew f.s] } : Ed) else e) = e1 := ⟨_, rfl⟩
  rw [he1]
  have h1 : edOk e1 = true ∧ e1.inn = e.inn ∧ e1.innM = e.innM := by
    rw [← he1]
    split
    · rename_i hc
      refine ⟨edOk_iff.2 ⟨smsOk_append (smNew_ok hf) h0.sts (fun _ => .inl rfl) (fun hn => ?_) (.inl hc.2.1), h0.wait, h0.out, h0.inn, h0.fl, h0.came, h0.len⟩, rfl, rfl⟩
      rcases hc.2.2 with hq | hq
      · exact absurd hq hn
      · exact hq
    · exact ⟨h, rfl, rfl⟩
  obtain ⟨h1, h2, h3⟩ := h1
  cases hs : e1.sts[smAt f.s e1.sts]? with
  | none => exact bad_ok h1
  | some s =>
    dsimp only
    by_cases hc : (hRd e.inn e.innM f.b).2.2 = false ∨ s.heard = true ∨ s.got ≠ [] ∨ (hRd e.inn e.innM f.b).2.1 = []
    · rw [if_pos hc]; exact bad_ok h1
    · rw [if_neg hc]
      have hr : (hRd e.inn e.innM f.b).2.2 = true := by
        cases hq : (hRd e.inn e.innM f.b).2.2 with
        | true => rfl
        | false => exact absurd (.inl hq) hc
      obtain ⟨⟨⟨gs, mx⟩, hd, ok⟩, hR⟩ : ∃ r, hRd e.inn e.innM f.b = r := ⟨_, rfl⟩
      rw [hR] at hr ⊢
      dsimp only at hr ⊢
      subst hr
      obtain ⟨_, _, _, _, q1, q2⟩ := hRd_ok hR
      obtain ⟨k1, k2, k3, k4, k5, k6, k7, k8⟩ := sts_ok h1 hs
      have hs1 : smOk { s with got := hd } = true := smOk_iff.2 ⟨k1, k2, k3, q2, k5, k6, k7, k8⟩
      have h4 := edOk_iff.1 h1
      have h5 : edOk { e1 with inn := gs } = true := edOk_iff.2 ⟨h4.sts, h4.wait, h4.out, by rw [h3]; exact q1, h4.fl, h4.came, h4.len⟩
      refine setSm_ok h5 hs ?_ ?_
      · split
        · exact smDone_ok hs1
        · exact hs1
      · split
        · rw [smDone_id]
        · rfl
theorem flOk_mk {s r : Int} (h0 : 0 ≤ s) (h1 : s ≤ 31) (h2 : 0 ≤ r) (h3 : r ≤ 31) : flOk ⟨s, r⟩ = true := flOk_iff.2 ⟨⟨h0, h1⟩, h2, h3⟩
theorem edData_ok {e : Ed} {f : Fr} (h : edOk e = true) (hw : e.wait.length + 2 ≤ 60) : edOk (edData e f) = true := by
  unfold edData
  dsimp only
  have h0 := edOk_iff.1 h
  cases hs : e.sts[smAt f.s e.sts]? with
  | none => exact bad_ok h
  | some s =>
    dsimp only
    by_cases hc : s.heard = true ∨ s.got = [] ∨ e.fl.r < (f.b.size : Int) ∨ s.fl.r < (f.b.size : Int) ∨ wB (s.text ++ f.b) = false
    · rw [if_pos hc]; exact bad_ok h
    · rw [if_neg hc]
      have c3 : (f.b.size : Int) ≤ e.fl.r := by
        have := fun h => hc (.inr (.inr (.inl h)))
        omega
      have c4 : (f.b.size : Int) ≤ s.fl.r := by
        have := fun h => hc (.inr (.inr (.inr (.inl h))))
        omega
      have c5 : wB (s.text ++ f.b) = true := by
        cases hq : wB (s.text ++ f.b) with
        | true => rfl
        | false => exact absurd (.inr (.inr (.inr (.inr hq)))) hc
      obtain ⟨k1, k2, k3, k4, k5, k6, k7, k8⟩ := sts_ok h hs
      obtain ⟨⟨a0, a1⟩, a2, a3⟩ := flOk_iff.1 h0.fl
      obtain ⟨⟨b0, b1⟩, b2, b3⟩ := flOk_iff.1 k8
      have hs1 : smOk { s with text := s.text ++ f.b, fl := ⟨s.fl.s, s.fl.r - f.b.size⟩ } = true := smOk_iff.2 ⟨k1, k2, k3, k4, k5, c5, k7, flOk_mk b0 b1 (by omega) (by omega)⟩
      have h5 : edOk { e with fl := ⟨e.fl.s, e.fl.r - f.b.size⟩, wait := if 0 < (f.b.size : Int) then e.wait ++ [frMore 0 f.b.size, frMore s.id f.b.size] else e.wait } = true := by
        refine edOk_iff.2 ⟨h0.sts, ?_, h0.out, h0.inn, flOk_mk a0 a1 (by omega) (by omega), h0.came, ?_⟩
        · intro x hx
          dsimp only at hx
          split at hx
          · rename_i hp
            rcases List.mem_append.1 hx with hx | hx
            · exact h0.wait x hx
            · simp at hx
              rcases hx with rfl | rfl
              · exact frMore_ok (.inl rfl) (by omega) (by omega)
              · exact frMore_ok (.inr k1) (by omega) (by omega)
          · exact h0.wait x hx
        · dsimp only
          split
          · simp; omega
          · omega
      refine setSm_ok h5 hs ?_ ?_
      · split
        · exact smDone_ok hs1
        · exact hs1
      · split
        · rw [smDone_id]
        · rfl
theorem edMore_ok {e : Ed} {f : Fr} (h : edOk e = true) (hm : moreB f.b = true) : edOk (edMore e f) = true := by
  unfold edMore
  dsimp only
  have h0 := edOk_iff.1 h
  obtain ⟨_, m1, m2⟩ := moreB_parts hm
  obtain ⟨⟨a0, a1⟩, a2, a3⟩ := flOk_iff.1 h0.fl
  split
  · exact edOk_iff.2 ⟨h0.sts, h0.wait, h0.out, h0.inn, flOk_mk (by omega) (by omega) a2 a3, h0.came, h0.len⟩
  · cases hs : e.sts[smAt f.s e.sts]? with
    | none => exact bad_ok h
    | some s =>
      dsimp only
      obtain ⟨k1, k2, k3, k4, k5, k6, k7, k8⟩ := sts_ok h hs
      obtain ⟨⟨b0, b1⟩, b2, b3⟩ := flOk_iff.1 k8
      have h5 : edOk { e with bad := e.bad || decide (31 < s.fl.s + b0of f.b) } = true := edOk_iff.2 ⟨h0.sts, h0.wait, h0.out, h0.inn, h0.fl, h0.came, h0.len⟩
      exact setSm_ok h5 hs (smOk_iff.2 ⟨k1, k2, k3, k4, k5, k6, k7, flOk_mk (by omega) (by omega) b2 b3⟩) rfl
theorem edReset_ok {e : Ed} {f : Fr} (h : edOk e = true) : edOk (edReset e f) = true := by
  unfold edReset
  split
  · exact bad_ok h
  · cases hs : e.sts[smAt f.s e.sts]? with
    | none => exact bad_ok h
    | some s =>
      dsimp only
      obtain ⟨k1, k2, k3, k4, k5, k6, k7, k8⟩ := sts_ok h hs
      exact setSm_ok h hs (smOk_iff.2 ⟨k1, by show (1 : Int) ≤ 3 ∧ (3 : Int) ≤ 3; decide, k3, k4, k5, k6, k7, k8⟩) rfl
theorem edFrame_ok {e : Ed} {f : Fr} (h : edOk e = true) (hf : frOk f = true) (hw : e.wait.length + 2 ≤ 60) : edOk (edFrame e f) = true := by
  unfold edFrame
  split
  · rename_i hk
    exact edHead_ok h (frOk_id hf (by omega))
  · split
    · exact edData_ok h hw
    · split
      · rename_i hk
        refine edMore_ok h ?_
        rcases frOk_parts hf with ⟨h1, _⟩ | ⟨h1, _⟩ | ⟨_, _, _, h1⟩
        · omega
        · omega
        · exact h1
      · exact edReset_ok h
theorem came_ok {e : Ed} {c : ByteArray} (h : edOk e = true) (hc : c.size ≤ 600) : edOk { e with came := c } = true := by
  obtain ⟨h1, h2, h3, h4, h5, h6, h7⟩ := edOk_iff.1 h
  exact edOk_iff.2 ⟨h1, h2, h3, h4, h5, hc, h7⟩
theorem headC_ok_text {p t : ByteArray} (h : hOk (headC p t) = true) : wB p = true := by
  have h1 := hOk_parts h
  have h2 := h1.1 ⟨nPath, p, false⟩ (by simp [headC])
  unfold fOk at h2
  simp only [Bool.and_eq_true] at h2
  exact h2.2
theorem edCallX_ok {e : Ed} {p t : ByteArray} (h : edOk e = true) : edOk (edCallX e p t).1 = true := by
  unfold edCallX
  split
  · exact h
  · rename_i hc
    have h0 := edOk_iff.1 h
    have ha : e.ans = false := by
      cases hq : e.ans with
      | false => rfl
      | true => exact absurd (.inl hq) hc
    have hl : 2 * (e.sts.length : Int) + 1 ≤ 7 := by
      have := fun h => hc (.inr (.inl h))
      omega
    have hh : hOk (headC p t) = true := by
      cases hq : hOk (headC p t) with
      | true => rfl
      | false => exact absurd (.inr (.inr (.inl hq))) hc
    have ht : wB t = true := by
      cases hq : wB t with
      | true => rfl
      | false => exact absurd (.inr (.inr (.inr hq))) hc
    have hst : strm (2 * (e.sts.length : Int) + 1) = true := by
      unfold strm
      exact decide_eq_true (by omega)
    have hlast : e.sts ≠ [] → lastId e.sts < 2 * (e.sts.length : Int) + 1 := by
      intro hn
      have key : ∀ (l : List Sm) (p : Int) (i : Nat), smsOk false p i l = true → l ≠ [] → lastId l = 2 * ((i + l.length : Nat) : Int) - 1 := by
        intro l
        induction l with
        | nil => intro p i _ hn; exact absurd rfl hn
        | cons a r ih =>
          intro p i hk _
          obtain ⟨q1, q2, q3, q4⟩ := smsOk_cons.1 hk
          cases r with
          | nil =>
            have q3' : a.id = 2 * (i : Int) + 1 := by simpa using q3
            show a.id = _
            simp only [List.length_cons, List.length_nil]
            omega
          | cons b r' =>
            rw [lastId_cons, ih _ _ q4 (by simp)]
            simp only [List.length_cons]
            omega
      have := key e.sts 0 0 (by rw [← ha]; exact h0.sts) hn
      rw [this]
      omega
    refine edOk_iff.2 ⟨smsOk_append ?_ h0.sts (fun _ => .inl rfl) hlast (.inr (by show 2 * (e.sts.length : Int) + 1 = 2 * ((0 + e.sts.length : Nat) : Int) + 1; omega)), h0.wait, h0.out, h0.inn, h0.fl, h0.came, h0.len⟩
    obtain ⟨k1, k2, k3, k4, k5, k6, k7, k8⟩ := smOk_iff.1 (smNew_ok hst)
    exact smOk_iff.2 ⟨k1, k2, hh, k4, ht, k6, ⟨Int.le_refl _, by show (0 : Int) ≤ _; omega⟩, k8⟩
theorem edLeaveX_ok {e : Ed} {id : Int} (h : edOk e = true) (hw : e.wait.length + 1 ≤ 60) : edOk (edLeaveX e id).1 = true := by
  unfold edLeaveX
  have h0 := edOk_iff.1 h
  split
  · exact h
  · cases hs : e.sts[smAt id e.sts]? with
    | none => exact h
    | some s =>
      dsimp only
      split
      · obtain ⟨k1, k2, k3, k4, k5, k6, k7, k8⟩ := sts_ok h hs
        have hid := smAt_get hs
        have h5 : edOk (if s.begun then ({ e with wait := e.wait ++ [frReset id] } : Ed) else e) = true := by
          split
          · refine edOk_iff.2 ⟨h0.sts, ?_, h0.out, h0.inn, h0.fl, h0.came, by simp; omega⟩
            intro x hx
            rcases List.mem_append.1 hx with hx | hx
            · exact h0.wait x hx
            · simp at hx
              subst hx
              exact frReset_ok (by rw [← hid]; exact k1)
          · exact h
        refine setSm_ok (s := s) h5 ?_ (smOk_iff.2 ⟨k1, by show (1 : Int) ≤ 3 ∧ (3 : Int) ≤ 3; decide, k3, k4, k5, k6, k7, k8⟩) rfl
        split <;> exact hs
      · exact h
end Go.Proofs.Ytdnajdobmlgmiaa

namespace Go.Proofs.Ytdnajdobmlgmiaa
open Go.RowKit
set_option linter.unusedVariables false

theorem b0of_pos (b : ByteArray) : 0 ≤ b0of b := (b0of_bd b).1
theorem edRoom_ok {e : Ed} {f : Fr} (h : edOk e = true) : edOk (edRoom e f) = true := by
  unfold edRoom
  have h0 := edOk_iff.1 h
  obtain ⟨⟨a0, a1⟩, a2, a3⟩ := flOk_iff.1 h0.fl
  have hb := b0of_pos f.b
  split
  · exact h
  · split
    · exact edOk_iff.2 ⟨h0.sts, h0.wait, h0.out, h0.inn, flOk_mk a0 a1 (by omega) (by omega), h0.came, h0.len⟩
    · cases hs : e.sts[smAt f.s e.sts]? with
      | none => exact h
      | some s =>
        dsimp only
        obtain ⟨k1, k2, k3, k4, k5, k6, k7, k8⟩ := sts_ok h hs
        obtain ⟨⟨b0, b1⟩, b2, b3⟩ := flOk_iff.1 k8
        exact setSm_ok h hs (smOk_iff.2 ⟨k1, k2, k3, k4, k5, k6, k7, flOk_mk b0 b1 (by omega) (by omega)⟩) rfl
theorem edRooms_ok {l : List Fr} : ∀ {e : Ed}, edOk e = true → edOk (edRooms e l) = true := by
  unfold edRooms
  induction l with
  | nil => intro e h; exact h
  | cons f r ih => intro e h; rw [List.foldl_cons]; exact ih (edRoom_ok h)
theorem saidH_ok {e : Ed} {s : Sm} (h : edOk e = true) (hs : smOk s = true) : edOk (saidH e s).1 = true ∧ smOk (saidH e s).2.1 = true ∧ (saidH e s).1.sts = e.sts ∧ (saidH e s).2.1.id = s.id ∧ (saidH e s).1.fl = e.fl ∧ (saidH e s).1.wait = e.wait ∧ (saidH e s).2.1.fl = s.fl ∧ (saidH e s).2.1.sent = s.sent ∧ (saidH e s).2.1.say = s.say ∧ (saidH e s).1.ans = e.ans := by
  have h0 := edOk_iff.1 h
  obtain ⟨k1, k2, k3, k4, k5, k6, k7, k8⟩ := smOk_iff.1 hs
  unfold saidH
  split
  · exact ⟨h, hs, rfl, rfl, rfl, rfl, rfl, rfl, rfl, rfl⟩
  · have hh := hOk_parts k3
    have ht := wrH_ok s.head e.out h0.out hh.1
    exact ⟨edOk_iff.2 ⟨h0.sts, h0.wait, ht, h0.inn, h0.fl, h0.came, h0.len⟩, smOk_iff.2 ⟨k1, k2, k3, k4, k5, k6, k7, k8⟩, rfl, rfl, rfl, rfl, rfl, rfl, rfl, rfl⟩
theorem saidT_ok {e : Ed} {s : Sm} (h : edOk e = true) (hs : smOk s = true) : edOk (saidT e s).1 = true ∧ smOk (saidT e s).2.1 = true ∧ (saidT e s).1.sts = e.sts ∧ (saidT e s).2.1.id = s.id ∧ (saidT e s).1.wait = e.wait ∧ (saidT e s).1.ans = e.ans := by
  have h0 := edOk_iff.1 h
  obtain ⟨k1, k2, k3, k4, k5, k6, k7, k8⟩ := smOk_iff.1 hs
  obtain ⟨⟨a0, a1⟩, a2, a3⟩ := flOk_iff.1 h0.fl
  obtain ⟨⟨b0, b1⟩, b2, b3⟩ := flOk_iff.1 k8
  unfold saidT
  dsimp only
  have m1 : min ((s.say.size : Int) - s.sent) (min s.fl.s e.fl.s) ≤ s.say.size - s.sent := Int.min_le_left _ _
  have m2 : min ((s.say.size : Int) - s.sent) (min s.fl.s e.fl.s) ≤ min s.fl.s e.fl.s := Int.min_le_right _ _
  have m3 : min s.fl.s e.fl.s ≤ s.fl.s := Int.min_le_left _ _
  have m4 : min s.fl.s e.fl.s ≤ e.fl.s := Int.min_le_right _ _
  generalize min ((s.say.size : Int) - s.sent) (min s.fl.s e.fl.s) = n at m1 m2 ⊢
  split
  · exact ⟨edOk_iff.2 ⟨h0.sts, h0.wait, h0.out, h0.inn, flOk_mk (by omega) (by omega) a2 a3, h0.came, h0.len⟩, smOk_iff.2 ⟨k1, k2, k3, k4, k5, k6, by show 0 ≤ s.sent + n ∧ s.sent + n ≤ (s.say.size : Int); omega, flOk_mk (by omega) (by omega) b2 b3⟩, rfl, rfl, rfl, rfl⟩
  · exact ⟨h, hs, rfl, rfl, rfl, rfl⟩
theorem saidD_ok {a : Bool} {s : Sm} (hs : smOk s = true) : smOk (saidD a s) = true ∧ (saidD a s).id = s.id := by
  obtain ⟨k1, k2, k3, k4, k5, k6, k7, k8⟩ := smOk_iff.1 hs
  unfold saidD
  split
  · exact ⟨smOk_iff.2 ⟨k1, by show (1 : Int) ≤ 2 ∧ (2 : Int) ≤ 3; decide, k3, k4, k5, k6, k7, k8⟩, rfl⟩
  · exact ⟨hs, rfl⟩
theorem edSay_ok {e : Ed} {k : Nat} (h : edOk e = true) : edOk (edSay e k).1 = true ∧ (edSay e k).1.sts.length = e.sts.length ∧ (edSay e k).1.wait = e.wait := by
  unfold edSay
  cases hs : e.sts[k]? with
  | none => exact ⟨h, rfl, rfl⟩
  | some s =>
    dsimp only
    split
    · exact ⟨h, rfl, rfl⟩
    · have k0 := smOk_iff.2 (sts_ok h hs)
      obtain ⟨p1, p2, p3, p4, p5, p6, p7, _⟩ := saidH_ok h k0
      obtain ⟨q1, q2, q3, q4, q5, q6⟩ := saidT_ok p1 p2
      obtain ⟨r1, r2⟩ := saidD_ok (a := e.ans) q2
      refine ⟨setSm_ok (s := s) q1 (by rw [q3, p3]; exact hs) r1 (by rw [r2, q4, p4]), by rw [setSm_length, q3, p3], by show (saidT _ _).1.wait = _; rw [q5, p6]⟩
theorem edSays_ok : ∀ {n k : Nat} {e : Ed}, edOk e = true → edOk (edSays n e k).1 = true ∧ (edSays n e k).1.sts.length = e.sts.length ∧ (edSays n e k).1.wait = e.wait
  | 0, _, _, h => ⟨h, rfl, rfl⟩
  | n + 1, k, e, h => by
    obtain ⟨h1, h2, h3⟩ := edSay_ok (k := k) h
    obtain ⟨h4, h5, h6⟩ := edSays_ok (n := n) (k := k + 1) h1
    exact ⟨h4, by rw [← h2]; exact h5, by rw [← h3]; exact h6⟩
theorem edWriteX_ok {e : Ed} (h : edOk e = true) : edOk (edWriteX e).1 = true ∧ (edWriteX e).1.sts.length = e.sts.length ∧ (edWriteX e).1.wait = [] := by
  have h1 := edRooms_ok (l := e.wait) h
  have h2 := edOk_iff.1 h1
  have h3 : edOk { edRooms e e.wait with wait := [] } = true := edOk_iff.2 ⟨h2.sts, by simp, h2.out, h2.inn, h2.fl, h2.came, by simp⟩
  obtain ⟨h4, h5, h6⟩ := edSays_ok (n := e.sts.length) (k := 0) h3
  refine ⟨h4, ?_, h6⟩
  show (edSays _ _ _).1.sts.length = _
  rw [h5]
  exact edRooms_length e e.wait
/-- An end whose heads are short: each is at most three fields. -/
def shortH (e : Ed) : Prop := ∀ s ∈ e.sts, s.head.length ≤ 3
theorem saidH_frames {e : Ed} {s : Sm} (h : edOk e = true) (hs : smOk s = true) (hl : s.head.length ≤ 3) : ∀ f ∈ (saidH e s).2.2, frOk f = true := by
  obtain ⟨k1, k2, k3, k4, k5, k6, k7, k8⟩ := smOk_iff.1 hs
  intro f hf
  unfold saidH at hf
  split at hf
  · simp at hf
  · simp at hf
    subst hf
    rw [frOk_01 (.inr rfl), k1]
    have := wrH_size s.head e.out e.outM
    simp
    omega
theorem saidT_frames {e : Ed} {s : Sm} (h : edOk e = true) (hs : smOk s = true) : ∀ f ∈ (saidT e s).2.2, frOk f = true := by
  have h0 := edOk_iff.1 h
  obtain ⟨k1, k2, k3, k4, k5, k6, k7, k8⟩ := smOk_iff.1 hs
  obtain ⟨⟨a0, a1⟩, a2, a3⟩ := flOk_iff.1 h0.fl
  intro f hf
  unfold saidT at hf
  dsimp only at hf
  split at hf
  · simp at hf
    subst hf
    rw [frOk_01 (.inl rfl), k1]
    simp only [Bool.true_and, decide_eq_true_eq, ByteArray.size_extract]
    omega
  · simp at hf
end Go.Proofs.Ytdnajdobmlgmiaa

namespace Go.Proofs.Ytdnajdobmlgmiaa
open Go.RowKit
set_option linter.unusedVariables false

theorem shortH_set {e : Ed} {k : Nat} {t : Sm} (h : shortH e) (ht : t.head.length ≤ 3) : shortH (setSm e k t) := by
  intro s hs
  have hs' : s ∈ e.sts.set k t := hs
  rcases List.mem_or_eq_of_mem_set hs' with hs' | rfl
  · exact h s hs'
  · exact ht
theorem saidH_head (e : Ed) (s : Sm) : (saidH e s).2.1.head = s.head ∧ (saidH e s).1.sts = e.sts := by
  unfold saidH
  split <;> exact ⟨rfl, rfl⟩
theorem saidT_head (e : Ed) (s : Sm) : (saidT e s).2.1.head = s.head ∧ (saidT e s).1.sts = e.sts := by
  unfold saidT
  dsimp only
  split <;> exact ⟨rfl, rfl⟩
theorem saidD_head (a : Bool) (s : Sm) : (saidD a s).head = s.head := by
  unfold saidD
  split <;> rfl
theorem edSay_short {e : Ed} {k : Nat} (h : shortH e) : shortH (edSay e k).1 := by
  unfold edSay
  cases hs : e.sts[k]? with
  | none => exact h
  | some s =>
    dsimp only
    split
    · exact h
    · refine shortH_set ?_ ?_
      · intro x hx
        rw [(saidT_head _ _).2, (saidH_head _ _).2] at hx
        exact h x hx
      · rw [saidD_head, (saidT_head _ _).1, (saidH_head _ _).1]
        exact h s (List.mem_of_getElem? hs)
theorem edSay_frames {e : Ed} {k : Nat} (h : edOk e = true) (hh : shortH e) : ∀ f ∈ (edSay e k).2, frOk f = true := by
  unfold edSay
  cases hs : e.sts[k]? with
  | none => intro f hf; cases hf
  | some s =>
    dsimp only
    split
    · intro f hf; cases hf
    · have k0 := smOk_iff.2 (sts_ok h hs)
      obtain ⟨p1, p2, _⟩ := saidH_ok h k0
      intro f hf
      rcases List.mem_append.1 hf with hf | hf
      · exact saidH_frames h k0 (hh s (List.mem_of_getElem? hs)) f hf
      · exact saidT_frames p1 p2 f hf
theorem edSays_frames : ∀ {n k : Nat} {e : Ed}, edOk e = true → shortH e → ∀ f ∈ (edSays n e k).2, frOk f = true
  | 0, _, _, _, _, f, hf => by cases hf
  | n + 1, k, e, h, hh, f, hf => by
    rcases List.mem_append.1 hf with hf | hf
    · exact edSay_frames h hh f hf
    · exact edSays_frames (edSay_ok h).1 (edSay_short hh) f hf
theorem edRoom_short {e : Ed} {f : Fr} (h : shortH e) : shortH (edRoom e f) := by
  unfold edRoom
  split
  · exact h
  · split
    · exact h
    · cases hs : e.sts[smAt f.s e.sts]? with
      | none => exact h
      | some s => exact shortH_set h (h s (List.mem_of_getElem? hs))
theorem edRooms_short {l : List Fr} : ∀ {e : Ed}, shortH e → shortH (edRooms e l) := by
  unfold edRooms
  induction l with
  | nil => intro e h; exact h
  | cons f r ih => intro e h; rw [List.foldl_cons]; exact ih (edRoom_short h)
theorem edWriteX_frames {e : Ed} (h : edOk e = true) (hh : shortH e) : ∀ f ∈ (edWriteX e).2, frOk f = true := by
  intro f hf
  have h0 := edOk_iff.1 h
  have h2 := edOk_iff.1 (edRooms_ok (l := e.wait) h)
  have h3 : edOk { edRooms e e.wait with wait := [] } = true := edOk_iff.2 ⟨h2.sts, by simp, h2.out, h2.inn, h2.fl, h2.came, by simp⟩
  rcases List.mem_append.1 hf with hf | hf
  · exact h0.wait f hf
  · exact edSays_frames h3 (edRooms_short hh) f hf
/-- Frames that are ok, in bytes: the first is read, and then the others. -/
theorem frsB_read {f : Fr} {l : List Fr} (h : frOk f = true) (t : ByteArray) : frRd (frsB (f :: l) ++ t) = (f, 4 + (f.b.size : Int), 1) := by
  show frRd ((frB f ++ frsB l) ++ t) = _
  rw [ByteArray.append_assoc]
  exact frRd_back h _
theorem frB_drop {f : Fr} (s : ByteArray) : (frB f ++ s).extract (4 + f.b.size) (frB f ++ s).size = s := by
  have := ext_right (frB f) s
  rw [frB_size] at this
  rw [ByteArray.size_append, frB_size]
  exact this
theorem frsB_size (l : List Fr) : 4 * l.length ≤ (frsB l).size := by
  induction l with
  | nil => simp
  | cons f r ih =>
    show _ ≤ (frB f ++ frsB r).size
    rw [ByteArray.size_append, frB_size, List.length_cons]
    omega
end Go.Proofs.Ytdnajdobmlgmiaa

namespace Go.Proofs.Ytdnajdobmlgmiaa
open Go.RowKit
set_option linter.unusedVariables false

/-- What waits, and twice the room: no frame makes it more. -/
def pot (e : Ed) : Int := e.wait.length + 2 * e.fl.r
theorem edHead_pot (e : Ed) (f : Fr) : (edHead e f).wait = e.wait ∧ (edHead e f).fl = e.fl ∧ (edHead e f).ans = e.ans := by
  unfold edHead
  dsimp only
  obtain ⟨e1, he1⟩ : ∃ e1, (if smAt f.s e.sts = e.sts.length ∧ e.ans = true ∧ (e.sts = [] ∨ lastId e.sts < f.s) then ({ e with sts := e.sts ++ [smNew f.s] } : Ed) else e) = e1 := ⟨_, rfl⟩
  rw [he1]
  have h1 : e1.wait = e.wait ∧ e1.fl = e.fl ∧ e1.ans = e.ans := by
    rw [← he1]
    split <;> exact ⟨rfl, rfl, rfl⟩
  cases e1.sts[smAt f.s e1.sts]? with
  | none => exact h1
  | some s =>
    dsimp only
    split
    · exact h1
    · exact h1
theorem edData_pot (e : Ed) (f : Fr) : pot (edData e f) ≤ pot e ∧ (edData e f).ans = e.ans := by
  unfold edData pot
  dsimp only
  cases e.sts[smAt f.s e.sts]? with
  | none => exact ⟨Int.le_refl _, rfl⟩
  | some s =>
    dsimp only
    split
    · exact ⟨Int.le_refl _, rfl⟩
    · refine ⟨?_, rfl⟩
      show (((if 0 < (f.b.size : Int) then e.wait ++ [frMore 0 f.b.size, frMore s.id f.b.size] else e.wait).length : Nat) : Int) + 2 * (e.fl.r - f.b.size) ≤ _
      split
      · simp only [List.length_append, List.length_cons, List.length_nil]
        omega
      · omega
theorem edMore_pot (e : Ed) (f : Fr) : (edMore e f).wait = e.wait ∧ (edMore e f).fl.r = e.fl.r ∧ (edMore e f).ans = e.ans := by
  unfold edMore
  dsimp only
  split
  · exact ⟨rfl, rfl, rfl⟩
  · cases e.sts[smAt f.s e.sts]? with
    | none => exact ⟨rfl, rfl, rfl⟩
    | some s => exact ⟨rfl, rfl, rfl⟩
theorem edReset_pot (e : Ed) (f : Fr) : (edReset e f).wait = e.wait ∧ (edReset e f).fl = e.fl ∧ (edReset e f).ans = e.ans := by
  unfold edReset
  split
  · exact ⟨rfl, rfl, rfl⟩
  · cases e.sts[smAt f.s e.sts]? with
    | none => exact ⟨rfl, rfl, rfl⟩
    | some s => exact ⟨rfl, rfl, rfl⟩
theorem edFrame_pot (e : Ed) (f : Fr) : pot (edFrame e f) ≤ pot e ∧ (edFrame e f).ans = e.ans := by
  unfold edFrame
  split
  · obtain ⟨h1, h2, h3⟩ := edHead_pot e f
    unfold pot
    rw [h1, h2]
    exact ⟨Int.le_refl _, h3⟩
  · split
    · exact edData_pot e f
    · split
      · obtain ⟨h1, h2, h3⟩ := edMore_pot e f
        unfold pot
        rw [h1, h2]
        exact ⟨Int.le_refl _, h3⟩
      · obtain ⟨h1, h2, h3⟩ := edReset_pot e f
        unfold pot
        rw [h1, h2]
        exact ⟨Int.le_refl _, h3⟩
theorem wait_pot {e : Ed} (h : edOk e = true) : (e.wait.length : Int) ≤ pot e := by
  obtain ⟨_, h2, _⟩ := flOk_iff.1 (edOk_iff.1 h).fl
  unfold pot
  omega
/-- What hears stays ok. -/
theorem edLoop_ok : ∀ (n : Nat) (e : Ed), edOk e = true → pot e ≤ 58 → edOk (edLoop n e) = true ∧ pot (edLoop n e) ≤ pot e ∧ (edLoop n e).ans = e.ans ∧ (edLoop n e).came.size ≤ e.came.size
  | 0, e, h, _ => ⟨h, Int.le_refl _, rfl, Nat.le_refl _⟩
  | n + 1, e, h, hp => by
    unfold edLoop
    split
    · exact ⟨h, Int.le_refl _, rfl, Nat.le_refl _⟩
    · split
      · exact ⟨bad_ok h, Int.le_refl _, rfl, Nat.le_refl _⟩
      · split
        · exact ⟨h, Int.le_refl _, rfl, Nat.le_refl _⟩
        · rename_i h1 h2 h3
          have h4 : (frRd e.came).2.2 = 1 := by
            rcases frRd_cases e.came with h | h | h
            · exact h
            · rw [h] at h3; exact absurd rfl h3
            · rw [h] at h2; exact absurd (by decide) h2
          obtain ⟨hf, hu, hz, _⟩ := frRd_one h4
          have hw := wait_pot h
          have hc : (e.came.extract (frRd e.came).2.1.toNat e.came.size).size ≤ e.came.size := by rw [ByteArray.size_extract]; omega
          have h5 : edOk { e with came := e.came.extract (frRd e.came).2.1.toNat e.came.size } = true := came_ok h (by have := (edOk_iff.1 h).came; omega)
          have h6 := edFrame_ok h5 hf (by show e.wait.length + 2 ≤ 60; omega)
          obtain ⟨h7, h8⟩ := edFrame_pot { e with came := e.came.extract (frRd e.came).2.1.toNat e.came.size } (frRd e.came).1
          have h7' : pot (edFrame { e with came := e.came.extract (frRd e.came).2.1.toNat e.came.size } (frRd e.came).1) ≤ pot e := h7
          obtain ⟨i1, i2, i3, i4⟩ := edLoop_ok n _ h6 (by omega)
          refine ⟨i1, by omega, by rw [i3, h8], ?_⟩
          rw [edFrame_came] at i4
          exact Nat.le_trans i4 hc
theorem edHearX_ok {e : Ed} {b : ByteArray} (h : edOk e = true) (hp : pot e ≤ 58) (hb : e.came.size + b.size ≤ 600) : edOk (edHearX e b) = true ∧ pot (edHearX e b) ≤ pot e ∧ (edHearX e b).ans = e.ans ∧ (edHearX e b).came.size ≤ e.came.size + b.size := by
  have h1 : edOk { e with came := e.came ++ b } = true := came_ok h (by rw [ByteArray.size_append]; omega)
  obtain ⟨i1, i2, i3, i4⟩ := edLoop_ok (e.came.size + b.size + 1) _ h1 hp
  exact ⟨i1, i2, i3, by rw [show ({ e with came := e.came ++ b } : Ed).came = e.came ++ b from rfl, ByteArray.size_append] at i4; exact i4⟩
theorem edHearX_bad {e : Ed} {b : ByteArray} (h : e.bad = true) : (edHearX e b).bad = true := by
  unfold edHearX edLoop
  rw [if_pos (show ({ e with came := e.came ++ b } : Ed).bad = true from h)]
  exact h
/-- In parts it is heard as at once. -/
theorem edHear_parts {e : Ed} {a b : ByteArray} (h : edOk e = true) (hp : pot e ≤ 40) (hz : e.came.size + a.size + b.size ≤ 300) :
    (edHear e (a ++ b)).bad = true ∧ (edHear (edHear e a) b).bad = true ∨ (edHear e (a ++ b)).bad = false ∧ edHear (edHear e a) b = edHear e (a ++ b) := by
  have hw := wait_pot h
  have hab : (a ++ b).size = a.size + b.size := ByteArray.size_append
  by_cases hbad : e.bad = true
  · have e1 : edHear e (a ++ b) = e := by unfold edHear; rw [if_pos ⟨h, by omega⟩, if_pos (.inl hbad)]
    have e2 : edHear e a = e := by unfold edHear; rw [if_pos ⟨h, by omega⟩, if_pos (.inl hbad)]
    have e3 : edHear e b = e := by unfold edHear; rw [if_pos ⟨h, by omega⟩, if_pos (.inl hbad)]
    rw [e1, e2, e3]
    exact .inl ⟨hbad, hbad⟩
  · have e1 : edHear e (a ++ b) = edHearX e (a ++ b) := by
      unfold edHear
      rw [if_pos ⟨h, by omega⟩, if_neg (by rintro (q | q | q); exact hbad q; omega; omega)]
    have e2 : edHear e a = edHearX e a := by
      unfold edHear
      rw [if_pos ⟨h, by omega⟩, if_neg (by rintro (q | q | q); exact hbad q; omega; omega)]
    obtain ⟨i1, i2, i3, i4⟩ := edHearX_ok (b := a) h (by omega) (by omega)
    have hw2 := wait_pot i1
    have hparts := edLoop_parts (e.came.size + a.size + 1) { e with came := e.came ++ a } b (e.came.size + (a ++ b).size + 1) (by show (e.came ++ a).size < _; rw [ByteArray.size_append]; omega) (by show (e.came ++ a).size + b.size < _; rw [ByteArray.size_append, hab]; omega)
    have e5 : edHearX e (a ++ b) = edLoop (e.came.size + (a ++ b).size + 1) { ({ e with came := e.came ++ a } : Ed) with came := ({ e with came := e.came ++ a } : Ed).came ++ b } := by
      unfold edHearX
      show edLoop _ { e with came := e.came ++ (a ++ b) } = edLoop _ { e with came := (e.came ++ a) ++ b }
      rw [ByteArray.append_assoc]
    rw [e1, e2]
    rw [← e5] at hparts
    have e6 : edLoop (e.came.size + a.size + 1) { e with came := e.came ++ a } = edHearX e a := rfl
    rw [e6] at hparts
    rcases hparts with ⟨p1, p2⟩ | ⟨p1, p2, p3⟩
    · left
      refine ⟨p2, ?_⟩
      unfold edHear
      rw [if_pos ⟨i1, by omega⟩, if_pos (.inl p1)]
      exact p1
    · have e7 : edHear (edHearX e a) b = edHearX (edHearX e a) b := by
        unfold edHear
        rw [if_pos ⟨i1, by omega⟩, if_neg (by rintro (q | q | q); rw [p1] at q; cases q; omega; omega)]
      have e8 : edHearX (edHearX e a) b = edHearX e (a ++ b) := by
        rw [p3]
        show edLoop _ _ = edLoop _ _
        refine edLoop_fuel _ _ ?_ _ ?_
        · show ((edHearX e a).came ++ b).size < _
          rw [ByteArray.size_append]
          omega
        · show ((edHearX e a).came ++ b).size < _
          rw [ByteArray.size_append, hab]
          omega
      rw [e7, e8]
      cases hq : (edHearX e (a ++ b)).bad with
      | true => exact .inl ⟨rfl, rfl⟩
      | false => exact .inr ⟨rfl, rfl⟩
end Go.Proofs.Ytdnajdobmlgmiaa

namespace Go.Proofs.Ytdnajdobmlgmiaa
open Go.RowKit
set_option linter.unusedVariables false

/-- Letter by letter an answer is one. -/
theorem upB_append (a b : ByteArray) : upB (a ++ b) = upB a ++ upB b := by
  unfold upB upL
  rw [bytesL_append, List.map_append, strOfNums_append]
theorem decF_size : ∀ (k n : Nat), n ≤ k → ((decF k n).length = 1 ↔ n < 10)
  | 0, n, h => by
    have : n = 0 := by omega
    subst this
    exact ⟨fun _ => by omega, fun _ => rfl⟩
  | k + 1, n, h => by
    unfold decF
    split
    · exact ⟨fun _ => by omega, fun _ => rfl⟩
    · rename_i hn
      rw [List.length_append]
      have hpos : 0 < (decF k (n / 10)).length := by
        have key : ∀ (k n : Nat), 0 < (decF k n).length := by
          intro k
          induction k with
          | zero => intro n; exact Nat.zero_lt_one
          | succ k ih =>
            intro n
            unfold decF
            split
            · exact Nat.zero_lt_one
            · rw [List.length_append]; have := ih (n / 10); omega
        exact key _ _
      constructor
      · intro h; rw [List.length_cons, List.length_nil] at h; omega
      · intro h; omega
theorem decB_size (n : Nat) : (decB n).size = 1 ↔ n < 10 := by
  unfold decB
  rw [strOfNums_size]
  exact decF_size n n (Nat.le_refl _)
/-- More rounds than needed do not matter. -/
theorem decF_fuel : ∀ (k m n : Nat), n ≤ k → n ≤ m → decF k n = decF m n
  | 0, 0, _, _, _ => rfl
  | 0, m + 1, n, h, _ => by
    have : n = 0 := by omega
    subst this
    rfl
  | k + 1, 0, n, _, h => by
    have : n = 0 := by omega
    subst this
    rfl
  | k + 1, m + 1, n, h1, h2 => by
    unfold decF
    split
    · rfl
    · rw [decF_fuel k m (n / 10) (by omega) (by omega)]
theorem decB_step {n : Nat} (h : ¬ n < 10) : decB n = decB (n / 10) ++ strOfNums [48 + ((n % 10 : Nat) : Int)] := by
  unfold decB
  rw [strOfNums_append]
  congr 1
  cases n with
  | zero => omega
  | succ k =>
    conv => lhs; unfold decF
    rw [if_neg h, decF_fuel k ((k + 1) / 10) ((k + 1) / 10) (by omega) (Nat.le_refl _)]
theorem decB_one {n : Nat} (h : n < 10) : decB n = strOfNums [48 + (n : Int)] := by
  unfold decB
  cases n with
  | zero => rfl
  | succ k =>
    unfold decF
    rw [if_pos h]
end Go.Proofs.Ytdnajdobmlgmiaa
