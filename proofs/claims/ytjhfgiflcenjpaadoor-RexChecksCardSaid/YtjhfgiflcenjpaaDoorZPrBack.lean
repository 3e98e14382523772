import Derived.Test.YtjhfgiflcenjpaaDoorZPByte
import Derived.Test.YtjhfgiflcenjpaaDoorZRange
import Derived.Test.YtjhfgiflcenjpaaDoorZRxText
namespace Go.Proofs.YtjhfgiflcenjpaaDoor
open Go.RowKit

/-- What a hexadecimal digit stands for; 16: it is none. -/
def hv (c : Nat) : Nat := if 48 ≤ c ∧ c ≤ 57 then c - 48 else if 97 ≤ c ∧ c ≤ 102 then c - 87 else 16
theorem hv_hexd : ∀ d, d < 16 → hv (hexd d) = d := by decide
theorem hexd_hv (c : Nat) (h : hv c < 16) : hexd (hv c) = c := by
  unfold hv at h ⊢
  unfold hexd
  repeat' split at h
  all_goals (repeat' split) <;> omega
/-- Nothing was read. -/
def rdNo : Nat × Nat × Bool := (0, 0, false)
/-- What is read behind a backslash and x. -/
def rdX : List Nat → Nat × Nat × Bool
  | x :: y :: _ => if hv x < 16 ∧ hv y < 16 then (16 * hv x + hv y, 4, true) else rdNo
  | _ => rdNo
/-- What is read behind a backslash. -/
def rdB : List Nat → Nat × Nat × Bool
  | [] => rdNo
  | d :: u => if d = 110 then (10, 2, true) else if d = 116 then (9, 2, true) else if d = 114 then (13, 2, true) else if d = 120 then rdX u
      else if isPrint d && !isWord d then (d, 2, true) else rdNo
/-- What is read at the head of a text. -/
def rd : List Nat → Nat × Nat × Bool
  | [] => rdNo
  | c :: t => if c = 92 then rdB t else (c, 1, true)
/-- .. as a value. -/
def rdV (r : Nat × Nat × Bool) : Value := .tuple #[.int .u8 ((r.1 : Nat) : Int), .int .i64 ((r.2.1 : Nat) : Int), .bool r.2.2]

theorem rdV_mk (a b : Nat) (o : Bool) : rdV (a, b, o) = .tuple #[.int .u8 ((a : Nat) : Int), .int .i64 ((b : Nat) : Int), .bool o] := rfl
theorem hv_lt (c : Nat) : hv c ≤ 16 := by
  unfold hv
  repeat' split
  all_goals omega
theorem rdX_lt (l : List Nat) : (rdX l).1 < 256 ∧ (rdX l).2.1 ≤ 4 ∧ ((rdX l).2.2 = true → (rdX l).2.1 = 4 ∧ 2 ≤ l.length) := by
  unfold rdX
  split
  · split
    · refine ⟨?_, by simp, by simp⟩
      simp; omega
    · simp [rdNo]
  · simp [rdNo]
theorem rdB_lt (l : List Nat) : (rdB l).1 < 256 ∧ ((rdB l).2.2 = true → 2 ≤ (rdB l).2.1 ∧ (rdB l).2.1 ≤ l.length + 1) := by
  unfold rdB
  split
  · simp [rdNo]
  · rename_i d u
    have h := rdX_lt u
    repeat' split
    all_goals first
      | simp [rdNo]; done
      | (refine ⟨h.1, fun e => ?_⟩
         have := h.2.2 e
         simp; omega)
      | (rename_i hd
         simp [isPrint] at hd ⊢
         omega)
theorem rd_lt (l : List Nat) (hl : ∀ n ∈ l, n < 256) : (rd l).1 < 256 ∧ ((rd l).2.2 = true → 1 ≤ (rd l).2.1 ∧ (rd l).2.1 ≤ l.length) := by
  unfold rd
  split
  · simp [rdNo]
  · rename_i c t
    split
    · have h := rdB_lt t
      refine ⟨h.1, fun e => ?_⟩
      have := h.2 e
      simp; omega
    · simp
      exact hl c (by simp)
theorem isPrint_sign (c : Nat) (h : isPrint c = true) (h' : isWord c = false) : rdB [c] = (c, 2, true) := by
  unfold rdB
  have : c ≠ 110 ∧ c ≠ 116 ∧ c ≠ 114 ∧ c ≠ 120 := by
    refine ⟨?_, ?_, ?_, ?_⟩ <;> (rintro rfl; revert h'; decide)
  simp [this, h, h']
/-- A byte's text is read as it. -/
theorem rd_byteT (c : Nat) (hc : c < 256) (o : Bool) (ho : o = true → isPrint c = true ∧ isWord c = false) (r : List Nat) : rd (byteT c o ++ r) = (c, (byteT c o).length, true) := by
  unfold byteT
  by_cases h1 : c = 10
  · subst h1; rfl
  by_cases h2 : c = 9
  · subst h2; rfl
  by_cases h3 : c = 13
  · subst h3; rfl
  rw [if_neg h1, if_neg h2, if_neg h3]
  by_cases h4 : c < 32 ∨ 126 < c
  · rw [if_pos h4]
    have e1 := hv_hexd (c / 16) (by omega)
    have e2 := hv_hexd (c % 16) (by omega)
    have hm : c / 16 < 16 ∧ c % 16 < 16 := ⟨by omega, by omega⟩
    simp [rd, rdB, rdX, e1, e2, hm]
    omega
  · rw [if_neg h4]
    by_cases h5 : c = 92 ∨ o = true
    · rw [if_pos h5]
      have hp : isPrint c = true ∧ isWord c = false := by
        rcases h5 with h5 | h5
        · subst h5; decide
        · exact ho h5
      have hx : c ≠ 110 ∧ c ≠ 116 ∧ c ≠ 114 ∧ c ≠ 120 := by
        refine ⟨?_, ?_, ?_, ?_⟩ <;> (rintro rfl; revert hp; decide)
      simp [rd, rdB, hx, hp]
    · rw [if_neg h5]
      have : c ≠ 92 := fun e => h5 (Or.inl e)
      simp [rd, this]

/-- A text's numbers from place k on. -/
theorem nums_at (s : ByteArray) (k : Nat) (h : k < s.size) : (numsOf s).drop k = s[k].toNat :: (numsOf s).drop (k + 1) := by
  have hl : k < (numsOf s).length := by simpa [numsOf] using h
  rw [List.drop_eq_getElem_cons hl]
  simp [numsOf]
  rfl
theorem nums_size (s : ByteArray) : (numsOf s).length = s.size := by simp [numsOf]
theorem nums_end (s : ByteArray) (k : Nat) (h : s.size ≤ k) : (numsOf s).drop k = [] := List.drop_eq_nil_of_le (by rw [nums_size]; exact h)
theorem nums_from (s : ByteArray) (a : Nat) : numsOf (s.extract a s.size) = (numsOf s).drop a := by
  unfold numsOf
  rw [Lib.extract_to_end, List.map_drop]
end Go.Proofs.YtjhfgiflcenjpaaDoor

namespace Go.Proofs.YtjhfgiflcenjpaaDoor
open Go.RowKit

/-- What a parser has and what is left. -/
abbrev PSt := List Pc × List Nat
def emp : Nat → Bool := fun _ => false
/-- One certain byte. -/
def skipT (c : Nat) : List Nat → Option (List Nat)
  | [] => none
  | x :: r => if x = c then some r else none
/-- A byte that is none of some, unless a backslash is ahead of it. -/
def prRead (sp : ByteArray) (s : List Nat) : Option (Nat × List Nat) :=
  if (rd s).2.2 = true ∧ ¬((rd s).2.1 = 1 ∧ inB sp (rd s).1 = true) then some ((rd s).1, s.drop (rd s).2.1) else none
/-- A byte of a set, or two with - between them. -/
def prSpan (s : List Nat) : Option (Nat × Nat × List Nat) :=
  match prRead insS s with
  | none => none
  | some (a, r) => match skipT 45 r with
    | none => some (a, a, r)
    | some r1 => match prRead insS r1 with
      | none => none
      | some (c, r2) => if a ≤ c then some (a, c, r2) else none
/-- Spans up to a closing bracket. -/
def prSpans : Nat → (Nat → Bool) → List Nat → Option ((Nat → Bool) × List Nat)
  | 0, _, _ => none
  | f + 1, q, s => match skipT 93 s with
    | some r => some (q, r)
    | none => match prSpan s with
      | none => none
      | some (a, c, r) => prSpans f (fun x => q x || ival a (c + 1 - a) x) r
/-- What stands behind an opening bracket: the set, or none. -/
def prSet (s : List Nat) : Option ((Nat → Bool) × List Nat) :=
  match skipT 94 s with
  | some r => match prSpans (r.length + 1) emp r with
    | none => none
    | some (q, r1) => if noneB (fun x => !q x) = true then none else some (fun x => !q x, r1)
  | none => match prSpans (s.length + 1) emp s with
    | none => none
    | some (q, r1) => if noneB q = true then none else some (q, r1)
def signK (c : Nat) : Option Int := if c = 42 then some 4 else if c = 43 then some 5 else if c = 63 then some 6 else none
/-- The signs behind an atom. -/
def repLoop : List Nat → List Pc → PSt
  | [], acc => (acc, [])
  | c :: r, acc => match signK c with
    | some k => repLoop r (acc ++ [⟨k, emp⟩])
    | none => (acc, c :: r)
def repOf (atom : PSt → Option PSt) (s : PSt) : Option PSt := match atom s with
  | none => none
  | some x => some (repLoop x.2 x.1)
def seqEnd : List Nat → Bool
  | [] => true
  | c :: _ => c == 124 || c == 41
def seqLoop (atom : PSt → Option PSt) : Nat → PSt → Option PSt
  | 0, _ => none
  | f + 1, s => if seqEnd s.2 = true then some s else match repOf atom s with
    | none => none
    | some x => seqLoop atom f (x.1 ++ [⟨2, emp⟩], x.2)
def seqOf (atom : PSt → Option PSt) (s : PSt) : Option PSt := match repOf atom s with
  | none => none
  | some x => seqLoop atom (x.2.length + 1) x
def altLoop (atom : PSt → Option PSt) : Nat → PSt → Option PSt
  | 0, _ => none
  | f + 1, s => match skipT 124 s.2 with
    | none => some s
    | some r => match seqOf atom (s.1, r) with
      | none => none
      | some x => altLoop atom f (x.1 ++ [⟨3, emp⟩], x.2)
def altOf (atom : PSt → Option PSt) (s : PSt) : Option PSt := match seqOf atom s with
  | none => none
  | some x => altLoop atom (x.2.length + 1) x
/-- An atom; group: what stands behind an opening parenthesis. -/
def atomOf (group : PSt → Option PSt) (s : PSt) : Option PSt :=
  match skipT 46 s.2 with
  | some r => some (s.1 ++ [⟨1, fun _ => true⟩], r)
  | none => match skipT 126 s.2 with
    | some r => some (s.1 ++ [⟨0, emp⟩], r)
    | none => match skipT 40 s.2 with
      | some r => group (s.1, r)
      | none => match skipT 91 s.2 with
        | some r => match prSet r with
          | none => none
          | some (q, r1) => some (s.1 ++ [⟨1, q⟩], r1)
        | none => match prRead outS s.2 with
          | none => none
          | some (c, r) => some (s.1 ++ [⟨1, ofUp (fun _ => c) 1⟩], r)
def groupOf (atom : PSt → Option PSt) (s : PSt) : Option PSt := match altOf atom s with
  | none => none
  | some x => match skipT 41 x.2 with
    | none => none
    | some r => some (x.1, r)
/-- .. where D more parentheses may be opened. -/
def atomD : Nat → PSt → Option PSt
  | 0 => atomOf fun _ => none
  | D + 1 => atomOf (groupOf (atomD D))
/-- A whole text: the pieces, or none. -/
def parseT (s : List Nat) : Option (List Pc) := match altOf (atomD 99) ([], s) with
  | some (l, []) => some l
  | _ => none

/-- Something is read, and not too much is made of it. -/
def Dec (g : PSt → Option PSt) : Prop := ∀ s s', g s = some s' → s'.2.length < s.2.length ∧ s'.1.length + 2 * s'.2.length < s.1.length + 2 * s.2.length
def Le (s' s : PSt) : Prop := s'.2.length ≤ s.2.length ∧ s'.1.length + 2 * s'.2.length ≤ s.1.length + 2 * s.2.length
theorem skipT_len {c : Nat} {s r : List Nat} (h : skipT c s = some r) : s = c :: r := by
  cases s with
  | nil => simp [skipT] at h
  | cons x t =>
    simp only [skipT] at h
    split at h
    · simp at h; subst h; rename_i e; rw [e]
    · simp at h
theorem rd_drop (s : List Nat) : (rd s).2.2 = true → 1 ≤ (rd s).2.1 ∧ 1 ≤ s.length := by
  cases s with
  | nil => simp [rd, rdNo]
  | cons c t =>
    intro h
    refine ⟨?_, by simp⟩
    unfold rd at h ⊢
    simp only at h ⊢
    split at h
    · rename_i e
      rw [if_pos e]
      have := (rdB_lt t).2 h
      omega
    · rename_i e
      rw [if_neg e]
      simp
theorem prRead_len {sp : ByteArray} {s : List Nat} {c : Nat} {r : List Nat} (h : prRead sp s = some (c, r)) : r.length < s.length := by
  unfold prRead at h
  split at h
  · rename_i e
    have := rd_drop s e.1
    simp at h
    rw [← h.2]
    simp; omega
  · simp at h
theorem prSpan_len {s : List Nat} {a c : Nat} {r : List Nat} (h : prSpan s = some (a, c, r)) : r.length < s.length ∧ a ≤ c := by
  unfold prSpan at h
  rcases h1 : prRead insS s with _ | ⟨a1, r1⟩
  · simp [h1] at h
  · rw [h1] at h
    have l1 := prRead_len h1
    simp only at h
    rcases h2 : skipT 45 r1 with _ | r2
    · simp [h2] at h
      obtain ⟨rfl, rfl, rfl⟩ := h
      exact ⟨l1, Nat.le_refl _⟩
    · rw [h2] at h
      have l2 := skipT_len h2
      simp only at h
      rcases h3 : prRead insS r2 with _ | ⟨c1, r3⟩
      · simp [h3] at h
      · rw [h3] at h
        have l3 := prRead_len h3
        simp only at h
        split at h
        · rename_i e
          simp at h
          obtain ⟨rfl, rfl, rfl⟩ := h
          rw [l2] at l1
          simp at l1
          exact ⟨by omega, e⟩
        · simp at h
theorem prSpans_len (f : Nat) (q : Nat → Bool) (s : List Nat) (q' : Nat → Bool) (r : List Nat) (h : prSpans f q s = some (q', r)) : r.length < s.length := by
  induction f generalizing q s with
  | zero => simp [prSpans] at h
  | succ f ih =>
    unfold prSpans at h
    rcases h1 : skipT 93 s with _ | r1
    · rw [h1] at h
      simp only at h
      rcases h2 : prSpan s with _ | ⟨a, c, r2⟩
      · simp [h2] at h
      · rw [h2] at h
        simp only at h
        have := ih _ _ h
        have := (prSpan_len h2).1
        omega
    · rw [h1] at h
      have := skipT_len h1
      simp at h
      rw [this, ← h.2]; simp
theorem prSpans_fuel (f g : Nat) (q : Nat → Bool) (s : List Nat) (hf : s.length < f) (hg : s.length < g) : prSpans f q s = prSpans g q s := by
  induction f generalizing g q s with
  | zero => omega
  | succ f ih =>
    match g, hg with
    | g + 1, hg =>
      unfold prSpans
      rcases h1 : skipT 93 s with _ | r1
      · rcases h2 : prSpan s with _ | ⟨a, c, r2⟩
        · rfl
        · have := (prSpan_len h2).1
          exact ih g _ r2 (by omega) (by omega)
      · rfl
theorem prSet_len {s : List Nat} {q : Nat → Bool} {r : List Nat} (h : prSet s = some (q, r)) : r.length < s.length := by
  unfold prSet at h
  rcases h1 : skipT 94 s with _ | r1
  · rw [h1] at h
    simp only at h
    rcases h2 : prSpans (s.length + 1) emp s with _ | ⟨q2, r2⟩
    · simp [h2] at h
    · rw [h2] at h
      have := prSpans_len _ _ _ _ _ h2
      simp only at h
      split at h
      · simp at h
      · simp at h; rw [← h.2]; exact this
  · rw [h1] at h
    have e := skipT_len h1
    simp only at h
    rcases h2 : prSpans (r1.length + 1) emp r1 with _ | ⟨q2, r2⟩
    · simp [h2] at h
    · rw [h2] at h
      have := prSpans_len _ _ _ _ _ h2
      simp only at h
      split at h
      · simp at h
      · simp at h; rw [e, ← h.2]; simp; omega
theorem repLoop_le (s : List Nat) (acc : List Pc) : Le (repLoop s acc) (acc, s) := by
  induction s generalizing acc with
  | nil => exact ⟨Nat.le_refl _, Nat.le_refl _⟩
  | cons c r ih =>
    unfold repLoop
    rcases signK c with _ | k
    · exact ⟨Nat.le_refl _, Nat.le_refl _⟩
    · obtain ⟨h1, h2⟩ := ih (acc ++ [⟨k, emp⟩])
      simp at h1 h2
      exact ⟨by simp; omega, by simp; omega⟩
theorem repOf_dec {atom : PSt → Option PSt} (hd : Dec atom) : Dec (repOf atom) := by
  intro s s' h
  unfold repOf at h
  rcases h1 : atom s with _ | x
  · simp [h1] at h
  · rw [h1] at h
    simp at h
    obtain ⟨h2, h3⟩ := hd s x h1
    obtain ⟨h4, h5⟩ := repLoop_le x.2 x.1
    rw [h] at h4 h5
    simp at h4 h5
    exact ⟨by omega, by omega⟩
theorem seqLoop_le {atom : PSt → Option PSt} (hd : Dec atom) (f : Nat) (s s' : PSt) (h : seqLoop atom f s = some s') : Le s' s := by
  induction f generalizing s with
  | zero => simp [seqLoop] at h
  | succ f ih =>
    unfold seqLoop at h
    split at h
    · simp at h; subst h; exact ⟨Nat.le_refl _, Nat.le_refl _⟩
    · rcases h1 : repOf atom s with _ | x
      · simp [h1] at h
      · rw [h1] at h
        obtain ⟨h2, h3⟩ := repOf_dec hd s x h1
        obtain ⟨h4, h5⟩ := ih _ h
        simp at h4 h5
        exact ⟨by omega, by omega⟩
theorem seqLoop_fuel {atom : PSt → Option PSt} (hd : Dec atom) (f g : Nat) (s : PSt) (hf : s.2.length < f) (hg : s.2.length < g) : seqLoop atom f s = seqLoop atom g s := by
  induction f generalizing g s with
  | zero => omega
  | succ f ih =>
    match g, hg with
    | g + 1, hg =>
      unfold seqLoop
      split
      · rfl
      · rcases h1 : repOf atom s with _ | x
        · rfl
        · have := (repOf_dec hd s x h1).1
          exact ih g _ (by simp; omega) (by simp; omega)
theorem seqOf_dec {atom : PSt → Option PSt} (hd : Dec atom) : Dec (seqOf atom) := by
  intro s s' h
  unfold seqOf at h
  rcases h1 : repOf atom s with _ | x
  · simp [h1] at h
  · rw [h1] at h
    obtain ⟨h2, h3⟩ := repOf_dec hd s x h1
    obtain ⟨h4, h5⟩ := seqLoop_le hd _ _ _ h
    exact ⟨by omega, by omega⟩
theorem altLoop_le {atom : PSt → Option PSt} (hd : Dec atom) (f : Nat) (s s' : PSt) (h : altLoop atom f s = some s') : Le s' s := by
  induction f generalizing s with
  | zero => simp [altLoop] at h
  | succ f ih =>
    unfold altLoop at h
    rcases h0 : skipT 124 s.2 with _ | r
    · rw [h0] at h; simp at h; subst h; exact ⟨Nat.le_refl _, Nat.le_refl _⟩
    · rw [h0] at h
      have e := skipT_len h0
      simp only at h
      rcases h1 : seqOf atom (s.1, r) with _ | x
      · simp [h1] at h
      · rw [h1] at h
        obtain ⟨h2, h3⟩ := seqOf_dec hd _ x h1
        obtain ⟨h4, h5⟩ := ih _ h
        simp at h2 h3 h4 h5
        exact ⟨by rw [e]; simp; omega, by rw [e]; simp; omega⟩
theorem altLoop_fuel {atom : PSt → Option PSt} (hd : Dec atom) (f g : Nat) (s : PSt) (hf : s.2.length < f) (hg : s.2.length < g) : altLoop atom f s = altLoop atom g s := by
  induction f generalizing g s with
  | zero => omega
  | succ f ih =>
    match g, hg with
    | g + 1, hg =>
      unfold altLoop
      rcases h0 : skipT 124 s.2 with _ | r
      · rfl
      · have e := skipT_len h0
        simp only
        rcases h1 : seqOf atom (s.1, r) with _ | x
        · rfl
        · have := (seqOf_dec hd _ x h1).1
          simp at this
          rw [e] at hf hg
          simp at hf hg
          exact ih g _ (by simp; omega) (by simp; omega)
theorem altOf_dec {atom : PSt → Option PSt} (hd : Dec atom) : Dec (altOf atom) := by
  intro s s' h
  unfold altOf at h
  rcases h1 : seqOf atom s with _ | x
  · simp [h1] at h
  · rw [h1] at h
    obtain ⟨h2, h3⟩ := seqOf_dec hd s x h1
    obtain ⟨h4, h5⟩ := altLoop_le hd _ _ _ h
    exact ⟨by omega, by omega⟩
theorem groupOf_dec {atom : PSt → Option PSt} (hd : Dec atom) : Dec (groupOf atom) := by
  intro s s' h
  unfold groupOf at h
  rcases h1 : altOf atom s with _ | x
  · simp [h1] at h
  · rw [h1] at h
    simp only at h
    rcases h2 : skipT 41 x.2 with _ | r
    · simp [h2] at h
    · rw [h2] at h
      have e := skipT_len h2
      simp at h
      subst h
      obtain ⟨h3, h4⟩ := altOf_dec hd s x h1
      rw [e] at h3 h4
      simp at h3 h4
      exact ⟨by simp; omega, by simp; omega⟩
theorem atomOf_dec {group : PSt → Option PSt} (hd : Dec group) : Dec (atomOf group) := by
  intro s s' h
  unfold atomOf at h
  rcases h1 : skipT 46 s.2 with _ | r
  · rw [h1] at h
    simp only at h
    rcases h2 : skipT 126 s.2 with _ | r
    · rw [h2] at h
      simp only at h
      rcases h3 : skipT 40 s.2 with _ | r
      · rw [h3] at h
        simp only at h
        rcases h4 : skipT 91 s.2 with _ | r
        · rw [h4] at h
          simp only at h
          rcases h5 : prRead outS s.2 with _ | ⟨c, r⟩
          · simp [h5] at h
          · rw [h5] at h
            have := prRead_len h5
            simp at h
            subst h
            exact ⟨by simp; omega, by simp; omega⟩
        · rw [h4] at h
          have e := skipT_len h4
          simp only at h
          rcases h5 : prSet r with _ | ⟨q, r1⟩
          · simp [h5] at h
          · rw [h5] at h
            have := prSet_len h5
            simp at h
            subst h
            exact ⟨by rw [e]; simp; omega, by rw [e]; simp; omega⟩
      · rw [h3] at h
        have e := skipT_len h3
        obtain ⟨h4, h5⟩ := hd _ _ h
        simp at h4 h5
        exact ⟨by rw [e]; simp; omega, by rw [e]; simp; omega⟩
    · rw [h2] at h
      have e := skipT_len h2
      simp at h
      subst h
      exact ⟨by rw [e]; simp, by rw [e]; simp; omega⟩
  · rw [h1] at h
    have e := skipT_len h1
    simp at h
    subst h
    exact ⟨by rw [e]; simp, by rw [e]; simp; omega⟩
theorem atomD_dec (D : Nat) : Dec (atomD D) := by
  induction D with
  | zero => exact atomOf_dec (fun s s' h => by simp at h)
  | succ D ih => exact atomOf_dec (groupOf_dec ih)
end Go.Proofs.YtjhfgiflcenjpaaDoor

namespace Go.Proofs.YtjhfgiflcenjpaaDoor
open Go.RowKit
set_option linter.unusedVariables false

theorem pc_eq (x y : Pc) (hk : x.k = y.k) (hp : ∀ b, b < 256 → x.p b = y.p b) : pcCells x = pcCells y := by
  obtain ⟨h0, h1, h2, h3⟩ := (wd_iff x.p y.p).2 hp
  simp only [pcCells, hk, h0, h1, h2, h3]
theorem pcs_one (x : Pc) : pcs [x] = pcCells x := by simp [pcs]
theorem lst_congr {p q : Nat → Bool} (h : ∀ b, b < 256 → p b = q b) : lst p 256 = lst q 256 := by
  unfold lst
  exact List.filter_congr fun x hx => h x (by simpa using hx)
theorem noneB_congr {p q : Nat → Bool} (h : ∀ b, b < 256 → p b = q b) : noneB p = noneB q := by unfold noneB; rw [lst_congr h]
theorem noneB_iff (p : Nat → Bool) (h : noneB p = true) : ∀ b, b < 256 → p b = false := by
  intro b hb
  have e : lst p 256 = [] := List.length_eq_zero_iff.1 (by simpa [noneB] using h)
  rcases hp : p b with _ | _
  · rfl
  · have := (lst_mem p 256 b).2 ⟨hb, hp⟩
    rw [e] at this; simp at this

theorem ins_sign : ∀ c, c < 256 → inB insS c = true → isPrint c = true ∧ isWord c = false := by decide +kernel
theorem out_sign : ∀ c, c < 256 → inB outS c = true → isPrint c = true ∧ isWord c = false := by decide +kernel
theorem byteT_head (c : Nat) (o : Bool) : ∃ h r, byteT c o = h :: r ∧ (h = 92 ∨ (h = c ∧ o = false)) := by
  unfold byteT
  repeat' split
  all_goals first
    | exact ⟨_, _, rfl, Or.inl rfl⟩
    | (refine ⟨_, _, rfl, Or.inr ⟨rfl, ?_⟩⟩
       rename_i h
       cases o
       · rfl
       · exact absurd (Or.inr rfl) h)
theorem byteT_one (c : Nat) (h : (byteT c true).length = 1) : False := by
  unfold byteT at h
  repeat' split at h
  all_goals simp at h
  all_goals (rename_i h'; simp at h')
theorem read_back (sp : ByteArray) (hsp : ∀ c, c < 256 → inB sp c = true → isPrint c = true ∧ isWord c = false) (c : Nat) (hc : c < 256) (t : List Nat) : prRead sp (byteT c (inB sp c) ++ t) = some (c, t) := by
  have h := rd_byteT c hc (inB sp c) (hsp c hc) t
  unfold prRead
  rw [h]
  simp only
  rw [if_pos, List.drop_left]
  refine ⟨by first | rfl | trivial, ?_⟩
  rintro ⟨h1, h2⟩
  rw [h2] at h1
  exact byteT_one c h1

/-- The spans' text is read up to the bracket. -/
theorem spans_head (l : List (Nat × Nat)) (t : List Nat) (x : Nat) (hx : x = 45 ∨ x = 94) : skipT x (spT l ++ 93 :: t) = none := by
  cases l with
  | nil => rcases hx with rfl | rfl <;> rfl
  | cons e l =>
    obtain ⟨h, r, he, hh⟩ := byteT_head e.1 (inB insS e.1)
    have : spT (e :: l) ++ 93 :: t = h :: (r ++ ((if e.2 = e.1 then [] else 45 :: byteT e.2 (inB insS e.2)) ++ (spT l ++ 93 :: t))) := by
      simp [spT, spanT, he]
    rw [this]
    simp only [skipT]
    rw [if_neg]
    intro hx2
    rcases hh with hh | ⟨hh, ho⟩
    · rcases hx with rfl | rfl <;> omega
    · rw [← hh, hx2] at ho
      rcases hx with rfl | rfl <;> revert ho <;> decide
theorem spans_back (l : List (Nat × Nat)) (hl : ∀ e ∈ l, e.1 ≤ e.2 ∧ e.2 < 256) (t : List Nat) (q : Nat → Bool) (f : Nat) (hf : (spT l ++ 93 :: t).length < f) :
    ∃ q', prSpans f q (spT l ++ 93 :: t) = some (q', t) ∧ ∀ b, q' b = (q b || l.any fun e => decide (e.1 ≤ b) && decide (b ≤ e.2)) := by
  induction l generalizing q f with
  | nil =>
    match f, hf with
    | f + 1, _ => exact ⟨q, by simp [prSpans, spT, skipT], by simp⟩
  | cons e l ih =>
    match f, hf with
    | f + 1, hf =>
      obtain ⟨he1, he2⟩ := hl e (by simp)
      obtain ⟨h, r, hh, hcase⟩ := byteT_head e.1 (inB insS e.1)
      have e1 : spT (e :: l) ++ 93 :: t = byteT e.1 (inB insS e.1) ++ ((if e.2 = e.1 then [] else 45 :: byteT e.2 (inB insS e.2)) ++ (spT l ++ 93 :: t)) := by
        simp [spT, spanT]
      have h93 : skipT 93 (spT (e :: l) ++ 93 :: t) = none := by
        rw [e1, hh]
        simp only [List.cons_append, skipT]
        rw [if_neg]
        intro hx
        rcases hcase with hc | ⟨hc, ho⟩
        · omega
        · rw [← hc, hx] at ho
          revert ho; decide
      have hsp : prSpan (spT (e :: l) ++ 93 :: t) = some (e.1, e.2, spT l ++ 93 :: t) := by
        unfold prSpan
        rw [e1, read_back insS ins_sign e.1 (by omega)]
        by_cases h2 : e.2 = e.1
        · rw [if_pos h2, List.nil_append]
          simp only [spans_head l t 45 (Or.inl rfl)]
          rw [h2]
        · simp only [if_neg h2, List.cons_append, skipT, if_pos, read_back insS ins_sign e.2 he2]
          rw [if_pos he1]
      have hlen := (prSpan_len hsp).1
      obtain ⟨q', hq, hb⟩ := ih (fun x hx => hl x (List.mem_cons_of_mem _ hx)) (fun x => q x || ival e.1 (e.2 + 1 - e.1) x) f (by omega)
      refine ⟨q', by simp only [prSpans, h93, hsp]; exact hq, fun b => ?_⟩
      rw [hb b]
      simp only [ival, List.any_cons, Bool.or_assoc]
      congr 2
      have : (b < e.1 + (e.2 + 1 - e.1)) ↔ b ≤ e.2 := by omega
      simp only [this]
theorem spansOf_any (p : Nat → Bool) (b : Nat) (hb : b < 256) : ((spansOf p).any fun e => decide (e.1 ≤ b) && decide (b ≤ e.2)) = p b := by
  have h := (spansOf_ok p).all b
  rw [lst_mem] at h
  rw [Bool.eq_iff_iff, List.any_eq_true]
  simp only [Bool.and_eq_true, decide_eq_true_eq, spansOf, List.mem_reverse]
  constructor
  · rintro ⟨e, he, h1⟩
    exact (h.2 ⟨e, he, h1⟩).2
  · intro hp
    obtain ⟨e, he, h1⟩ := h.1 ⟨hb, hp⟩
    exact ⟨e, he, h1⟩
theorem spansOf_le (p : Nat → Bool) : ∀ e ∈ spansOf p, e.1 ≤ e.2 ∧ e.2 < 256 := by
  intro e he
  exact ⟨((spansOf_ok p).right e (by simpa [spansOf] using he)).1, (spansOf_lt p e he).2⟩

/-- A set's text is read as an atom. -/
theorem set_back (g : PSt → Option PSt) (p : Nat → Bool) (hp : noneB p = false) (acc : List Pc) (t : List Nat) :
    ∃ q, (∀ b, b < 256 → q b = p b) ∧ atomOf g (acc, setT p ++ t) = some (acc ++ [⟨1, q⟩], t) := by
  unfold setT
  split
  · rename_i h
    refine ⟨fun _ => true, fun b hb => ?_, by simp [atomOf, skipT]⟩
    have h2 : lst p 256 = List.range 256 := by
      have : (lst p 256).length = (List.range 256).length := by rw [h]; simp
      exact List.Sublist.eq_of_length (List.filter_sublist) this
    have : b ∈ lst p 256 := by rw [h2]; simpa using hb
    exact (((lst_mem p 256 b).1 this).2).symm
  · split
    · rename_i h
      obtain ⟨c, hc, hl, hle⟩ := least_one p h
      have hcc : (least p).toNat = c := by rw [hle]; simp
      rw [hcc]
      obtain ⟨x, r, hx, hcase⟩ := byteT_head c (inB outS c)
      have hno : ∀ y, (y = 46 ∨ y = 126 ∨ y = 40 ∨ y = 91) → skipT y (byteT c (inB outS c) ++ t) = none := by
        intro y hy
        rw [hx]
        simp only [List.cons_append, skipT]
        rw [if_neg]
        intro e
        rcases hcase with h' | ⟨h', ho⟩
        · omega
        · rw [← h', e] at ho
          rcases hy with rfl | rfl | rfl | rfl <;> revert ho <;> decide
      refine ⟨ofUp (fun _ => c) 1, fun b hb => ?_, ?_⟩
      · rw [Bool.eq_iff_iff, ofUp_iff]
        constructor
        · rintro ⟨j, _, rfl⟩
          exact ((lst_mem p 256 c).1 (by rw [hl]; simp)).2
        · intro hpb
          have : b ∈ lst p 256 := (lst_mem p 256 b).2 ⟨hb, hpb⟩
          rw [hl] at this
          simp at this
          exact ⟨0, by omega, this.symm⟩
      · simp only [atomOf, hno 46 (by simp), hno 126 (by simp), hno 40 (by simp), hno 91 (by simp), read_back outS out_sign c hc]
    · split
      · obtain ⟨q', hq, hb⟩ := spans_back (spansOf fun x => !p x) (spansOf_le _) t emp ((spT (spansOf fun x => !p x) ++ 93 :: t).length + 1) (Nat.lt_succ_self _)
        have e : (91 :: 94 :: (spT (spansOf fun x => !p x) ++ [93])) ++ t = 91 :: 94 :: (spT (spansOf fun x => !p x) ++ 93 :: t) := by simp
        have hqp : ∀ b, b < 256 → (fun x => !q' x) b = p b := by
          intro b hb'
          have := spansOf_any (fun x => !p x) b hb'
          simp only [hb b, emp, Bool.false_or, this, Bool.not_not]
        refine ⟨fun x => !q' x, hqp, ?_⟩
        rw [e]
        have hn : noneB (fun x => !q' x) = false := by rw [noneB_congr hqp]; exact hp
        have hset : prSet (94 :: (spT (spansOf fun x => !p x) ++ 93 :: t)) = some (fun x => !q' x, t) := by
          simp only [prSet, skipT, if_pos, hq, hn]
          simp
        simp [atomOf, skipT, hset]
      · obtain ⟨q', hq, hb⟩ := spans_back (spansOf p) (spansOf_le _) t emp ((spT (spansOf p) ++ 93 :: t).length + 1) (Nat.lt_succ_self _)
        have e : (91 :: (spT (spansOf p) ++ [93])) ++ t = 91 :: (spT (spansOf p) ++ 93 :: t) := by simp
        have hqp : ∀ b, b < 256 → q' b = p b := by
          intro b hb'
          simp only [hb b, emp, Bool.false_or, spansOf_any p b hb']
        refine ⟨q', hqp, ?_⟩
        rw [e]
        have hn : noneB q' = false := by rw [noneB_congr hqp]; exact hp
        have hset : prSet (spT (spansOf p) ++ 93 :: t) = some (q', t) := by
          simp only [prSet, spans_head (spansOf p) t 94 (Or.inr rfl), hq, hn]
          simp
        simp [atomOf, skipT, hset]

/-- What a text begins with. -/
def goodHead (u : List Nat) : Prop := ∃ h r, u = h :: r ∧ h ≠ 124 ∧ h ≠ 41 ∧ signK h = none
theorem setT_head (p : Nat → Bool) : goodHead (setT p) := by
  unfold setT
  split
  · exact ⟨46, [], rfl, by decide, by decide, by decide⟩
  · split
    · obtain ⟨x, r, hx, hcase⟩ := byteT_head (least p).toNat (inB outS (least p).toNat)
      refine ⟨x, r, hx, ?_⟩
      rcases hcase with rfl | ⟨rfl, ho⟩
      · decide
      · refine ⟨?_, ?_, ?_⟩
        · intro e; rw [e] at ho; revert ho; decide
        · intro e; rw [e] at ho; revert ho; decide
        · unfold signK
          repeat' split
          · rename_i e; rw [e] at ho; revert ho; decide
          · rename_i e; rw [e] at ho; revert ho; decide
          · rename_i e; rw [e] at ho; revert ho; decide
          · rfl
    · split
      · exact ⟨91, _, rfl, by decide, by decide, by decide⟩
      · exact ⟨91, _, rfl, by decide, by decide, by decide⟩
theorem goodHead.app {u : List Nat} (h : goodHead u) (v : List Nat) : goodHead (u ++ v) := by
  obtain ⟨x, r, rfl, h1⟩ := h
  exact ⟨x, r ++ v, rfl, h1⟩
theorem parT_head (b : Bool) (u : List Nat) (h : goodHead u) : goodHead (parT b u) := by
  unfold parT
  split
  · exact ⟨40, _, rfl, by decide, by decide, by decide⟩
  · exact h
theorem showT_head (t : Rx) : goodHead (showT t) := by
  induction t with
  | leaf x =>
    simp only [showT]
    split
    · exact setT_head _
    · exact ⟨126, [], rfl, by decide, by decide, by decide⟩
  | un x a ih => exact (parT_head _ _ ih).app _
  | bin x a b iha ihb =>
    simp only [showT]
    split
    · exact (parT_head _ _ iha).app _
    · exact iha.app _

def noSign (u : List Nat) : Prop := ∀ c r, u = c :: r → signK c = none
theorem goodHead.noSign {u : List Nat} (h : goodHead u) : noSign u := by
  obtain ⟨x, r, rfl, h1, h2, h3⟩ := h
  intro c r' e
  simp at e
  rw [← e.1]; exact h3
theorem repLoop_stop (u : List Nat) (acc : List Pc) (h : noSign u) : repLoop u acc = (acc, u) := by
  cases u with
  | nil => rfl
  | cons c r => simp only [repLoop, h c r rfl]
theorem seqEnd_noSign {u : List Nat} (h : seqEnd u = true) : noSign u := by
  rintro c r rfl
  simp only [seqEnd, Bool.or_eq_true, beq_iff_eq] at h
  rcases h with rfl | rfl <;> decide
theorem goodHead.seqEnd {u : List Nat} (h : goodHead u) (v : List Nat) : seqEnd (u ++ v) = false := by
  obtain ⟨x, r, rfl, h1, h2, h3⟩ := h
  simp [Go.Proofs.YtjhfgiflcenjpaaDoor.seqEnd, h1, h2]

/-- A text is read as a repetition, a sequence, an alternative. -/
def Rt (D : Nat) (u : List Nat) (l : List Pc) : Prop := ∀ acc t, ∃ l', pcs l' = pcs l ∧ repOf (atomD D) (acc, u ++ t) = some (repLoop t (acc ++ l'))
def Sq (D : Nat) (u : List Nat) (l : List Pc) : Prop := ∀ acc t, noSign t → ∃ l', pcs l' = pcs l ∧ seqOf (atomD D) (acc, u ++ t) = seqLoop (atomD D) (t.length + 1) (acc ++ l', t)
def At (D : Nat) (u : List Nat) (l : List Pc) : Prop := ∀ acc t, seqEnd t = true → ∃ l', pcs l' = pcs l ∧ altOf (atomD D) (acc, u ++ t) = altLoop (atomD D) (t.length + 1) (acc ++ l', t)
theorem Rt.sq {D : Nat} {u : List Nat} {l : List Pc} (h : Rt D u l) : Sq D u l := by
  intro acc t ht
  obtain ⟨l', hl, hr⟩ := h acc t
  refine ⟨l', hl, ?_⟩
  simp only [seqOf, hr, repLoop_stop t _ ht]
theorem Sq.at_ {D : Nat} {u : List Nat} {l : List Pc} (h : Sq D u l) : At D u l := by
  intro acc t ht
  obtain ⟨l', hl, hr⟩ := h acc t (seqEnd_noSign ht)
  refine ⟨l', hl, ?_⟩
  have : seqLoop (atomD D) (t.length + 1) (acc ++ l', t) = some (acc ++ l', t) := by
    unfold seqLoop; rw [if_pos ht]
  simp only [altOf, hr, this]
/-- In parentheses. -/
theorem At.par {D : Nat} {u : List Nat} {l : List Pc} (h : At D u l) : Rt (D + 1) (40 :: (u ++ [41])) l := by
  intro acc t
  obtain ⟨l', hl, hr⟩ := h acc (41 :: t) rfl
  refine ⟨l', hl, ?_⟩
  have e : (40 :: (u ++ [41])) ++ t = 40 :: (u ++ 41 :: t) := by simp
  have h2 : altLoop (atomD D) ((41 :: t).length + 1) (acc ++ l', 41 :: t) = some (acc ++ l', 41 :: t) := by
    unfold altLoop; simp [skipT]
  have h3 : groupOf (atomD D) (acc, u ++ 41 :: t) = some (acc ++ l', t) := by
    simp only [groupOf, hr, h2]
    simp [skipT]
  have h4 : atomD (D + 1) (acc, 40 :: (u ++ 41 :: t)) = some (acc ++ l', t) := by
    show atomOf (groupOf (atomD D)) _ = _
    simp [atomOf, skipT, h3]
  rw [e]
  simp only [repOf, h4]
theorem parT_rt {D : Nat} {u : List Nat} {l : List Pc} (b : Bool) (h1 : b = false → Rt (D + 1) u l) (h2 : At D u l) : Rt (D + 1) (parT b u) l := by
  cases b
  · exact h1 rfl
  · exact h2.par
theorem parT_sq {D : Nat} {u : List Nat} {l : List Pc} (b : Bool) (h1 : b = false → Sq (D + 1) u l) (h2 : At D u l) : Sq (D + 1) (parT b u) l := by
  cases b
  · exact h1 rfl
  · exact h2.par.sq
theorem atomD_atomOf (D : Nat) : ∃ g, atomD D = atomOf g := by
  cases D with
  | zero => exact ⟨_, rfl⟩
  | succ D => exact ⟨_, rfl⟩
theorem signT_sign (k : Int) (h : takesZ k = 1) : signK (signT k) = some k := by
  have hk : k = 4 ∨ k = 5 ∨ k = 6 := by have := takesZ_cases k; omega
  rcases hk with rfl | rfl | rfl <;> decide
theorem emp_eq (x : Pc) (hx : okSet x = true) (hk : x.k ≠ 1) : pcCells ⟨x.k, emp⟩ = pcCells x := by
  refine pc_eq _ _ rfl fun b hb => ?_
  have : noneB x.p = true := by
    unfold okSet at hx
    have e : (x.k == 1) = false := by simpa using hk
    rw [e] at hx
    simpa using hx
  exact (noneB_iff x.p this b hb).symm

theorem back (t : Rx) (hw : t.wf) (D : Nat) (hD : t.flat.length ≤ D) :
    (strT t.top.k = 2 → Rt D (showT t) t.flat) ∧ (1 ≤ strT t.top.k → Sq D (showT t) t.flat) ∧ At D (showT t) t.flat := by
  induction t generalizing D with
  | leaf x =>
    have hk : x.k = 0 ∨ x.k = 1 := by have := takesZ_cases x.k; have := hw.1; omega
    have hr : Rt D (showT (.leaf x)) [x] := by
      intro acc u
      obtain ⟨g, hg⟩ := atomD_atomOf D
      rcases hk with h | h
      · refine ⟨[⟨0, emp⟩], ?_, ?_⟩
        · rw [pcs_one, pcs_one, ← emp_eq x hw.2 (by omega), h]
        · have h1 : atomD D (acc, [126] ++ u) = some (acc ++ [⟨0, emp⟩], u) := by rw [hg]; simp [atomOf, skipT]
          simp only [showT, if_neg (by omega : ¬ x.k = 1), repOf, h1]
      · have hne : noneB x.p = false := by
          have hx := hw.2
          unfold okSet at hx
          rw [show (x.k == 1) = true by simpa using h] at hx
          rcases hn : noneB x.p with _ | _
          · rfl
          · rw [hn] at hx; simp at hx
        obtain ⟨q, hq, hs⟩ := set_back g x.p hne acc u
        refine ⟨[⟨1, q⟩], ?_, ?_⟩
        · rw [pcs_one, pcs_one]
          exact pc_eq _ _ h.symm hq
        · have h1 : atomD D (acc, setT x.p ++ u) = some (acc ++ [⟨1, q⟩], u) := by rw [hg]; exact hs
          simp only [showT, if_pos h, repOf, h1]
    exact ⟨fun _ => hr, fun _ => hr.sq, hr.sq.at_⟩
  | un x a ih =>
    have hl : (Rx.un x a).flat.length = a.flat.length + 1 := by simp [Rx.flat]
    match D, hD with
    | 0, hD => omega
    | D + 1, hD =>
      obtain ⟨i1, -, -⟩ := ih hw.2.2 (D + 1) (by omega)
      obtain ⟨-, -, i3⟩ := ih hw.2.2 D (by omega)
      have hrt := parT_rt (decide (strT a.top.k < 2)) (fun h => i1 (by
        have h' := of_decide_eq_false h
        have : strT a.top.k ≤ 2 := by unfold strT; split <;> (try split) <;> omega
        omega)) i3
      have hr : Rt (D + 1) (showT (.un x a)) (Rx.un x a).flat := by
        intro acc u
        obtain ⟨l', h1, h2⟩ := hrt acc (signT x.k :: u)
        refine ⟨l' ++ [⟨x.k, emp⟩], ?_, ?_⟩
        · rw [pcs_append, h1, pcs_one, emp_eq x hw.2.1 (by have := takesZ_cases x.k; have := hw.1; omega)]
          simp [Rx.flat, pcs]
        · have e : showT (.un x a) ++ u = parT (decide (strT a.top.k < 2)) (showT a) ++ signT x.k :: u := by simp [showT]
          rw [e, h2]
          simp only [repLoop, signT_sign x.k hw.1, List.append_assoc]
      exact ⟨fun _ => hr, fun _ => hr.sq, hr.sq.at_⟩
  | bin x a b iha ihb =>
    have hl : (Rx.bin x a b).flat.length = a.flat.length + (b.flat.length + 1) := by simp [Rx.flat]
    have hk : x.k = 2 ∨ x.k = 3 := by have := takesZ_cases x.k; have := hw.1; omega
    have hpa := a.flat_pos
    have hpb := b.flat_pos
    match D, hD with
    | 0, hD => omega
    | D + 1, hD =>
      obtain ⟨a1, a2, a3⟩ := iha hw.2.2.1 (D + 1) (by omega)
      obtain ⟨-, -, a4⟩ := iha hw.2.2.1 D (by omega)
      obtain ⟨b1, b2, b3⟩ := ihb hw.2.2.2 (D + 1) (by omega)
      obtain ⟨-, -, b4⟩ := ihb hw.2.2.2 D (by omega)
      have hxe : pcs [⟨x.k, emp⟩] = pcs [x] := by rw [pcs_one, pcs_one, emp_eq x hw.2.1 (by omega)]
      rcases hk with h | h
      · have hsa := parT_sq (decide (strT a.top.k < 1)) (fun h => a2 (by have h' := of_decide_eq_false h; omega)) a4
        have hrb := parT_rt (decide (strT b.top.k < 2)) (fun h => b1 (by
          have h' := of_decide_eq_false h
          have : strT b.top.k ≤ 2 := by unfold strT; split <;> (try split) <;> omega
          omega)) b4
        have hhb := parT_head (decide (strT b.top.k < 2)) (showT b) (showT_head b)
        have hs : Sq (D + 1) (showT (.bin x a b)) (Rx.bin x a b).flat := by
          intro acc u hu
          have e : showT (.bin x a b) ++ u = parT (decide (strT a.top.k < 1)) (showT a) ++ (parT (decide (strT b.top.k < 2)) (showT b) ++ u) := by simp [showT, h]
          generalize parT (decide (strT a.top.k < 1)) (showT a) = A at hsa e
          generalize parT (decide (strT b.top.k < 2)) (showT b) = B at hrb hhb e
          obtain ⟨la, h1, h2⟩ := hsa acc (B ++ u) (hhb.app u).noSign
          obtain ⟨lb, h3, h4⟩ := hrb (acc ++ la) u
          rw [repLoop_stop u _ hu] at h4
          refine ⟨la ++ lb ++ [⟨2, emp⟩], ?_, ?_⟩
          · rw [pcs_append, pcs_append, h1, h3]
            rw [h] at hxe
            rw [hxe]
            simp [Rx.flat, pcs]
          · rw [e, h2]
            have h5 : seqLoop (atomD (D + 1)) ((B ++ u).length + 1) (acc ++ la, B ++ u) = seqLoop (atomD (D + 1)) (B ++ u).length (acc ++ la ++ lb ++ [⟨2, emp⟩], u) := by
              simp [seqLoop, hhb.seqEnd u, h4]
            rw [h5]
            have hB : 0 < B.length := by obtain ⟨x, r, rfl, _⟩ := hhb; simp
            rw [seqLoop_fuel (atomD_dec (D + 1)) _ (u.length + 1) _ (by simp; omega) (by simp)]
            simp only [List.append_assoc]
        have hst : strT (Rx.bin x a b).top.k = 1 := by simp [Rx.top, strT, h]
        exact ⟨fun e => by omega, fun _ => hs, hs.at_⟩
      · have hsb := parT_sq (decide (strT b.top.k < 1)) (fun h => b2 (by have h' := of_decide_eq_false h; omega)) b4
        have hst : strT (Rx.bin x a b).top.k = 0 := by simp [Rx.top, strT, h]
        refine ⟨fun e => by omega, fun e => by omega, ?_⟩
        intro acc u hu
        have e : showT (.bin x a b) ++ u = showT a ++ (124 :: (parT (decide (strT b.top.k < 1)) (showT b) ++ u)) := by simp [showT, h]
        generalize parT (decide (strT b.top.k < 1)) (showT b) = B at hsb e
        obtain ⟨la, h1, h2⟩ := a3 acc (124 :: (B ++ u)) rfl
        obtain ⟨lb, h3, h4⟩ := hsb (acc ++ la) u (seqEnd_noSign hu)
        have h6 : seqLoop (atomD (D + 1)) (u.length + 1) (acc ++ la ++ lb, u) = some (acc ++ la ++ lb, u) := by
          unfold seqLoop; rw [if_pos hu]
        rw [h6] at h4
        refine ⟨la ++ lb ++ [⟨3, emp⟩], ?_, ?_⟩
        · rw [pcs_append, pcs_append, h1, h3]
          rw [h] at hxe
          rw [hxe]
          simp [Rx.flat, pcs]
        · rw [e, h2]
          have h5 : altLoop (atomD (D + 1)) ((124 :: (B ++ u)).length + 1) (acc ++ la, 124 :: (B ++ u)) = altLoop (atomD (D + 1)) (124 :: (B ++ u)).length (acc ++ la ++ lb ++ [⟨3, emp⟩], u) := by
            simp [altLoop, skipT, h4]
          rw [h5, altLoop_fuel (atomD_dec (D + 1)) _ (u.length + 1) _ (by simp; omega) (by simp)]
          simp only [List.append_assoc]
/-- Any expression's text is read as just it. -/
theorem show_back (t : Rx) (hw : t.wf) (hl : t.flat.length ≤ 99) : ∃ l, pcs l = pcs t.flat ∧ altOf (atomD 99) ([], showT t) = some (l, []) := by
  obtain ⟨l, h1, h2⟩ := (back t hw 99 hl).2.2 [] [] rfl
  refine ⟨l, h1, ?_⟩
  rw [List.append_nil] at h2
  rw [h2]
  simp [altLoop, skipT]
end Go.Proofs.YtjhfgiflcenjpaaDoor
