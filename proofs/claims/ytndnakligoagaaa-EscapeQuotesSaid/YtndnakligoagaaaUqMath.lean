import Derived.Test.YtndnakligoagaaaRRead
namespace Go.Proofs.Ytndnakligoagaaa
open Go.RowKit

/-- Nothing stands between quotes. -/
def uqNo : List Nat × Nat × Bool := ([], 0, false)
/-- The rest of a quoted string: q, fuel, what is left, what was read, how many bytes. -/
def uq (q : Nat) : Nat → List Nat → List Nat → Nat → List Nat × Nat × Bool
  | 0, _, _, _ => uqNo
  | _ + 1, [], _, _ => uqNo
  | f + 1, c :: t, acc, n => if c = q then (acc, n + 1, true) else if c = 10 then uqNo
      else if (rd (c :: t)).2.2 then uq q f ((c :: t).drop (rd (c :: t)).2.1) (acc ++ [(rd (c :: t)).1]) (n + (rd (c :: t)).2.1) else uqNo
/-- A quoted string. -/
def unq (q : Nat) : List Nat → List Nat × Nat × Bool
  | [] => uqNo
  | c :: t => if c = q then uq q (t.length + 1) t [] 1 else uqNo

theorem uq_cons (q f c : Nat) (t acc : List Nat) (n : Nat) : uq q (f + 1) (c :: t) acc n = if c = q then (acc, n + 1, true) else if c = 10 then uqNo
      else if (rd (c :: t)).2.2 then uq q f ((c :: t).drop (rd (c :: t)).2.1) (acc ++ [(rd (c :: t)).1]) (n + (rd (c :: t)).2.1) else uqNo := rfl

/-- Where a quoted string's reading stands: at place k of s, with so many bytes read; what is to come is R. -/
def UqAt (s : ByteArray) (q : Nat) (R : List Nat × Nat × Bool) (k : Nat) (acc : List Nat) : Prop := ∃ f, s.size - k < f ∧ acc.length ≤ k ∧ uq q f ((numsOf s).drop k) acc k = R
theorem UqAt.start (s : ByteArray) (q : Nat) (h : 0 < s.size) (h0 : s[0].toNat = q) : UqAt s q (unq q (numsOf s)) 1 [] := by
  refine ⟨((numsOf s).drop 1).length + 1, by rw [List.length_drop, nums_size]; omega, by simp, ?_⟩
  have e := nums_head s h
  conv => rhs; rw [e]
  show _ = if s[0].toNat = q then _ else _
  rw [if_pos h0]
theorem unq_not (s : ByteArray) (q : Nat) (h : 0 < s.size) (h0 : s[0].toNat ≠ q) : unq q (numsOf s) = uqNo := by
  have e := nums_head s h
  rw [e]
  show (if s[0].toNat = q then _ else _) = _
  rw [if_neg h0]
theorem UqAt.fin {s : ByteArray} {q : Nat} {R : List Nat × Nat × Bool} {k : Nat} {acc : List Nat} (h : UqAt s q R k acc) (hk : s.size ≤ k) : R = uqNo := by
  obtain ⟨f, hf, _, e⟩ := h
  obtain ⟨f, rfl⟩ : ∃ g, f = g + 1 := ⟨f - 1, by omega⟩
  rw [nums_end s k hk] at e
  exact e.symm
theorem UqAt.hit {s : ByteArray} {q : Nat} {R : List Nat × Nat × Bool} {k : Nat} {acc : List Nat} (h : UqAt s q R k acc) (hk : k < s.size) (hq : s[k].toNat = q) : R = (acc, k + 1, true) := by
  obtain ⟨f, hf, _, e⟩ := h
  obtain ⟨f, rfl⟩ : ∃ g, f = g + 1 := ⟨f - 1, by omega⟩
  rw [nums_at s k hk, uq_cons, if_pos hq] at e
  exact e.symm
theorem UqAt.feed {s : ByteArray} {q : Nat} {R : List Nat × Nat × Bool} {k : Nat} {acc : List Nat} (h : UqAt s q R k acc) (hk : k < s.size) (hq : s[k].toNat ≠ q) (h10 : s[k].toNat = 10) : R = uqNo := by
  obtain ⟨f, hf, _, e⟩ := h
  obtain ⟨f, rfl⟩ : ∃ g, f = g + 1 := ⟨f - 1, by omega⟩
  rw [nums_at s k hk, uq_cons, if_neg hq, if_pos h10] at e
  exact e.symm
theorem UqAt.fail {s : ByteArray} {q : Nat} {R : List Nat × Nat × Bool} {k : Nat} {acc : List Nat} (h : UqAt s q R k acc) (hk : k < s.size) (hq : s[k].toNat ≠ q) (h10 : s[k].toNat ≠ 10) {a b : Nat} (hr : rd ((numsOf s).drop k) = (a, b, false)) : R = uqNo := by
  obtain ⟨f, hf, _, e⟩ := h
  obtain ⟨f, rfl⟩ : ∃ g, f = g + 1 := ⟨f - 1, by omega⟩
  rw [nums_at s k hk] at e hr
  rw [uq_cons, if_neg hq, if_neg h10, hr] at e
  exact e.symm
theorem UqAt.next {s : ByteArray} {q : Nat} {R : List Nat × Nat × Bool} {k : Nat} {acc : List Nat} (h : UqAt s q R k acc) (hk : k < s.size) (hq : s[k].toNat ≠ q) (h10 : s[k].toNat ≠ 10) {a b : Nat} (hr : rd ((numsOf s).drop k) = (a, b, true)) :
    UqAt s q R (k + b) (acc ++ [a]) ∧ a < 256 ∧ 1 ≤ b ∧ k + b ≤ s.size := by
  have hl := rd_lt ((numsOf s).drop k) (fun n hn => numsOf_lt s n (List.mem_of_mem_drop hn))
  rw [hr, List.length_drop, nums_size] at hl
  have hb := hl.2 rfl
  simp at hb
  obtain ⟨f, hf, ha, e⟩ := h
  obtain ⟨f, rfl⟩ : ∃ g, f = g + 1 := ⟨f - 1, by omega⟩
  refine ⟨⟨f, by omega, by simp; omega, ?_⟩, hl.1, hb.1, by omega⟩
  have e0 := nums_at s k hk
  have hr' := hr
  rw [e0] at e hr'
  rw [uq_cons, if_neg hq, if_neg h10, hr'] at e
  simp only [if_true] at e
  rw [← e0, List.drop_drop] at e
  exact e

theorem byteT_head (c q : Nat) (hq : q ≠ 92) : ∃ x t, byteT c (c == q) = x :: t ∧ x ≠ q ∧ x ≠ 10 := by
  unfold byteT
  repeat' split
  all_goals first
    | exact ⟨92, _, rfl, fun e => hq e.symm, by decide⟩
    | (rename_i h1 _ _ _ h
       refine ⟨c, [], rfl, fun e => h (Or.inr (by simp [e])), h1⟩)
/-- Quoted text is read again, whatever stands behind it. -/
theorem uq_quote (q : Nat) (hq : q ≠ 92) (hs : isPrint q = true ∧ isWord q = false) (r : List Nat) : ∀ (s acc : List Nat) (n f : Nat), (∀ c ∈ s, c < 256) → s.length < f →
    uq q f ((s.flatMap fun c => byteT c (c == q)) ++ q :: r) acc n = (acc ++ s, n + (s.flatMap fun c => byteT c (c == q)).length + 1, true) := by
  intro s
  induction s with
  | nil =>
    intro acc n f _ hf
    obtain ⟨f, rfl⟩ : ∃ g, f = g + 1 := ⟨f - 1, by omega⟩
    simp [uq_cons]
  | cons c s ih =>
    intro acc n f hc hf
    obtain ⟨f, rfl⟩ : ∃ g, f = g + 1 := ⟨f - 1, by omega⟩
    have hr := rd_byteT c (hc c (by simp)) (c == q) (fun e => by obtain rfl := eq_of_beq e; exact hs) ((s.flatMap fun c => byteT c (c == q)) ++ q :: r)
    obtain ⟨x, t, hx, hxq, hx10⟩ := byteT_head c q hq
    rw [List.flatMap_cons, List.append_assoc]
    have hcons : byteT c (c == q) ++ ((s.flatMap fun c => byteT c (c == q)) ++ q :: r) = x :: (t ++ ((s.flatMap fun c => byteT c (c == q)) ++ q :: r)) := by rw [hx]; rfl
    have hr' := hr
    rw [hcons] at hr'
    rw [hcons, uq_cons, if_neg hxq, if_neg hx10, hr', ← hcons]
    simp only [if_true]
    rw [List.drop_left, ih _ _ f (fun d hd => hc d (by simp [hd])) (by simp at hf; omega)]
    simp
    omega
theorem quoteUp_take (s : ByteArray) (q k : Nat) (h : k ≤ s.size) : quoteUp s q k = ((numsOf s).take k).flatMap fun c => byteT c (c == q) := by
  induction k with
  | zero => simp [quoteUp]
  | succ k ih =>
    have hk : k < (numsOf s).length := by rw [nums_size]; omega
    have e : (numsOf s)[k] = s[k].toNat := by simp [numsOf]; rfl
    rw [quoteUp_succ s q k (by omega), ih (by omega), List.take_succ_eq_append_getElem hk, List.flatMap_append, e]
    simp
theorem quoteUp_all (s : ByteArray) (q : Nat) : quoteUp s q s.size = (numsOf s).flatMap fun c => byteT c (c == q) := by
  rw [quoteUp_take s q s.size (Nat.le_refl _), ← nums_size, List.take_length]
theorem byteT_pos (c : Nat) (o : Bool) : 1 ≤ (byteT c o).length := by
  unfold byteT
  repeat' split
  all_goals simp
theorem flat_len (q : Nat) (l : List Nat) : l.length ≤ (l.flatMap fun c => byteT c (c == q)).length := by
  induction l with
  | nil => simp
  | cons c l ih =>
    have := byteT_pos c (c == q)
    simp [List.flatMap_cons]; simp at ih; omega
theorem unq_quote (q : Nat) (hq : q ≠ 92) (hs : isPrint q = true ∧ isWord q = false) (s : ByteArray) (r : List Nat) : unq q (quoteT s q ++ r) = (numsOf s, (quoteT s q).length, true) := by
  have hfl := flat_len q (numsOf s)
  unfold quoteT
  rw [quoteUp_all]
  have e : q :: (numsOf s).flatMap (fun c => byteT c (c == q)) ++ [q] ++ r = q :: ((numsOf s).flatMap (fun c => byteT c (c == q)) ++ q :: r) := by simp
  rw [e]
  show (if q = q then uq q (((numsOf s).flatMap (fun c => byteT c (c == q)) ++ q :: r).length + 1) ((numsOf s).flatMap (fun c => byteT c (c == q)) ++ q :: r) [] 1 else uqNo) = _
  rw [if_pos rfl, uq_quote q hq hs r (numsOf s) [] 1 _ (numsOf_lt s) (by simp; simp at hfl; omega)]
  simp
  omega
end Go.Proofs.Ytndnakligoagaaa
