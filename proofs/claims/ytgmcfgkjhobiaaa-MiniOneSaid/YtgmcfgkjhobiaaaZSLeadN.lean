import Derived.Test.YtgmcfgkjhobiaaaZNMath
import Derived.Test.YtgmcfgkjhobiaaaZSClose
namespace Go.Proofs.Ytgmcfgkjhobiaaa
open Go.RowKit
set_option linter.unusedVariables false
set_option linter.unusedSimpArgs false

/-- Marks in memory. -/
def ZAt (w : World) (a : Option Addr) (n : Nat) (z : Nat → Int) : Prop := 0 < n → ∃ g off, a = some ⟨g, off, none⟩ ∧ g < w.heap.size ∧ ∀ j, j < n → w.cell? ⟨g, off + j, none⟩ = some (.int .i64 (z j))
theorem ZAt.below {w w' : World} {a : Option Addr} {n : Nat} {z : Nat → Int} (h : ZAt w a n z) (k : Below w.heap.size w w') : ZAt w' a n z := by
  intro h0
  obtain ⟨g, off, e, hg, hc⟩ := h h0
  have := k.size
  exact ⟨g, off, e, by omega, fun j hj => (k.cell (p := ⟨g, off + j, none⟩) hg).trans (hc j hj)⟩
theorem Least.step {mk : Nat → Int} {f : Nat → Bool} {k : Nat} {r r' : Int} (h : Least mk (fun x => x < k ∧ f x = true) r) (hr : (r' = r ∧ (f k = false ∨ mk k = -1 ∨ (r ≠ -1 ∧ r ≤ mk k))) ∨ (r' = mk k ∧ f k = true ∧ 0 ≤ mk k ∧ (r = -1 ∨ mk k ≤ r))) : Least mk (fun x => x < k + 1 ∧ f x = true) r' := by
  rcases hr with ⟨rfl, hc⟩ | ⟨rfl, hf, h0, hc⟩
  · rcases h with ⟨h1, h2⟩ | ⟨h1, ⟨y, hy, h2⟩, h3⟩
    · refine Or.inl ⟨h1, fun y hy => ?_⟩
      by_cases e : y = k
      · subst e
        rcases hc with hc | hc | hc
        · rw [hc] at hy; cases hy.2
        · exact hc
        · omega
      · exact h2 y ⟨by omega, hy.2⟩
    · refine Or.inr ⟨h1, ⟨y, ⟨by omega, hy.2⟩, h2⟩, fun x hx => ?_⟩
      by_cases e : x = k
      · subst e
        rcases hc with hc | hc | hc
        · rw [hc] at hx; cases hx.2
        · exact Or.inl hc
        · exact Or.inr hc.2
      · exact h3 x ⟨by omega, hx.2⟩
  · refine Or.inr ⟨h0, ⟨k, ⟨by omega, hf⟩, rfl⟩, fun x hx => ?_⟩
    by_cases e : x = k
    · subst e; exact Or.inr (Int.le_refl _)
    · rcases h with ⟨h1, h2⟩ | ⟨h1, _, h3⟩
      · exact Or.inl (h2 x ⟨by omega, hx.2⟩)
      · rcases h3 x ⟨by omega, hx.2⟩ with h | h
        · exact Or.inl h
        · exact Or.inr (by omega)

end Go.Proofs.Ytgmcfgkjhobiaaa

namespace Go.Proofs.Ytgmcfgkjhobiaaa
open Go.RowKit
set_option linter.unusedVariables false
set_option linter.unusedSimpArgs false

/-- A truth that tells whether Q. -/
def TruPost (Q : Prop) (w : World) (e : Ending) (w' : World) : Prop := ∃ b : Bool, e = .returned (.bool b) ∧ (b = true ↔ Q) ∧ Below w.heap.size w w'


end Go.Proofs.Ytgmcfgkjhobiaaa

namespace Go.Proofs.Ytgmcfgkjhobiaaa
open Go.RowKit
set_option linter.unusedVariables false
set_option linter.unusedSimpArgs false

/-- Rows of numbers in memory. -/
def ZsAt (w : World) (a : Option Addr) (n : Nat) (A : Nat → Option Addr) (C len : Nat → Nat) (z : Nat → Nat → Int) : Prop := 0 < n → ∃ g off, a = some ⟨g, off, none⟩ ∧ g < w.heap.size ∧ ∀ i, i < n → w.cell? ⟨g, off + i, none⟩ = some (.slice (A i) (len i) (C i)) ∧ ZAt w (A i) (len i) (z i)
theorem ZsAt.below {w w' : World} {a : Option Addr} {n : Nat} {A : Nat → Option Addr} {C len : Nat → Nat} {z : Nat → Nat → Int} (h : ZsAt w a n A C len z) (k : Below w.heap.size w w') : ZsAt w' a n A C len z := by
  intro h0
  obtain ⟨g, off, e, hg, hc⟩ := h h0
  have := k.size
  exact ⟨g, off, e, by omega, fun j hj => ⟨(k.cell (p := ⟨g, off + j, none⟩) hg).trans (hc j hj).1, (hc j hj).2.below k⟩⟩
def RowsEq (n n2 : Nat) (len1 len2 : Nat → Nat) (z1 z2 : Nat → Nat → Int) : Prop := n = n2 ∧ ∀ i, i < n → len1 i = len2 i ∧ ∀ x, x < len1 i → z1 i x = z2 i x

end Go.Proofs.Ytgmcfgkjhobiaaa

namespace Go.Proofs.Ytgmcfgkjhobiaaa
set_option linter.unusedVariables false
set_option linter.unusedSimpArgs false

/-- A set is looked up, or added. -/
def Add1 (M : Nat) (S : Nat → Prop) (SS : List (Nat → Bool)) (r : Int) (SS' : List (Nat → Bool)) : Prop :=
  ((∀ x, x < M → ¬ S x) ∧ r = -1 ∧ SS' = SS) ∨ ((∃ x, x < M ∧ S x) ∧ ∃ j : Nat, r = ((j : Nat) : Int) ∧ (∃ h : j < SS'.length, ∀ x, x < M → (SS'[j] x = true ↔ S x)) ∧
    (SS' = SS ∨ ∃ f, SS' = SS ++ [f] ∧ j = SS.length ∧ ∀ i (h : i < SS.length), ∃ x, x < M ∧ SS[i] x ≠ f x))
/-- A row of them, by classes. -/
inductive RowD (M : Nat) (T : Nat → Nat → Prop) (SS : List (Nat → Bool)) : Nat → List Int → List (Nat → Bool) → Prop
  | zero : RowD M T SS 0 [] SS
  | succ {c : Nat} {row : List Int} {S1 S2 : List (Nat → Bool)} {r : Int} : RowD M T SS c row S1 → Add1 M (T c) S1 r S2 → RowD M T SS (c + 1) (row ++ [r]) S2
/-- Rows, by states. -/
inductive RunD (M C : Nat) (T : (Nat → Bool) → Nat → Nat → Prop) (S0 : List (Nat → Bool)) : Nat → List (List Int) → List (Nat → Bool) → Prop
  | zero : RunD M C T S0 0 [] S0
  | succ {k : Nat} {R : List (List Int)} {row : List Int} {S1 S2 : List (Nat → Bool)} : RunD M C T S0 k R S1 → (h : k < S1.length) → RowD M (T S1[k]) S1 C row S2 → RunD M C T S0 (k + 1) (R ++ [row]) S2
theorem Add1.pre {M : Nat} {S : Nat → Prop} {SS S' : List (Nat → Bool)} {r : Int} (h : Add1 M S SS r S') : SS <+: S' := by
  rcases h with ⟨_, _, rfl⟩ | ⟨_, j, _, _, rfl | ⟨f, rfl, _⟩⟩
  · exact List.prefix_refl _
  · exact List.prefix_refl _
  · exact List.prefix_append _ _
theorem RowD.pre {M : Nat} {T : Nat → Nat → Prop} {SS S' : List (Nat → Bool)} {c : Nat} {row : List Int} (h : RowD M T SS c row S') : SS <+: S' := by
  induction h with
  | zero => exact List.prefix_refl _
  | succ _ h1 ih => exact ih.trans h1.pre
theorem RowD.len {M : Nat} {T : Nat → Nat → Prop} {SS S' : List (Nat → Bool)} {c : Nat} {row : List Int} (h : RowD M T SS c row S') : row.length = c ∧ S'.length ≤ SS.length + c := by
  induction h with
  | zero => exact ⟨rfl, by omega⟩
  | succ _ h1 ih =>
    refine ⟨by simp [ih.1], ?_⟩
    rcases h1 with ⟨_, _, rfl⟩ | ⟨_, j, _, _, rfl | ⟨f, rfl, _⟩⟩
    · omega
    · omega
    · simp; omega
theorem RunD.len {M C : Nat} {T : (Nat → Bool) → Nat → Nat → Prop} {S0 S' : List (Nat → Bool)} {k : Nat} {R : List (List Int)} (h : RunD M C T S0 k R S') : R.length = k := by
  induction h with
  | zero => rfl
  | succ _ _ _ ih => simp [ih]
theorem RunD.pre {M C : Nat} {T : (Nat → Bool) → Nat → Nat → Prop} {S0 S' : List (Nat → Bool)} {k : Nat} {R : List (List Int)} (h : RunD M C T S0 k R S') : S0 <+: S' := by
  induction h with
  | zero => exact List.prefix_refl _
  | succ _ _ h1 ih => exact ih.trans h1.pre
theorem RunD.rowlen {M C : Nat} {T : (Nat → Bool) → Nat → Nat → Prop} {S0 S' : List (Nat → Bool)} {k : Nat} {R : List (List Int)} (h : RunD M C T S0 k R S') : ∀ r ∈ R, r.length = C := by
  induction h with
  | zero => intro r hr; simp at hr
  | succ _ _ h1 ih =>
    intro r hr
    rcases List.mem_append.1 hr with hr | hr
    · exact ih r hr
    · rw [List.mem_singleton.1 hr]; exact h1.len.1
/-- What a place says. -/
def Tells (M : Nat) (SS : List (Nat → Bool)) (S : Nat → Prop) (r : Int) : Prop :=
  (r = -1 ∧ ∀ x, x < M → ¬ S x) ∨ ((∃ x, x < M ∧ S x) ∧ ∃ (j : Nat) (h : j < SS.length), r = ((j : Nat) : Int) ∧ ∀ x, x < M → (SS[j] x = true ↔ S x))
theorem Tells.pre {M : Nat} {SS S' : List (Nat → Bool)} {S : Nat → Prop} {r : Int} (h : Tells M SS S r) (hp : SS <+: S') : Tells M S' S r := by
  rcases h with h | ⟨h0, j, hj, e, h⟩
  · exact Or.inl h
  · refine Or.inr ⟨h0, j, Nat.lt_of_lt_of_le hj hp.length_le, e, fun x hx => ?_⟩
    rw [← hp.getElem hj]
    exact h x hx
theorem Add1.tells {M : Nat} {S : Nat → Prop} {SS S' : List (Nat → Bool)} {r : Int} (h : Add1 M S SS r S') : Tells M S' S r := by
  rcases h with ⟨h1, h2, _⟩ | ⟨h0, j, e, ⟨hj, h1⟩, _⟩
  · exact Or.inl ⟨h2, h1⟩
  · exact Or.inr ⟨h0, j, hj, e, h1⟩
theorem RowD.tells {M : Nat} {T : Nat → Nat → Prop} {SS S' : List (Nat → Bool)} {c : Nat} {row : List Int} (h : RowD M T SS c row S') : ∀ i (hi : i < row.length), Tells M S' (T i) row[i] := by
  induction h with
  | zero => intro i hi; simp at hi
  | @succ c row S1 S2 r h0 h1 ih =>
    intro i hi
    by_cases e : i < row.length
    · rw [List.getElem_append_left e]
      exact (ih i e).pre h1.pre
    · have e2 : i = row.length := by simp at hi; omega
      subst e2
      have e3 : row.length = c := h0.len.1
      rw [List.getElem_concat_length rfl]
      rw [e3]
      exact h1.tells
theorem RunD.tells {M C : Nat} {T : (Nat → Bool) → Nat → Nat → Prop} {S0 S' : List (Nat → Bool)} {k : Nat} {R : List (List Int)} (h : RunD M C T S0 k R S') : ∀ i (hi : i < R.length), ∃ hs : i < S'.length, ∀ c (hc : c < R[i].length), Tells M S' (T S'[i] c) R[i][c] := by
  induction h with
  | zero => intro i hi; simp at hi
  | @succ k R row S1 S2 h0 hk h1 ih =>
    intro i hi
    by_cases e : i < R.length
    · obtain ⟨hs, h2⟩ := ih i e
      refine ⟨Nat.lt_of_lt_of_le hs h1.pre.length_le, fun c hc => ?_⟩
      simp only [List.getElem_append_left e] at hc ⊢
      rw [← h1.pre.getElem hs]
      exact (h2 c hc).pre h1.pre
    · have e2 : i = R.length := by simp at hi; omega
      subst e2
      have e3 := h0.len
      refine ⟨by rw [e3]; exact Nat.lt_of_lt_of_le hk h1.pre.length_le, fun c hc => ?_⟩
      simp only [List.getElem_concat_length] at hc ⊢
      have := h1.tells c hc
      subst e3
      rw [← h1.pre.getElem hk]
      exact this

/-! ### Two runs beside each other -/
def Dist (M : Nat) (SS : List (Nat → Bool)) : Prop := ∀ i j (hi : i < SS.length) (hj : j < SS.length), (∀ x, x < M → SS[i] x = SS[j] x) → i = j
def Side (Rl : (Nat → Bool) → (Nat → Bool) → Prop) (A B : List (Nat → Bool)) : Prop := A.length = B.length ∧ ∀ i (h : i < A.length) (h' : i < B.length), Rl A[i] B[i]
theorem Add1.dist {M : Nat} {S : Nat → Prop} {SS S' : List (Nat → Bool)} {r : Int} (h : Add1 M S SS r S') (hd : Dist M SS) : Dist M S' := by
  rcases h with ⟨_, _, rfl⟩ | ⟨_, j, _, _, rfl | ⟨f, rfl, _, hf⟩⟩
  · exact hd
  · exact hd
  · intro i j hi hj he
    by_cases h1 : i < SS.length
    · by_cases h2 : j < SS.length
      · exact hd i j h1 h2 (fun x hx => by have := he x hx; rwa [List.getElem_append_left h1, List.getElem_append_left h2] at this)
      · have h3 : j = SS.length := by simp at hj; omega
        subst h3
        obtain ⟨x, hx, hn⟩ := hf i h1
        have := he x hx
        rw [List.getElem_append_left h1, List.getElem_concat_length rfl] at this
        exact absurd this hn
    · have h3 : i = SS.length := by simp at hi; omega
      subst h3
      by_cases h2 : j < SS.length
      · obtain ⟨x, hx, hn⟩ := hf j h2
        have := he x hx
        rw [List.getElem_append_left h2, List.getElem_concat_length rfl] at this
        exact absurd this.symm hn
      · simp at hj; omega
theorem RowD.dist {M : Nat} {T : Nat → Nat → Prop} {SS S' : List (Nat → Bool)} {c : Nat} {row : List Int} (h : RowD M T SS c row S') (hd : Dist M SS) : Dist M S' := by
  induction h with
  | zero => exact hd
  | succ _ h1 ih => exact h1.dist ih
theorem RunD.dist {M C : Nat} {T : (Nat → Bool) → Nat → Nat → Prop} {S0 S' : List (Nat → Bool)} {k : Nat} {R : List (List Int)} (h : RunD M C T S0 k R S') (hd : Dist M S0) : Dist M S' := by
  induction h with
  | zero => exact hd
  | succ _ _ h1 ih => exact h1.dist ih
/-- The sets of two runs that stand for each other. -/
structure Pairs (M M' : Nat) (Rl : (Nat → Bool) → (Nat → Bool) → Prop) : Prop where
  uniq : ∀ f g f' g', Rl f g → Rl f' g' → ((∀ x, x < M → f x = f' x) ↔ ∀ x, x < M' → g x = g' x)
theorem Add1.side {M M' : Nat} {Rl : (Nat → Bool) → (Nat → Bool) → Prop} (P : Pairs M M' Rl) {S S' : Nat → Prop} (hE : (∃ x, x < M ∧ S x) ↔ ∃ x, x < M' ∧ S' x)
    (hR : ∀ f g, (∃ x, x < M ∧ S x) → (∀ x, x < M → (f x = true ↔ S x)) → (∀ x, x < M' → (g x = true ↔ S' x)) → Rl f g) {A B A' B' : List (Nat → Bool)} {r r' : Int}
    (h : Add1 M S A r A') (h' : Add1 M' S' B r' B') (hd : Dist M A) (hd' : Dist M' B) (hs : Side Rl A B) : r = r' ∧ Side Rl A' B' := by
  have hAd := h.dist hd
  have hBd := h'.dist hd'
  rcases h with ⟨h1, rfl, rfl⟩ | ⟨h0, j, rfl, ⟨hj, hjs⟩, hA⟩
  · rcases h' with ⟨h1', rfl, rfl⟩ | ⟨h0', _⟩
    · exact ⟨rfl, hs⟩
    · obtain ⟨x, hx, hSx⟩ := hE.2 h0'
      exact absurd hSx (h1 x hx)
  · rcases h' with ⟨h1', rfl, rfl⟩ | ⟨h0', j', rfl, ⟨hj', hjs'⟩, hB⟩
    · obtain ⟨x, hx, hSx⟩ := hE.1 h0
      exact absurd hSx (h1' x hx)
    · have hrl := hR _ _ h0 hjs hjs'
      rcases hA with rfl | ⟨f, rfl, rfl, hf⟩
      · rcases hB with rfl | ⟨g, rfl, rfl, hg⟩
        · have hj2 : j < B'.length := hs.1 ▸ hj
          have h3 := (P.uniq _ _ _ _ (hs.2 j hj hj2) hrl).1 (fun x _ => rfl)
          have := hBd j j' hj2 hj' h3
          exact ⟨by rw [this], hs⟩
        · have hj2 : j < B.length := hs.1 ▸ hj
          have h3 := (P.uniq _ _ _ _ (hs.2 j hj hj2) hrl).1 (fun x _ => rfl)
          obtain ⟨x, hx, hn⟩ := hg j hj2
          have := h3 x hx
          rw [List.getElem_concat_length rfl] at this
          exact absurd this hn
      · rcases hB with rfl | ⟨g, rfl, rfl, hg⟩
        · have hj2 : j' < A.length := hs.1.symm ▸ hj'
          have h3 := (P.uniq _ _ _ _ (hs.2 j' hj2 hj') hrl).2 (fun x _ => rfl)
          obtain ⟨x, hx, hn⟩ := hf j' hj2
          have := h3 x hx
          rw [List.getElem_concat_length rfl] at this
          exact absurd this hn
        · refine ⟨by rw [hs.1], by simp [hs.1], fun i hi hi' => ?_⟩
          by_cases e : i < A.length
          · rw [List.getElem_append_left e, List.getElem_append_left (hs.1 ▸ e)]
            exact hs.2 i e (hs.1 ▸ e)
          · have e2 : i = A.length := by simp at hi; omega
            subst e2
            have e3 : (B ++ [g])[A.length]'hi' = (B ++ [g])[B.length]'hj' := by congr 1; exact hs.1
            rw [e3]
            exact hrl
theorem RowD.side {M M' : Nat} {Rl : (Nat → Bool) → (Nat → Bool) → Prop} (P : Pairs M M' Rl) {T T' : Nat → Nat → Prop} {C : Nat} (hE : ∀ c, c < C → ((∃ x, x < M ∧ T c x) ↔ ∃ x, x < M' ∧ T' c x))
    (hR : ∀ c, c < C → ∀ f g, (∃ x, x < M ∧ T c x) → (∀ x, x < M → (f x = true ↔ T c x)) → (∀ x, x < M' → (g x = true ↔ T' c x)) → Rl f g) {A B : List (Nat → Bool)} (hd : Dist M A) (hd' : Dist M' B) (hs : Side Rl A B) :
    ∀ {c : Nat} {row row' : List Int} {A' B' : List (Nat → Bool)}, c ≤ C → RowD M T A c row A' → RowD M' T' B c row' B' → row = row' ∧ Side Rl A' B' := by
  intro c
  induction c with
  | zero =>
    intro row row' A' B' _ h h'
    cases h
    cases h'
    exact ⟨rfl, hs⟩
  | succ c ih =>
    intro row row' A' B' hc h h'
    cases h with
    | succ k1 k2 =>
    cases h' with
    | succ k1' k2' =>
    obtain ⟨e1, hs1⟩ := ih (by omega) k1 k1'
    obtain ⟨e2, hs2⟩ := k2.side P (hE c (by omega)) (hR c (by omega)) k2' (k1.dist hd) (k1'.dist hd') hs1
    exact ⟨by rw [e1, e2], hs2⟩
theorem RunD.side {M M' C : Nat} {Rl : (Nat → Bool) → (Nat → Bool) → Prop} (P : Pairs M M' Rl) {T T' : (Nat → Bool) → Nat → Nat → Prop} (hE : ∀ f g, Rl f g → ∀ c, c < C → ((∃ x, x < M ∧ T f c x) ↔ ∃ x, x < M' ∧ T' g c x))
    (hR : ∀ f g, Rl f g → ∀ c, c < C → ∀ f2 g2, (∃ x, x < M ∧ T f c x) → (∀ x, x < M → (f2 x = true ↔ T f c x)) → (∀ x, x < M' → (g2 x = true ↔ T' g c x)) → Rl f2 g2) {A B : List (Nat → Bool)} (hd : Dist M A) (hd' : Dist M' B) (hs : Side Rl A B) :
    ∀ {k : Nat} {R R' : List (List Int)} {A' B' : List (Nat → Bool)}, RunD M C T A k R A' → RunD M' C T' B k R' B' → R = R' ∧ Side Rl A' B' := by
  intro k
  induction k with
  | zero =>
    intro R R' A' B' h h'
    cases h
    cases h'
    exact ⟨rfl, hs⟩
  | succ k ih =>
    intro R R' A' B' h h'
    cases h with
    | succ k1 hk k2 =>
    cases h' with
    | succ k1' hk' k2' =>
    obtain ⟨e1, hs1⟩ := ih k1 k1'
    have hrl := hs1.2 k hk hk'
    obtain ⟨e2, hs2⟩ := RowD.side P (hE _ _ hrl) (hR _ _ hrl) (k1.dist hd) (k1'.dist hd') hs1 (Nat.le_refl _) k2 k2'
    exact ⟨by rw [e1, e2], hs2⟩
/-- A run's beginning. -/
theorem RunD.cut {M C : Nat} {T : (Nat → Bool) → Nat → Nat → Prop} {S0 : List (Nat → Bool)} : ∀ {k : Nat} {R : List (List Int)} {S' : List (Nat → Bool)}, RunD M C T S0 k R S' → ∀ i, i ≤ k → ∃ R1 S1, RunD M C T S0 i R1 S1 ∧ S1 <+: S' ∧ (i < k → i < S1.length) := by
  intro k
  induction k with
  | zero =>
    intro R S' h i hi
    exact ⟨R, S', by rw [show i = 0 by omega]; exact h, List.prefix_refl _, fun h => by omega⟩
  | succ k ih =>
    intro R S' h i hi
    cases h with
    | succ k1 hk k2 =>
    by_cases e : i = k + 1
    · subst e
      exact ⟨_, S', .succ k1 hk k2, List.prefix_refl _, fun h => by omega⟩
    · by_cases e2 : i = k
      · subst e2
        exact ⟨_, _, k1, k2.pre, fun _ => hk⟩
      · obtain ⟨R1, S1, h1, h2, h3⟩ := ih k1 i (by omega)
        exact ⟨R1, S1, h1, h2.trans k2.pre, fun _ => h3 (by omega)⟩
end Go.Proofs.Ytgmcfgkjhobiaaa

namespace Go.Proofs.Ytgmcfgkjhobiaaa
open Go.RowKit Go.Maps Go.WideElems Go.ChangeMaps Go.MapKept
set_option linter.unusedVariables false
set_option linter.unusedSimpArgs false

/-- A net's steps in memory. -/
def StAt (w : World) (B : Nat) (a : Option Addr) (cl : (Nat → Bool) → List Nat) (l : List En) : Prop := 0 < l.length → ∃ g off, a = some ⟨g, off, none⟩ ∧ g < B ∧
  ∀ k (h : k < l.length), ∃ a' c', w.cell? ⟨g, off + k * 2, none⟩ = some (.slice a' (cl l[k].p).length c') ∧ w.cell? ⟨g, off + k * 2 + 1, none⟩ = some (.int .i64 ((l[k].t : Nat) : Int)) ∧ IAt w B a' (cl l[k].p)
theorem StAt.below {w w' : World} {B : Nat} {a : Option Addr} {cl : (Nat → Bool) → List Nat} {l : List En} (h : StAt w B a cl l) (k : Below B w w') : StAt w' B a cl l := by
  intro h0
  obtain ⟨g, off, e, hg, hc⟩ := h h0
  refine ⟨g, off, e, hg, fun j hj => ?_⟩
  obtain ⟨a', c', h1, h2, h3⟩ := hc j hj
  exact ⟨a', c', (k.cell (p := ⟨g, off + j * 2, none⟩) hg).trans h1, (k.cell (p := ⟨g, off + j * 2 + 1, none⟩) hg).trans h2, h3.below k⟩
structure NetSt (w : World) (B bn gS M cS : Nat) (aS : Nat → Option Addr) (cR : Nat → Nat) (cl : (Nat → Bool) → List Nat) (L : List En) : Prop where
  blk : bn < B ∧ gS < B
  fld : w.cell? ⟨bn, 259, none⟩ = some (.slice (some ⟨gS, 0, none⟩) M cS)
  row : ∀ i, i < M → w.cell? ⟨gS, i, none⟩ = some (.slice (aS i) (rowB L i).length (cR i))
  at_ : ∀ i, i < M → StAt w B (aS i) cl (rowB L i)
theorem NetSt.below {w w' : World} {B bn gS M cS : Nat} {aS : Nat → Option Addr} {cR : Nat → Nat} {cl : (Nat → Bool) → List Nat} {L : List En} (h : NetSt w B bn gS M cS aS cR cl L) (k : Below B w w') : NetSt w' B bn gS M cS aS cR cl L :=
  ⟨h.blk, (k.cell (p := ⟨bn, 259, none⟩) h.blk.1).trans h.fld, fun i hi => (k.cell (p := ⟨gS, i, none⟩) h.blk.2).trans (h.row i hi), fun i hi => (h.at_ i hi).below k⟩

/-- The targets so far. -/
structure TgAt (w3 : World) (B gT C : Nat) (vs : Nat → Value) (tg : Nat → List Nat) (wq : World) : Prop where
  grid : GridAt wq w3.heap.size 24 3 1 gT C vs (fun c => (tg c).length) (fun c => nums64 (tg c))
  kept : Kept [] [gT] w3 wq
  below : Below B w3 wq
  lo : B ≤ gT ∧ B ≤ w3.heap.size
theorem TgAt.keep {w3 wq w1 : World} {B gT C : Nat} {vs : Nat → Value} {tg : Nat → List Nat} (h : TgAt w3 B gT C vs tg wq) (k : Below wq.heap.size wq w1) : TgAt w3 B gT C vs tg w1 :=
  ⟨h.grid.keep k, h.kept.below k, h.below.trans (k.mono (Nat.le_trans h.lo.2 h.below.size)), h.lo⟩
theorem TgAt.app {w3 W w6 : World} {B gT C : Nat} {vs : Nat → Value} {tg : Nat → List Nat} (h : TgAt w3 B gT C vs tg W) {x t : Nat} (hx : x < C) {v' : Value} {p : Nat} (hp : (tg x).length = p)
    (ho : w6.ownsRow w3.heap.size 3 1 v' (p + 1) (nums64 (tg x) ++ [.int .i64 ((t : Nat) : Int)])) (hg : W.grownBy w6 (vs x).ownBlock)
    (hat : ∀ b, v'.ownBlock = some b → (vs x).ownBlock = some b ∨ W.heap.size ≤ b) :
    TgAt w3 B gT C (fun j => if j = x then v' else vs j) (fun j => if j = x then tg x ++ [t] else tg j) (w6.setCell ⟨gT, x, none⟩ v') := by
  have hr := h.grid.2.1 x hx
  have hsz := h.below.size
  refine ⟨(h.grid.app (by decide) hx ho hg hat).congr (fun i hi => ?_), ?_, (below_grown_own h.below (ownsRow_base hr h.lo.2) (Nat.le_trans h.lo.2 hsz) hg |> fun k => k.setCell (p := ⟨gT, x, none⟩) h.lo.1 v'), h.lo⟩
  · by_cases e : i = x
    · subst e
      refine ⟨by simp [hp], by simp [nums64_snoc]⟩
    · simp [e]
  · exact (h.kept.grown hg (fun g e => Or.inr (Or.inl (own_above hr g e)))).setCell ⟨gT, x, none⟩ v' (Or.inl (by simp))
theorem TgAt.made (V : World) (B C : Nat) (w3 : World) (hB : B ≤ V.heap.size) (k : Below (V.alloc (.cells (madeCells #[.slice none 0 0] C) 24)).heap.size (V.alloc (.cells (madeCells #[.slice none 0 0] C) 24)) w3) :
    TgAt w3 B V.heap.size C (fun _ => .slice none 0 0) (fun _ => []) w3 :=
  ⟨(GridAt.made V w3.heap.size 24 3 1 C).keep k, Kept.refl _ _ _, Below.refl _ _, hB, by have := k.size; simp at this; omega⟩

/-- The rows that were made: none of their blocks may change. -/
structure NxAt (w : World) (B : Nat) (bs : List Nat) (vN : Value) (C : Nat) (gs : List Nat) (R : List (List Int)) : Prop where
  own : w.ownsRow B 24 1 vN R.length (gs.map fun g => .slice (some ⟨g, 0, none⟩) C C)
  len : gs.length = R.length
  row : ∀ i (h : i < gs.length) (h' : i < R.length), St w 3 gs[i] (ints R[i]).toArray ∧ gs[i] ∉ bs
theorem NxAt.keep {w w1 : World} {B C : Nat} {bs gs : List Nat} {vN : Value} {R : List (List Int)} (h : NxAt w B bs vN C gs R) (k : Below w.heap.size w w1) : NxAt w1 B bs vN C gs R :=
  ⟨ownsRow_keep h.own k, h.len, fun i h1 h2 => ⟨(h.row i h1 h2).1.keep k, (h.row i h1 h2).2⟩⟩
theorem NxAt.kept {w w1 : World} {B C : Nat} {bs bs' gs : List Nat} {vN : Value} {R : List (List Int)} (h : NxAt w B bs vN C gs R) (k : Kept [] bs w w1) (hN : ∀ b, vN.ownBlock = some b → b ∉ bs) (hb : ∀ x ∈ bs', x ∈ bs ∨ w.heap.size ≤ x) : NxAt w1 B bs' vN C gs R :=
  ⟨own_kept h.own k (by simp) hN, h.len, fun i h1 h2 => ⟨(h.row i h1 h2).1.kept k (by simp) (h.row i h1 h2).2, fun hm => by
    rcases hb _ hm with h3 | h3
    · exact (h.row i h1 h2).2 h3
    · have := (h.row i h1 h2).1.lt; omega⟩⟩
end Go.Proofs.Ytgmcfgkjhobiaaa

namespace Go.Proofs.Ytgmcfgkjhobiaaa
open Go.RowKit Go.Maps Go.WideElems Go.ChangeMaps Go.MapKept
set_option linter.unusedVariables false
set_option linter.unusedSimpArgs false

theorem Kept.cell9 {bs : List Nat} {w w' : World} (k : Kept [] bs w w') {g i : Nat} (hg : g ∉ bs) (hl : g < w.heap.size) : w'.cell? ⟨g, i, none⟩ = w.cell? ⟨g, i, none⟩ := by
  have h : w'.heap[g]? = w.heap[g]? := by rw [Array.getElem?_eq_getElem hl]; exact k g _ (Array.getElem?_eq_getElem hl) (fun _ _ _ _ => by simp) hg
  simp only [World.cell?, h]
theorem FR.none {L : List En} {A : Nat → Prop} (h : ∀ x, ¬ A x) (x : Nat) : ¬ FR L A x := by
  intro k
  induction k with
  | base h1 => exact h _ h1
  | step _ _ _ _ _ _ ih => exact ih
end Go.Proofs.Ytgmcfgkjhobiaaa
