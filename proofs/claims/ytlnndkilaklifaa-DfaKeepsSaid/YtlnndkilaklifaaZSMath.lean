import Derived.Test.YtlnndkilaklifaaZSMarkFn
import Derived.Test.YtlnndkilaklifaaZSNetF
namespace Go.Proofs.Ytlnndkilaklifaa
set_option linter.unusedVariables false
set_option linter.unusedSimpArgs false

theorem cls_inj9 (K : Nat → Lit) {x y : Nat} (h : cls K x = cls K y) : K x = K y := by
  have hx : cls K (fst K x) = cls K x := by unfold cls; rw [fst_fst]
  have hy : cls K (fst K y) = cls K y := by unfold cls; rw [fst_fst]
  have e : fst K x = fst K y := by
    rcases Nat.lt_trichotomy (fst K x) (fst K y) with h1 | h1 | h1
    · have h2 := cls_lt K (fst K x) (fst K y) h1
      have h3 : nrep K (fst K y) = cls K y := rfl
      omega
    · exact h1
    · have h2 := cls_lt K (fst K y) (fst K x) h1
      have h3 : nrep K (fst K x) = cls K x := rfl
      omega
  rw [← (fst_spec K x).2.1, ← (fst_spec K y).2.1, e]
noncomputable def rpO (K : Nat → Lit) (c : Nat) : Nat := (rl K 256).getD c 0
/-- A class's byte stands for all of the class. -/
theorem rep_key (K : Nat → Lit) (b : Nat) (hb : b < 256) : cls K b < (rl K 256).length ∧ K (rpO K (cls K b)) = K b := by
  have h1 := cls_lt K b 256 hb
  have h2 : cls K b < (rl K 256).length := by rw [rl_len]; omega
  refine ⟨h2, cls_inj9 K ?_⟩
  have : rpO K (cls K b) = (rl K 256)[cls K b] := by simp [rpO, List.getD_eq_getElem?_getD, h2]
  rw [this]
  exact (rl_at K 256 (cls K b) h2).1
theorem KOf_eq (L : List En) {x y : Nat} (h : KOf L x = KOf L y) : ∀ e ∈ L, e.b = false → e.p x = e.p y := by
  intro e he hb
  have h1 := (keyLit_eq _ _ _ _).1 h
  have hm : e.p ∈ setsOf (L.map En.z) := by
    unfold setsOf
    exact List.mem_map.2 ⟨e.z, List.mem_filter.2 ⟨List.mem_map.2 ⟨e, he, rfl⟩, by simp [En.z, hb]⟩, rfl⟩
  obtain ⟨i, hi, e1⟩ := List.getElem_of_mem hm
  have h2 := h1 i hi
  have h3 : setF (L.map En.z) i = e.p := by simp [setF, List.getD_eq_getElem?_getD, hi, e1]
  rw [h3] at h2
  exact h2
theorem rep_p (L : List En) (b : Nat) (hb : b < 256) : ∀ e ∈ L, e.b = false → e.p (rpO (KOf L) (cls (KOf L) b)) = e.p b := KOf_eq L (rep_key (KOf L) b hb).2
theorem Mv.byte {L : List En} {A : Nat → Prop} {c d : Nat} (h : ∀ e ∈ L, e.b = false → e.p c = e.p d) (x : Nat) : Mv L A c x ↔ Mv L A d x :=
  ⟨fun ⟨e, h1, h2, h3, h4, h5⟩ => ⟨e, h1, h2, by rw [← h e h1 h2]; exact h3, h4, h5⟩, fun ⟨e, h1, h2, h3, h4, h5⟩ => ⟨e, h1, h2, by rw [h e h1 h2]; exact h3, h4, h5⟩⟩
theorem Mv.none {L : List En} {A : Nat → Prop} (h : ∀ x, ¬ A x) (c x : Nat) : ¬ Mv L A c x := fun ⟨e, _, _, _, h4, _⟩ => h _ h4
/-- By names. -/
theorem Least.nam {nm : List Nat} (hn : nm.Nodup) {mf : Nat → Int} {A' A : Nat → Prop} (h : Nam nm A' A) {r : Int} (hr : Least (fun i => mf (nm.getD i 0)) A' r) : Least mf A r := by
  rcases hr with ⟨h1, h2⟩ | ⟨h1, ⟨x, hx, h2⟩, h3⟩
  · refine Or.inl ⟨h1, fun x hx => ?_⟩
    obtain ⟨i, hi, rfl⟩ := (h.2 x).1 hx
    exact h2 i hi
  · refine Or.inr ⟨h1, ⟨nm.getD x 0, (h.2 _).2 ⟨x, hx, rfl⟩, h2⟩, fun y hy => ?_⟩
    obtain ⟨i, hi, rfl⟩ := (h.2 y).1 hy
    exact h3 i hi
theorem Least.empty {mf : Nat → Int} {A : Nat → Prop} {r : Int} (h : Least mf A r) (he : ∀ x, ¬ A x) : r = -1 := by
  rcases h with ⟨h1, _⟩ | ⟨_, ⟨x, hx, _⟩, _⟩
  · exact h1
  · exact absurd hx (he x)
/-- Where a class leads. -/
def TTo (L : List En) (M : Nat) (rp : Nat → Nat) (f : Nat → Bool) (c x : Nat) : Prop := FR L (Mv L (fun y => y < M ∧ f y = true) (rp c)) x
/-- The names of a net's states, and its run. -/
structure Made (L : List En) (F : Nat) (nm : List Nat) (L' : List En) (f0 : Nat) (s0 : Nat → Bool) (k : Nat) (R : List (List Int)) (SS : List (Nat → Bool)) : Prop where
  ren : L = L'.map (En.ren nm)
  nd : nm.Nodup
  bd : ∀ e ∈ L', e.f < nm.length ∧ e.t < nm.length
  hf : nm[f0]? = some F
  src : ∀ x ∈ nm, Src L F F x
  st : ∀ x, x < nm.length → (s0 x = true ↔ FR L' (fun y => y = f0) x)
  run : RunD nm.length (rl (KOf L) 256).length (TTo L' nm.length (rpO (KOf L))) [s0] k R SS
theorem Made.rep {L : List En} {F f0 k : Nat} {nm : List Nat} {L' : List En} {s0 : Nat → Bool} {R : List (List Int)} {SS : List (Nat → Bool)} (h : Made L F nm L' f0 s0 k R SS) (b : Nat) (hb : b < 256) : ∀ e ∈ L', e.b = false → e.p (rpO (KOf L) (cls (KOf L) b)) = e.p b := by
  intro e he h2
  have h3 : e.ren nm ∈ L := by rw [h.ren]; exact List.mem_map.2 ⟨e, he, rfl⟩
  exact rep_p L b hb (e.ren nm) h3 h2
/-- What a state says of a text. -/
def Says (M : Nat) (SS : List (Nat → Bool)) (A : Nat → Prop) (a : Int) : Prop := (a = -1 ∧ ∀ x, ¬ A x) ∨ ∃ (j : Nat) (h : j < SS.length), a = ((j : Nat) : Int) ∧ ∀ x, x < M → (SS[j] x = true ↔ A x)
theorem Made.start {L : List En} {F f0 k : Nat} {nm : List Nat} {L' : List En} {s0 : Nat → Bool} {R : List (List Int)} {SS : List (Nat → Bool)} (h : Made L F nm L' f0 s0 k R SS) (z : Nat → Nat) : Says nm.length SS (RunP L' f0 z 0) 0 := by
  have hp := h.run.pre
  have h0 : 0 < SS.length := Nat.lt_of_lt_of_le (by simp) hp.length_le
  have h1 : s0 = SS[0] := by
    have := hp.getElem (i := 0) (by simp)
    simpa using this
  exact Or.inr ⟨0, h0, rfl, fun x hx => by rw [← h1]; exact h.st x hx⟩
/-- A step. -/
theorem Made.step {L : List En} {F f0 k : Nat} {nm : List Nat} {L' : List En} {s0 : Nat → Bool} {R : List (List Int)} {SS : List (Nat → Bool)} (h : Made L F nm L' f0 s0 k R SS) (hk : SS.length = k) (z : Nat → Nat) (t j : Nat) (hz : z t < 256) (hs : Says nm.length SS (RunP L' f0 z t) ((j : Nat) : Int)) :
    ∃ (hj : j < R.length) (hc : cls (KOf L) (z t) < R[j].length), Says nm.length SS (RunP L' f0 z (t + 1)) R[j][cls (KOf L) (z t)] := by
  have hRl := h.run.len
  obtain ⟨hc1, _⟩ := rep_key (KOf L) (z t) hz
  rcases hs with ⟨h1, _⟩ | ⟨j', hj', e, hS⟩
  · omega
  · have e2 : j' = j := by omega
    subst e2
    have hjR : j' < R.length := by omega
    have hrow := h.run.rowlen R[j'] (List.getElem_mem hjR)
    refine ⟨hjR, by omega, ?_⟩
    obtain ⟨hs2, ht⟩ := h.run.tells j' hjR
    have htc := ht (cls (KOf L) (z t)) (by omega)
    have hA : ∀ x, TTo L' nm.length (rpO (KOf L)) SS[j'] (cls (KOf L) (z t)) x ↔ RunP L' f0 z (t + 1) x := by
      intro x
      show FR L' _ x ↔ FR L' _ x
      refine FR.congr (fun y => ?_) x
      rw [Mv.byte (h.rep (z t) hz) y]
      refine Mv.congr (fun w => ⟨fun hw => (hS w hw.1).1 hw.2, fun hw => ?_⟩) _ y
      have hlt : w < nm.length := RunP.lt (f := f0) (List.getElem?_eq_some_iff.1 h.hf).1 (fun e he => (h.bd e he).2) t hw
      exact ⟨hlt, (hS w hlt).2 hw⟩
    rcases htc with ⟨h1, h2⟩ | ⟨_, j2, hj2, h1, h2⟩
    · refine Or.inl ⟨h1, fun x hx => ?_⟩
      have hlt : x < nm.length := RunP.lt (f := f0) (List.getElem?_eq_some_iff.1 h.hf).1 (fun e he => (h.bd e he).2) (t + 1) hx
      exact h2 x hlt ((hA x).2 hx)
    · exact Or.inr ⟨j2, hj2, h1, fun x hx => (h2 x hx).trans (hA x)⟩
theorem RunP.dead {L : List En} {f : Nat} {z : Nat → Nat} {t : Nat} (h : ∀ x, ¬ RunP L f z t x) : ∀ x, ¬ RunP L f z (t + 1) x := fun x => FR.none (Mv.none h (z t)) x
theorem RunP.dead_le {L : List En} {f : Nat} {z : Nat → Nat} {t : Nat} (h : ∀ x, ¬ RunP L f z t x) : ∀ m, t ≤ m → ∀ x, ¬ RunP L f z m x := by
  intro m hm
  induction m with
  | zero => have : t = 0 := by omega
            subst this; exact h
  | succ m ih =>
    by_cases e : t = m + 1
    · subst e; exact h
    · exact RunP.dead (ih (by omega))
theorem Made.names {L : List En} {F f0 k : Nat} {nm : List Nat} {L' : List En} {s0 : Nat → Bool} {R : List (List Int)} {SS : List (Nat → Bool)} (h : Made L F nm L' f0 s0 k R SS) (z : Nat → Nat) (m : Nat) : Nam nm (RunP L' f0 z m) (RunP L F z m) := by
  have := Nam.run h.nd h.bd (List.getElem?_eq_some_iff.1 h.hf).1 z m
  rw [← h.ren] at this
  have e : nm.getD f0 0 = F := by simp [List.getD_eq_getElem?_getD, h.hf]
  rwa [e] at this
/-- The mark that is told is the text's. -/
theorem Made.mark {L : List En} {F f0 k : Nat} {nm : List Nat} {L' : List En} {s0 : Nat → Bool} {R : List (List Int)} {SS : List (Nat → Bool)} (h : Made L F nm L' f0 s0 k R SS) {mf : Nat → Int} {z : Nat → Nat} {m j : Nat} (hj : j < SS.length) {r : Int} (hs : Says nm.length SS (RunP L' f0 z m) ((j : Nat) : Int))
    (hr : Least (fun i => mf (nm.getD i 0)) (fun x => x < nm.length ∧ SS[j] x = true) r) : Least mf (RunP L F z m) r := by
  rcases hs with ⟨h1, _⟩ | ⟨j', hj', e, hS⟩
  · omega
  · have e2 : j' = j := by omega
    subst e2
    refine Least.nam h.nd (h.names z m) (hr.congr (fun x => ⟨fun hx => (hS x hx.1).1 hx.2, fun hx => ?_⟩))
    have hlt : x < nm.length := RunP.lt (f := f0) (List.getElem?_eq_some_iff.1 h.hf).1 (fun e he => (h.bd e he).2) m hx
    exact ⟨hlt, (hS x hlt).2 hx⟩
/-- No set but the start that no class leads to. -/
theorem Add1.src {M : Nat} {S : Nat → Prop} {SS S' : List (Nat → Bool)} {r : Int} (h : Add1 M S SS r S') : ∀ i (hi : i < S'.length), SS.length ≤ i → (∃ x, x < M ∧ S x) ∧ ∀ x, x < M → (S'[i] x = true ↔ S x) := by
  intro i hi hl
  rcases h with ⟨_, _, rfl⟩ | ⟨h0, j, _, ⟨hj, hjs⟩, rfl | ⟨f, rfl, rfl, _⟩⟩
  · omega
  · omega
  · have : i = SS.length := by simp at hi; omega
    subst this
    exact ⟨h0, hjs⟩
theorem RowD.src {M : Nat} {T : Nat → Nat → Prop} {SS S' : List (Nat → Bool)} {c : Nat} {row : List Int} (h : RowD M T SS c row S') : ∀ i (hi : i < S'.length), SS.length ≤ i → ∃ d, d < c ∧ (∃ x, x < M ∧ T d x) ∧ ∀ x, x < M → (S'[i] x = true ↔ T d x) := by
  induction h with
  | zero => intro i hi hl; omega
  | @succ c row S1 S2 r h0 h1 ih =>
    intro i hi hl
    by_cases e : i < S1.length
    · obtain ⟨d, hd, h2, h3⟩ := ih i e hl
      refine ⟨d, by omega, h2, fun x hx => ?_⟩
      rw [← h1.pre.getElem e]
      exact h3 x hx
    · obtain ⟨h2, h3⟩ := h1.src i hi (by omega)
      exact ⟨c, by omega, h2, h3⟩
theorem RunD.src {M C : Nat} {T : (Nat → Bool) → Nat → Nat → Prop} {S0 S' : List (Nat → Bool)} {k : Nat} {R : List (List Int)} (h : RunD M C T S0 k R S') : ∀ i (hi : i < S'.length), S0.length ≤ i → ∃ (i' : Nat) (hi' : i' < S'.length) (d : Nat), i' < i ∧ d < C ∧ (∃ x, x < M ∧ T S'[i'] d x) ∧ ∀ x, x < M → (S'[i] x = true ↔ T S'[i'] d x) := by
  induction h with
  | zero => intro i hi hl; omega
  | @succ k R row S1 S2 h0 hk h1 ih =>
    intro i hi hl
    by_cases e : i < S1.length
    · obtain ⟨i', hi', d, hlt, hd, h2, h3⟩ := ih i e hl
      refine ⟨i', Nat.lt_of_lt_of_le hi' h1.pre.length_le, d, hlt, hd, ?_, fun x hx => ?_⟩
      · rw [← h1.pre.getElem hi']; exact h2
      · rw [← h1.pre.getElem e, ← h1.pre.getElem hi']
        exact h3 x hx
    · obtain ⟨d, hd, h2, h3⟩ := h1.src i hi (by omega)
      refine ⟨k, Nat.lt_of_lt_of_le hk h1.pre.length_le, d, by omega, hd, ?_, fun x hx => ?_⟩
      · rw [← h1.pre.getElem hk]; exact h2
      · rw [← h1.pre.getElem hk]
        exact h3 x hx
end Go.Proofs.Ytlnndkilaklifaa
