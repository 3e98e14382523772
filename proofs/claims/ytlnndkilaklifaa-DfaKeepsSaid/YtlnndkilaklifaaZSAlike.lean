import Derived.Test.YtlnndkilaklifaaZSAwk
namespace Go.Proofs.Ytlnndkilaklifaa
open Go.RowKit Go.Maps Go.WideElems Go.ChangeMaps Go.MapKept
set_option linter.unusedVariables false
set_option linter.unusedSimpArgs false

/-- A set by the names of its states. -/
def ByN (nm : List Nat) (f : Nat → Bool) (x : Nat) : Prop := ∃ i, (i < nm.length ∧ f i = true) ∧ nm.getD i 0 = x
theorem byN_nam (nm : List Nat) (f : Nat → Bool) : Nam nm (fun i => i < nm.length ∧ f i = true) (ByN nm f) := ⟨fun i h => h.1, fun x => Iff.rfl⟩
theorem byN_at {nm : List Nat} (hn : nm.Nodup) (f : Nat → Bool) {i : Nat} (hi : i < nm.length) : ByN nm f (nm.getD i 0) ↔ f i = true := by
  rw [Nam.at hn (byN_nam nm f) hi]
  exact ⟨fun h => h.2, fun h => ⟨hi, h⟩⟩
theorem byN_eq {nm : List Nat} (hn : nm.Nodup) (f g : Nat → Bool) : (∀ x, x < nm.length → f x = g x) ↔ ∀ x, ByN nm f x ↔ ByN nm g x := by
  constructor
  · rintro h x
    exact ⟨fun ⟨i, ⟨h1, h2⟩, h3⟩ => ⟨i, ⟨h1, by rw [← h i h1]; exact h2⟩, h3⟩, fun ⟨i, ⟨h1, h2⟩, h3⟩ => ⟨i, ⟨h1, by rw [h i h1]; exact h2⟩, h3⟩⟩
  · intro h x hx
    rw [Bool.eq_iff_iff, ← byN_at hn f hx, ← byN_at hn g hx]
    exact h _
/-- What a making's names, and its run, are. -/
structure MadeW (L : List En) (F : Nat) (nm : List Nat) (L' : List En) (f0 : Nat) (s0 : Nat → Bool) (k : Nat) (R : List (List Int)) (SS : List (Nat → Bool)) : Prop where
  ren : L = L'.map (En.ren nm)
  nd : nm.Nodup
  bd : ∀ e ∈ L', e.f < nm.length ∧ e.t < nm.length
  hf : nm[f0]? = some F
  st : ∀ x, x < nm.length → (s0 x = true ↔ FR L' (fun y => y = f0) x)
  run : RunD nm.length (rl (KOf L) 256).length (TTo L' nm.length (rpO (KOf L))) [s0] k R SS
theorem Made.w {L : List En} {F f0 k : Nat} {nm : List Nat} {L' : List En} {s0 : Nat → Bool} {R : List (List Int)} {SS : List (Nat → Bool)} (h : Made L F nm L' f0 s0 k R SS) : MadeW L F nm L' f0 s0 k R SS := ⟨h.ren, h.nd, h.bd, h.hf, h.st, h.run⟩
/-- Where a class leads, by names. -/
theorem byN_to {L : List En} {F f0 k : Nat} {nm : List Nat} {L' : List En} {s0 : Nat → Bool} {R : List (List Int)} {SS : List (Nat → Bool)} (h : MadeW L F nm L' f0 s0 k R SS) (rp : Nat → Nat) (f : Nat → Bool) (c : Nat) : Nam nm (TTo L' nm.length rp f c) (FR L (Mv L (ByN nm f) (rp c))) := by
  have h1 := Nam.fr h.nd h.bd (Nam.mv h.nd h.bd (byN_nam nm f) (rp c))
  rw [← h.ren] at h1
  exact h1
theorem byN_of {nm : List Nat} {f : Nat → Bool} {P' P : Nat → Prop} (h : Nam nm P' P) (hf : ∀ x, x < nm.length → (f x = true ↔ P' x)) (x : Nat) : ByN nm f x ↔ P x := by
  rw [h.2 x]
  exact ⟨fun ⟨i, ⟨h1, h2⟩, h3⟩ => ⟨i, (hf i h1).1 h2, h3⟩, fun ⟨i, h1, h2⟩ => ⟨i, ⟨h.1 i h1, (hf i (h.1 i h1)).2 h1⟩, h2⟩⟩
/-- Two makings of one automaton go side by side. -/
theorem made_side {L : List En} {F f1 k1 f2 k2 : Nat} {nm1 nm2 : List Nat} {L1 L2 : List En} {s1 s2 : Nat → Bool} {R1 R2 : List (List Int)} {SS1 SS2 : List (Nat → Bool)} (h1 : MadeW L F nm1 L1 f1 s1 k1 R1 SS1) (h2 : MadeW L F nm2 L2 f2 s2 k2 R2 SS2) :
    ∀ {k : Nat} {R R' : List (List Int)} {A B : List (Nat → Bool)}, RunD nm1.length (rl (KOf L) 256).length (TTo L1 nm1.length (rpO (KOf L))) [s1] k R A → RunD nm2.length (rl (KOf L) 256).length (TTo L2 nm2.length (rpO (KOf L))) [s2] k R' B → R = R' ∧ Side (fun f g => ∀ x, ByN nm1 f x ↔ ByN nm2 g x) A B := by
  have start : ∀ {nm : List Nat} {L' : List En} {s0 : Nat → Bool} {f0 k : Nat} {R : List (List Int)} {SS : List (Nat → Bool)}, MadeW L F nm L' f0 s0 k R SS → ∀ x, ByN nm s0 x ↔ FR L (fun y => y = F) x := by
    intro nm L' s0 f0 k R SS h
    have h3 := Nam.run h.nd h.bd (List.getElem?_eq_some_iff.1 h.hf).1 (fun _ => 0) 0
    rw [← h.ren, show nm.getD f0 0 = F by simp [List.getD_eq_getElem?_getD, h.hf]] at h3
    exact byN_of h3 h.st
  intro k R R' A B
  refine RunD.side (M := nm1.length) (M' := nm2.length) (Rl := fun f g => ∀ x, ByN nm1 f x ↔ ByN nm2 g x) (A := [s1]) (B := [s2]) ⟨fun f g f' g' a b => ?_⟩ (fun f g hfg c hc => ?_) (fun f g hfg c hc f' g' _ hf hg x => ?_) (fun i j hi hj _ => by simp at hi hj; omega) (fun i j hi hj _ => by simp at hi hj; omega) ⟨rfl, fun i hi hi' x => ?_⟩
  · rw [byN_eq h1.nd, byN_eq h2.nd]
    exact ⟨fun h x => by rw [← a x, ← b x]; exact h x, fun h x => by rw [a x, b x]; exact h x⟩
  · have n1 := byN_to h1 (rpO (KOf L)) f c
    have n2 := byN_to h2 (rpO (KOf L)) g c
    have e : ∀ x, FR L (Mv L (ByN nm1 f) (rpO (KOf L) c)) x ↔ FR L (Mv L (ByN nm2 g) (rpO (KOf L) c)) x := fun x => FR.congr (fun y => Mv.congr (fun w => hfg w) _ y) x
    constructor
    · rintro ⟨x, hx, hT⟩
      obtain ⟨i, hi, _⟩ := (n2.2 _).1 ((e _).1 ((n1.2 _).2 ⟨x, hT, rfl⟩))
      exact ⟨i, n2.1 i hi, hi⟩
    · rintro ⟨x, hx, hT⟩
      obtain ⟨i, hi, _⟩ := (n1.2 _).1 ((e _).2 ((n2.2 _).2 ⟨x, hT, rfl⟩))
      exact ⟨i, n1.1 i hi, hi⟩
  · rw [byN_of (byN_to h1 (rpO (KOf L)) f c) hf x, byN_of (byN_to h2 (rpO (KOf L)) g c) hg x]
    exact FR.congr (fun y => Mv.congr (fun w => hfg w) _ y) x
  · have e0 : i = 0 := by simp at hi; omega
    subst e0
    show ByN nm1 s1 x ↔ ByN nm2 s2 x
    rw [start h1 x, start h2 x]
/-- What a making ends in. -/
def Alt (mf : Nat → Int) (nm : List Nat) (L : List En) (k : Nat) (R : List (List Int)) (SS : List (Nat → Bool)) (W : World) (cD : Array Value) (er : Int) : Prop :=
  (er = 6 ∧ 2000 < SS.length ∧ cD = zC 30) ∨ (er = 0 ∧ SS.length = k ∧ k ≤ 2000 ∧ ∃ ms, DfaAt W cD (KOf L) R ms (rl (KOf L) 256).length ∧ ms.length = k ∧ ∀ j (h : j < SS.length) (h2 : j < ms.length), Least (fun i => mf (nm.getD i 0)) (fun x => x < nm.length ∧ SS[j] x = true) ms[j])
theorem Alt.keep {mf : Nat → Int} {nm : List Nat} {L : List En} {k : Nat} {R : List (List Int)} {SS : List (Nat → Bool)} {W W' : World} {cD : Array Value} {er : Int} (h : Alt mf nm L k R SS W cD er) (b : Below W.heap.size W W') : Alt mf nm L k R SS W' cD er := by
  rcases h with h | ⟨e1, e2, e3, ms, h6, h7⟩
  · exact Or.inl h
  · exact Or.inr ⟨e1, e2, e3, ms, h6.keep b, h7⟩
theorem Alt.setRow {mf : Nat → Int} {nm : List Nat} {L : List En} {k b : Nat} {R : List (List Int)} {SS : List (Nat → Bool)} {W : World} {cD old cs : Array Value} {er : Int} (h : Alt mf nm L k R SS W cD er) (hb : St W 30 b old) : Alt mf nm L k R SS (W.setRow b cs) cD er := by
  rcases h with h | ⟨e1, e2, e3, ms, h6, h7⟩
  · exact Or.inl h
  · exact Or.inr ⟨e1, e2, e3, ms, h6.setRow hb, h7⟩
theorem zDfa_cls : ∀ j, j < 256 → (zC 30)[j]? = some (.int .u8 0) := by
  have h : (List.range 256).all (fun j => match (zC 30)[j]? with | some (.int .u8 0) => true | _ => false) = true := by kernel_rfl
  intro j hj
  have h1 := List.all_eq_true.1 h j (by simpa using hj)
  split at h1
  · rename_i e; rw [e]
  · cases h1
/-- What two answers share. -/
structure Both (W : World) (cD1 cD2 cA : Array Value) (n m : Nat) (a1 a2 : Option Addr) (c1 c2 : Nat) (A1 A2 : Nat → Option Addr) (C1 C2 l1 l2 : Nat → Nat) (z1 z2 : Nat → Nat → Int) (b1 b2 : Option Addr) (d1 d2 : Nat) (y1 y2 : Nat → Int) : Prop where
  sz : cA.size = 256
  cl : ∀ j, j < 256 → cD1[j]? = cA[j]? ∧ cD2[j]? = cA[j]? ∧ ∃ v, cA[j]? = some (.int .u8 v)
  n1 : cD1[256]? = some (.slice a1 n c1)
  n2 : cD2[256]? = some (.slice a2 n c2)
  r1 : ZsAt W a1 n A1 C1 l1 z1
  r2 : ZsAt W a2 n A2 C2 l2 z2
  eq : RowsEq n n l1 l2 z1 z2
  le : n ≤ 2000 ∧ (∀ i, l1 i ≤ 256) ∧ ∀ i, l2 i ≤ 256
  m1 : cD1[257]? = some (.slice b1 m d1)
  m2 : cD2[257]? = some (.slice b2 m d2)
  mz1 : ZAt W b1 m y1
  mz2 : ZAt W b2 m y2
  ye : m ≤ 2000 ∧ ∀ x, x < m → y1 x = y2 x
theorem alt_both {mf : Nat → Int} {L : List En} {F f1 k1 f2 k2 : Nat} {nm1 nm2 : List Nat} {L1 L2 : List En} {s1 s2 : Nat → Bool} {R1 R2 : List (List Int)} {SS1 SS2 : List (Nat → Bool)} {W : World} {cD1 cD2 : Array Value} {er1 er2 : Int} (h1 : MadeW L F nm1 L1 f1 s1 k1 R1 SS1) (h2 : MadeW L F nm2 L2 f2 s2 k2 R2 SS2)
    (a1 : Alt mf nm1 L k1 R1 SS1 W cD1 er1) (a2 : Alt mf nm2 L k2 R2 SS2 W cD2 er2) : er1 = er2 ∧ ∃ cA n m a1 a2 c1 c2 A1 A2 C1 C2 l1 l2 z1 z2 b1 b2 d1 d2 y1 y2, Both W cD1 cD2 cA n m a1 a2 c1 c2 A1 A2 C1 C2 l1 l2 z1 z2 b1 b2 d1 d2 y1 y2 := by
  have hC : (rl (KOf L) 256).length ≤ 256 := by rw [rl_len]; exact nrep_le _ _
  have bigok : ∀ {nm nm' : List Nat} {L1 L2 : List En} {f f' k k' : Nat} {s s' : Nat → Bool} {R R' : List (List Int)} {A B : List (Nat → Bool)}, MadeW L F nm L1 f s k R A → MadeW L F nm' L2 f' s' k' R' B → 2000 < A.length → B.length = k' → k' ≤ 2000 → False := by
    intro nm nm' L1 L2 f f' k k' s s' R R' A B g1 g2 hb hk hk2
    by_cases e : k ≤ k'
    · obtain ⟨R3, S3, g3, g4, _⟩ := g2.run.cut k e
      have hs := (made_side g1 g2 g1.run g3).2.1
      have := g4.length_le
      omega
    · obtain ⟨R3, S3, g3, _, g5⟩ := g1.run.cut k' (by omega)
      have hs := (made_side g1 g2 g3 g2.run).2.1
      have := g5 (by omega)
      omega
  rcases a1 with ⟨e1, hb1, c1⟩ | ⟨e1, hk1, hk1', ms1, D1, ml1, lm1⟩
  · rcases a2 with ⟨e2, hb2, c2⟩ | ⟨e2, hk2, hk2', ms2, D2, ml2, lm2⟩
    · obtain ⟨t1, t2⟩ := zDfa_tail
      refine ⟨by rw [e1, e2], (List.replicate 256 (Value.int .u8 0)).toArray, 0, 0, none, none, 0, 0, fun _ => none, fun _ => none, fun _ => 0, fun _ => 0, fun _ => 0, fun _ => 0, fun _ _ => 0, fun _ _ => 0, none, none, 0, 0, fun _ => 0, fun _ => 0,
        ⟨by rw [List.size_toArray, List.length_replicate], fun j hj => ?_, by rw [c1]; exact t1, by rw [c2]; exact t1, fun h => absurd h (by omega), fun h => absurd h (by omega), ⟨rfl, fun i hi => by omega⟩, ⟨by omega, fun i => by omega, fun i => by omega⟩, by rw [c1]; exact t2, by rw [c2]; exact t2, fun h => absurd h (by omega), fun h => absurd h (by omega), ⟨by omega, fun x hx => by omega⟩⟩⟩
      rw [c1, c2, zDfa_cls j hj, List.getElem?_toArray, List.getElem?_replicate, if_pos hj]
      exact ⟨rfl, rfl, 0, rfl⟩
    · exact (bigok h1 h2 hb1 hk2 hk2').elim
  · rcases a2 with ⟨e2, hb2, c2⟩ | ⟨e2, hk2, hk2', ms2, D2, ml2, lm2⟩
    · exact (bigok h2 h1 hb2 hk1 hk1').elim
    · have hk : k1 = k2 := by
        refine Classical.byContradiction fun hne => ?_
        by_cases e : k1 < k2
        · obtain ⟨R3, S3, g3, _, g5⟩ := h2.run.cut k1 (by omega)
          have hs := (made_side h1 h2 h1.run g3).2.1
          have := g5 e
          omega
        · obtain ⟨R3, S3, g3, _, g5⟩ := h1.run.cut k2 (by omega)
          have hs := (made_side h1 h2 g3 h2.run).2.1
          have := g5 (by omega)
          omega
      subst hk
      obtain ⟨hR, hside⟩ := made_side h1 h2 h1.run h2.run
      subst hR
      have hRl := h1.run.len
      obtain ⟨aN1, cN1, A1, n1, r1⟩ := D1.rows
      obtain ⟨aN2, cN2, A2, n2, r2⟩ := D2.rows
      obtain ⟨aK1, cK1, m1, y1⟩ := D1.marks
      obtain ⟨aK2, cK2, m2, y2⟩ := D2.marks
      rw [ml1] at m1 y1
      rw [ml2] at m2 y2
      refine ⟨by rw [e1, e2], ((List.range 256).map fun j => Value.int .u8 ((cls (KOf L) j : Nat) : Int)).toArray, R1.length, k1, aN1, aN2, cN1, cN2, A1, A2, _, _, _, _, _, _, aK1, aK2, cK1, cK2, _, _,
        ⟨by simp, fun j hj => ?_, n1, n2, r1, r2, ⟨rfl, fun i hi => ⟨rfl, fun x hx => rfl⟩⟩, ⟨by omega, fun i => hC, fun i => hC⟩, m1, m2, y1, y2, ⟨hk1', fun x hx => ?_⟩⟩⟩
      · rw [D1.cl j hj, D2.cl j hj]
        simp [hj]
      · have x1 : x < ms1.length := by omega
        have x2 : x < ms2.length := by omega
        have q1 := Least.nam h1.nd (byN_nam nm1 SS1[x]) (lm1 x (by omega) x1)
        have q2 := Least.nam h2.nd (byN_nam nm2 SS2[x]) (lm2 x (by omega) x2)
        have := q1.uniq (q2.congr (fun y => (hside.2 x (by omega) (by omega) y).symm))
        simpa [List.getD_eq_getElem?_getD, x1, x2] using this
end Go.Proofs.Ytlnndkilaklifaa
