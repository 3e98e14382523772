/-
  What is proved: for every list of automata and every text, the law NfaUnions returns true and leaves its arguments as they were. No condition.
-/
import Derived.Test.YthidhkaeebakjaaNFrame
import Derived.Test.YthidhkaeebakjaaNULaw
namespace Go.Proofs.Ythidhkaeebakjaa.nfaUnions
open Go.ChangeShapes Go.WideShapes Go.ChangeAt Go.RowKit Go.Deep
set_option linter.unusedVariables false

set_option maxRecDepth 100000 in
theorem open_nfas {H : Type} {enc : TypeId × Value → H} {w : World} {base fuel : Nat} {spare : Nat → Bool} {held : Bool} {a : Option Addr} {len cap : Nat} {x : DataW H × List MemPlace}
    (h : DataW.trod enc Try.prog w base spare held fuel 42 [.slice a len cap] = some x) : ∃ G : Nat → Mg, MgAt w a len G ∧ (∀ k, k < len → (G k).L.length ≤ maxLen) ∧ len ≤ cap ∧ cap ≤ maxLen := by
  rcases open_slice Try.underlying42 h with ⟨hcs, _⟩ | ⟨ad, l, c, m, n, D, Pl, hcs, hb, hl, hm, hmm, hx, hi⟩
  · simp at hcs
    obtain ⟨rfl, rfl, rfl⟩ := hcs
    exact ⟨fun _ => ⟨0, 0, 0, none, 0, []⟩, fun h => absurd h (by simp), fun k hk => by omega, Nat.le_refl _, by unfold maxLen; omega⟩
  · simp at hcs
    obtain ⟨rfl, rfl, rfl⟩ := hcs
    have h4 : Try.prog.cellsOf 24 = 4 := by kernel_rfl
    have hp : ∀ i, i < len → ∃ p : Mg, (∀ j, j < 4 → w.cell? (ad.add (i * 4 + j)) = (mgCells p).toList[j]?) ∧ EdAt w p.a p.L ∧ p.L.length ≤ maxLen := by
      intro i him
      obtain ⟨cs', hc, ht⟩ := hi i (by rw [hmm]; split <;> omega)
      rw [h4] at hc
      obtain ⟨_, hcl, hat⟩ := World.cells?_some hc
      obtain ⟨S, F, T, a, n, c, L, rfl, hn, hE, hnc, hcm⟩ := open_nfa hcl ht
      subst hn
      refine ⟨⟨S, F, T, a, c, L⟩, fun j hj => ?_, hE, Nat.le_trans hnc hcm⟩
      rw [← Go.Deep.add_add]
      exact hat j hj
    obtain ⟨b, off, spot⟩ := ad
    obtain ⟨G, hG⟩ : ∃ G : Nat → Mg, ∀ i, i < len → (∀ j, j < 4 → w.cell? ((⟨b, off, spot⟩ : Addr).add (i * 4 + j)) = (mgCells (G i)).toList[j]?) ∧ EdAt w (G i).a (G i).L ∧ (G i).L.length ≤ maxLen :=
      ⟨fun i => if h : i < len then Classical.choose (hp i h) else ⟨0, 0, 0, none, 0, []⟩, fun i h => by
        have := Classical.choose_spec (hp i h)
        simp only [dif_pos h]
        exact this⟩
    refine ⟨G, fun h0 => ?_, fun k hk => (hG k hk).2.2, hl, hm⟩
    have hspot : spot = none := by
      have := (hG 0 h0).1 0 (by omega)
      simpa [Addr.add, mgCells] using World.cell?_spot this
    subst hspot
    have hcell : ∀ i, i < len → ∀ j, j < 4 → w.cell? ⟨b, off + (i * 4 + j), none⟩ = (mgCells (G i)).toList[j]? := fun i hi j hj => by
      have := (hG i hi).1 j hj
      rw [add_mid9] at this
      exact this
    refine ⟨b, off, rfl, ?_, fun k hk => ⟨⟨?_, ?_, ?_, ?_⟩, (hG k hk).2.1⟩⟩
    · have := hcell 0 h0 0 (by omega)
      by_cases hb : b < w.heap.size
      · exact hb
      · simp [World.cell?, mgCells, Array.getElem?_eq_none (by omega : w.heap.size ≤ b)] at this
    · exact hcell k hk 0 (by omega)
    · rw [Nat.add_assoc]; exact hcell k hk 1 (by omega)
    · rw [Nat.add_assoc]; exact hcell k hk 2 (by omega)
    · rw [Nat.add_assoc]; exact hcell k hk 3 (by omega)

set_option maxRecDepth 100000 in
theorem lifted (os : Os) (started : os.Started) (H : Type) (enc : TypeId × Value → H) :
    ReturnsInHanded {} Try.checked os 4 .any (Rows.nfaUnionsSpec.pre6 enc Try.prog Try.f4 Rows.nfaUnionsRow.domain false) (Rows.nfaUnionsSpec.post enc Try.prog Try.f4 false true false false) := by
  refine returnsInHanded_of_change (C := Try.checked) own started (by kernel_rfl) Try.func4
    (ChangeSpec.witness6 (enc := enc) (C := Try.checked) false ⟨#[], #[.slice none 0 0, .string ⟨#[]⟩], []⟩ 8 (by kernel_rfl) (by kernel_rfl) (by kernel_rfl) (by kernel_rfl)) ?_
  intro W base args ds gs before hval0 hW hcnd _
  have hval : ∀ (j : Nat) t v, Try.f4.params[j]? = some t → args[j]? = some v → Value.okWide Try.prog W .any base t v := hval0
  have hW' := hW
  obtain ⟨p, q, hA0, hV, rfl, hfz, hnd⟩ := hW
  have hA : DataW.TrodAll enc Try.prog W 0 (fun _ => true) true Try.f4.params.toList args.toList ds p := hA0
  rw [Try.params4] at hA hval
  obtain ⟨v0, vs0, d0, ds0, p0, q0, hargs, rfl, rfl, h0, r0⟩ := trodAll_cons hA
  obtain ⟨v1, vs1, d1, ds1, p1, q1, rfl, rfl, rfl, h1, r1⟩ := trodAll_cons r0
  obtain ⟨rfl, rfl, rfl⟩ := trodAll_nil r1
  obtain rfl : args = #[v0, v1] := by cases args; simp_all
  obtain ⟨rfl, rfl⟩ := trodVars_none hV
  obtain ⟨a, n, c, rfl⟩ := okWide_slice Try.underlying42 (hval 0 42 v0 rfl rfl)
  have k0 := h0
  have lt0 : ∀ x ∈ p0, x.block < W.heap.size := by obtain ⟨m, hm⟩ := k0; exact DataW.trod_lt m _ _ _ hm
  have k1 := h1
  have lt1 : ∀ x ∈ p1, x.block < W.heap.size := by obtain ⟨m, hm⟩ := k1; exact DataW.trod_lt m _ _ _ hm
  obtain ⟨G, hL, hGl, hnc, hcm⟩ : ∃ G : Nat → Mg, MgAt W a n G ∧ (∀ k, k < n → (G k).L.length ≤ maxLen) ∧ n ≤ c ∧ c ≤ maxLen := by
    obtain ⟨fuel, hf⟩ := h0
    exact open_nfas (by simpa [Value.cells] using hf)
  obtain ⟨s, rfl, rfl, rfl, hs⟩ := Go.ChangeMaps.open_string Try.underlying9 (hval 1 9 v1 rfl rfl) h1
  clear hA0 hval0
  have hs2 : s.size ≤ 9223372036854775807 := by have h := hs; unfold maxLen at h; omega
  unfold maxLen at hcm hGl
  refine (nfaUnions_any n c G a s s.size rfl hs2 W hL (by omega) (fun k hk => by have := hGl k hk; omega)).mono fun e W' ⟨he, bel⟩ => ?_
  subst he
  exact ⟨_, rfl, _, _, _, [], _, [], hW', trodAll_mk1 (shut_bool Try.underlying4 _), (trodAll_cons_mk (Below.trod laidOut (by kernel_rfl) (of_decide_eq_true (by kernel_rfl)) k0 bel lt0) (trodAll_cons_mk (Go.ChangeMaps.shut_string Try.underlying9 hs) trodAll_mk0)), rfl, bel.frame _, fun h => by cases h⟩

theorem over : Rows.nfaUnionsRow.holds Try.pinned (OpenSpec.ofChange Rows.nfaUnionsSpec) :=
  OpenClaim.holds_of_wide 4 Try.f4 rfl rfl rfl rfl rfl rfl rfl ⟨rfl, rfl, rfl, rfl, rfl⟩ rfl rfl rfl rfl rfl (by kernel_rfl) Try.func4 (by kernel_rfl)
    (of_decide_eq_true (by kernel_rfl)) (by unfold Func.isWrapper; first | (rw [if_pos (by decide +kernel)]; kernel_rfl) | (rw [if_neg (by decide +kernel)]; exact ⟨rfl, rfl⟩))
    (fun os started H enc _ => lifted os started H enc)

/-- The statement. -/
theorem proved : Rows.NfaUnionsSaid := over
end Go.Proofs.Ythidhkaeebakjaa.nfaUnions
