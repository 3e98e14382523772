/-
  What is proved: for every list of sets, the law BytesetClasses returns true and leaves its argument as it was. No condition.
-/
import Derived.Test.YtddkloagaiibaaaFrame
import Derived.Test.YtddkloagaiibaaaClassesLaw
namespace Go.Proofs.Ytddkloagaiibaaa.bytesetClasses
open Go.ChangeShapes Go.WideShapes Go.ChangeAt Go.RowKit Go.Deep
set_option linter.unusedVariables false

theorem add_mid (b o j : Nat) : (⟨b, o, none⟩ : Addr).add j = ⟨b, o + j, none⟩ := by unfold Addr.add; split <;> simp_all

theorem open_sets {H : Type} {enc : TypeId × Value → H} {w : World} {base fuel : Nat} {spare : Nat → Bool} {held : Bool} {a : Option Addr} {len cap : Nat} {x : DataW H × List MemPlace}
    (h : DataW.trod enc Try.prog w base spare held fuel 38 [.slice a len cap] = some x) : ∃ s, SetsAt w a len s := by
  rcases open_slice Try.underlying38 h with ⟨hcs, _⟩ | ⟨ad, l, c, m, n, D, Pl, hcs, hb, hl, hm, hmm, hx, hi⟩
  · simp at hcs
    obtain ⟨rfl, rfl, rfl⟩ := hcs
    exact ⟨fun _ _ => false, fun h => absurd h (by omega)⟩
  · simp at hcs
    obtain ⟨rfl, rfl, rfl⟩ := hcs
    have h4 : Try.prog.cellsOf 27 = 4 := by kernel_rfl
    have hp : ∀ i, i < len → ∃ p : Nat → Bool, ∀ j, j < 4 → w.cell? (ad.add (i * 4 + j)) = (#[.int .u64 ((wd p 0 : Nat) : Int), .int .u64 ((wd p 1 : Nat) : Int), .int .u64 ((wd p 2 : Nat) : Int), .int .u64 ((wd p 3 : Nat) : Int)]).toList[j]? := by
      intro i him
      obtain ⟨cs', hc, ht⟩ := hi i (by rw [hmm]; split <;> omega)
      rw [h4] at hc
      obtain ⟨p, rfl⟩ := open_set ht
      obtain ⟨_, hcl, hat⟩ := World.cells?_some hc
      refine ⟨p, fun j hj => ?_⟩
      rw [← Go.Deep.add_add]
      exact hat j hj
    obtain ⟨b, off, spot⟩ := ad
    have hall : ∃ s : Nat → Nat → Bool, ∀ i, i < len → ∀ j, j < 4 → w.cell? ((⟨b, off, spot⟩ : Addr).add (i * 4 + j)) = (#[.int .u64 ((wd ((s i)) 0 : Nat) : Int), .int .u64 ((wd ((s i)) 1 : Nat) : Int), .int .u64 ((wd ((s i)) 2 : Nat) : Int), .int .u64 ((wd ((s i)) 3 : Nat) : Int)]).toList[j]? :=
      ⟨fun i => if h : i < len then Classical.choose (hp i h) else fun _ => false, fun i h j hj => by
        have := Classical.choose_spec (hp i h) j hj
        simp only [dif_pos h]
        exact this⟩
    obtain ⟨s, hs⟩ := hall
    refine ⟨s, fun h0 => ?_⟩
    have hspot : spot = none := by
      have := hs 0 h0 0 (by omega)
      simpa [Addr.add] using World.cell?_spot this
    subst hspot
    have hs' : ∀ i, i < len → ∀ j, j < 4 → w.cell? ⟨b, off + i * 4 + j, none⟩ = (#[.int .u64 ((wd ((s i)) 0 : Nat) : Int), .int .u64 ((wd ((s i)) 1 : Nat) : Int), .int .u64 ((wd ((s i)) 2 : Nat) : Int), .int .u64 ((wd ((s i)) 3 : Nat) : Int)]).toList[j]? := fun i hi j hj => by
      have := hs i hi j hj
      rw [add_mid, ← Nat.add_assoc] at this
      exact this
    refine ⟨b, off, rfl, ?_, fun i hi => ⟨hs' i hi 0 (by omega), hs' i hi 1 (by omega), hs' i hi 2 (by omega), hs' i hi 3 (by omega)⟩⟩
    have := hs' 0 h0 0 (by omega)
    by_cases hb : b < w.heap.size
    · exact hb
    · simp [World.cell?, Array.getElem?_eq_none (by omega : w.heap.size ≤ b)] at this

theorem walk (a : Option Addr) (len cap : Nat) (w : World) (hs : ∃ s, SetsAt w a len s) :
    Calls Try.prog 5 #[.slice a len cap] w fun e w' => e = .returned (.bool true) ∧ Below w.heap.size w w' := by
  obtain ⟨s, hs⟩ := hs
  by_cases hl : len ≤ 12
  · exact classesLaw a len cap s hl w hs
  · exact classes_long a len cap w (by omega)

set_option maxRecDepth 100000 in
theorem lifted (os : Os) (started : os.Started) (H : Type) (enc : TypeId × Value → H) :
    ReturnsInHanded {} Try.checked os 5 .any (Rows.bytesetClassesSpec.pre6 enc Try.prog Try.f5 Rows.bytesetClassesRow.domain false) (Rows.bytesetClassesSpec.post enc Try.prog Try.f5 false true false false) := by
  refine returnsInHanded_of_change (C := Try.checked) own started (by kernel_rfl) Try.func5
    (ChangeSpec.witness6 (enc := enc) (C := Try.checked) false ⟨#[], #[.slice none 0 0], []⟩ 8 (by kernel_rfl) (by kernel_rfl) (by kernel_rfl) (by kernel_rfl)) ?_
  intro W base args ds gs before hval0 hW hcnd _
  have hval : ∀ (j : Nat) t v, Try.f5.params[j]? = some t → args[j]? = some v → Value.okWide Try.prog W .any base t v := hval0
  have hW' := hW
  obtain ⟨p, q, hA0, hV, rfl, hfz, hnd⟩ := hW
  have hA : DataW.TrodAll enc Try.prog W 0 (fun _ => true) true Try.f5.params.toList args.toList ds p := hA0
  rw [Try.params5] at hA hval
  obtain ⟨v0, vs0, d0, ds0, p0, q0, hargs, rfl, rfl, h0, r0⟩ := trodAll_cons hA
  obtain ⟨rfl, rfl, rfl⟩ := trodAll_nil r0
  obtain rfl : args = #[v0] := by cases args; simp_all
  obtain ⟨rfl, rfl⟩ := trodVars_none hV
  obtain ⟨a0, len0, cap0, rfl⟩ := okWide_slice Try.underlying38 (hval 0 38 v0 rfl rfl)
  have k0 := h0
  have lt0 : ∀ x ∈ p0, x.block < W.heap.size := by obtain ⟨m, hm⟩ := k0; exact DataW.trod_lt m _ _ _ hm
  have hs : ∃ s, SetsAt W a0 len0 s := by
    obtain ⟨fuel, hf⟩ := h0
    exact open_sets (by simpa [Value.cells] using hf)
  clear hA0 hval0
  refine (walk a0 len0 cap0 W hs).mono fun e W' ⟨he, bel⟩ => ?_
  subst he
  exact ⟨_, rfl, _, _, _, [], _, [], hW', trodAll_mk1 (shut_bool Try.underlying4 _), (trodAll_cons_mk (Below.trod laidOut (by kernel_rfl) (of_decide_eq_true (by kernel_rfl)) k0 bel lt0) trodAll_mk0), rfl, bel.frame _, fun h => by cases h⟩

theorem over : Rows.bytesetClassesRow.holds Try.pinned (OpenSpec.ofChange Rows.bytesetClassesSpec) :=
  OpenClaim.holds_of_wide 5 Try.f5 rfl rfl rfl rfl rfl rfl rfl ⟨rfl, rfl, rfl, rfl, rfl⟩ rfl rfl rfl rfl rfl (by kernel_rfl) Try.func5 (by kernel_rfl)
    (of_decide_eq_true (by kernel_rfl)) (by unfold Func.isWrapper; first | (rw [if_pos (by decide +kernel)]; kernel_rfl) | (rw [if_neg (by decide +kernel)]; exact ⟨rfl, rfl⟩))
    (fun os started H enc _ => lifted os started H enc)

/-- The statement. -/
theorem proved : Rows.BytesetClassesSaid := over
end Go.Proofs.Ytddkloagaiibaaa.bytesetClasses
