/-
  What is proved: for every two numbers and every list of calls, the law FeedPlays returns true and leaves its arguments as they were. No condition.
-/
import Derived.Test.YtnkaenfmmlahlaaRows
import Derived.Test.YtnkaenfmmlahlaaPlaysB
import Derived.WalkKit
import Derived.ProofKit
import Derived.OpenShut
import Derived.ShutString
import Derived.ChangeOld
import Derived.Below
import Derived.Deep.Slices
import Derived.Deep.Fields
import Derived.ChangeSame
namespace Go.Proofs.Ytnkaenfmmlahlaa.feedPlays
open Go.ChangeShapes Go.WideShapes Go.ChangeAt Go.RowKit Go.Deep
set_option linter.unusedVariables false

theorem own : ownKnob Try.prog.godebug = none := by kernel_rfl
theorem laidOut : laidOutB Try.prog = true := by kernel_rfl

section
variable {H : Type} {enc : TypeId × Value → H} {P : Program} {w : World} {base : Nat} {spare : Nat → Bool} {held : Bool}
theorem open_slice_fields {t e : TypeId} {fs : Array Field} {fuel : Nat} {cs : List Value} {x : DataW H × List MemPlace} (ht : P.underlying t = some (.slice e)) (he : P.underlying e = some (.struct fs))
    (hone : oneCellFields P fs = true) (hC : P.cellsOf e = fs.size) (h : DataW.trod enc P w base spare held fuel t cs = some x) :
    (cs = [.slice none 0 0]) ∨
    ∃ (a : Addr) (len cap : Nat), cs = [.slice (some a) len cap] ∧
      ∀ i, i < len → ∃ (n : Nat),
        ∀ (j : Nat) (f : Field), fs[j]? = some f → ∃ (v : Value) (y : DataW H × List MemPlace), w.cell? (a.add (i * fs.size + j)) = some v ∧ DataW.trod enc P w base spare held n f.type [v] = some y := by
  rcases open_slice ht h with h0 | ⟨a, len, cap, m, n, D, Pl, hcs, hb, hl, hm, hmm, hx, hi⟩
  · exact .inl h0.1
  · refine .inr ⟨a, len, cap, hcs, fun i him => ?_⟩
    obtain ⟨cs', hc, ht'⟩ := hi i (by rw [hmm]; split <;> omega)
    rw [hC] at hc
    obtain ⟨ys, n', hn', hy, hlen, hyl, hf⟩ := DataW.trod_struct he ht'
    obtain ⟨_, hcl, hat⟩ := World.cells?_some hc
    refine ⟨n', fun j f hj => ?_⟩
    obtain ⟨ho, hk⟩ := hone_of hone j f hj
    have hjl : j < fs.size := (Array.getElem?_eq_some_iff.1 hj).1
    have hcell := hat j hjl
    have hv : cs'[j]? = some (cs'[j]'(by omega)) := List.getElem?_eq_getElem (by omega)
    have h1 := hf j f hj
    rw [ho, hk] at h1
    have hone' : (cs'.drop j).take 1 = [cs'[j]'(by omega)] := by
      rw [List.drop_eq_getElem_cons (by omega)]
      rfl
    rw [hone'] at h1
    have hys : ys[j]? = some (ys[j]'(by omega)) := List.getElem?_eq_getElem (by omega)
    refine ⟨_, _, ?_, h1.trans hys⟩
    rw [← Go.Deep.add_add, hcell, hv]
end

theorem okWide_array {w : World} {r : Reach} {b0 : Nat} {v : Value} (h : Value.okWide Try.prog w r b0 22 v) : ∃ c0 c1, v = .agg #[c0, c1] := by
  have hs : ∃ xs : Array Value, v = .agg xs ∧ xs.size = Try.prog.cellsOf 22 := by
    simp only [Value.okWide, Try.underlying22] at h
    obtain ⟨cs, h1, h2, _⟩ := h
    exact ⟨cs, h1, h2⟩
  obtain ⟨xs, rfl, hsz⟩ := hs
  obtain ⟨l⟩ := xs
  match l, hsz.trans (show Try.prog.cellsOf 22 = 2 by kernel_rfl) with
  | [c0, c1], _ => exact ⟨c0, c1, rfl⟩

theorem plays_any (m0 m1 : Int) (a1 : Option Addr) (len1 cap1 : Nat) (w : World) (hO : Ops w a1 len1) :
    Calls Try.prog 3 #[.agg #[.int .i64 m0, .int .i64 m1], .slice a1 len1 cap1] w fun e w' => e = .returned (.bool true) ∧ Below w.heap.size w w' := by
  by_cases hl : len1 ≤ 100
  · by_cases h0 : 0 ≤ m0 ∧ m0 ≤ 1024
    · obtain ⟨n, rfl⟩ := Int.eq_ofNat_of_zero_le h0.1
      by_cases h1 : 0 ≤ m1 ∧ m1 ≤ 1024
      · obtain ⟨m, rfl⟩ := Int.eq_ofNat_of_zero_le h1.1
        exact plays n m a1 len1 cap1 w hl (by omega) (by omega) hO
      · exact second_bad n m1 a1 len1 cap1 w hl (by omega) (by omega)
    · exact first_bad m0 m1 a1 len1 cap1 w hl (by omega)
  · exact long2 m0 m1 a1 len1 cap1 w (by omega)

set_option maxRecDepth 100000 in
theorem lifted (os : Os) (started : os.Started) (H : Type) (enc : TypeId × Value → H) :
    ReturnsInHanded {} Try.checked os 3 .any (Rows.feedPlaysSpec.pre6 enc Try.prog Try.f3 Rows.feedPlaysRow.domain false) (Rows.feedPlaysSpec.post enc Try.prog Try.f3 false true false false) := by
  refine returnsInHanded_of_change (C := Try.checked) own started (by kernel_rfl) Try.func3
    (ChangeSpec.witness6 (enc := enc) (C := Try.checked) false ⟨#[], #[.agg #[.int .i64 0, .int .i64 0], .slice none 0 0], []⟩ 8 (by kernel_rfl) (by kernel_rfl) (by kernel_rfl) (by kernel_rfl)) ?_
  intro W base args ds gs before hval0 hW hcnd _
  have hval : ∀ (j : Nat) t v, Try.f3.params[j]? = some t → args[j]? = some v → Value.okWide Try.prog W .any base t v := hval0
  have hW' := hW
  obtain ⟨p, q, hA0, hV, rfl, hfz, hnd⟩ := hW
  have hA : DataW.TrodAll enc Try.prog W 0 (fun _ => true) true Try.f3.params.toList args.toList ds p := hA0
  rw [Try.params3] at hA hval
  obtain ⟨v0, vs0, d0, ds0, p0, q0, hargs, rfl, rfl, h0, r0⟩ := trodAll_cons hA
  obtain ⟨v1, vs1, d1, ds1, p1, q1, rfl, rfl, rfl, h1, r1⟩ := trodAll_cons r0
  obtain ⟨rfl, rfl, rfl⟩ := trodAll_nil r1
  obtain rfl : args = #[v0, v1] := by cases args; simp_all
  obtain ⟨rfl, rfl⟩ := trodVars_none hV
  have k0 := h0
  have lt0 : ∀ x ∈ p0, x.block < W.heap.size := by obtain ⟨m, hm⟩ := k0; exact DataW.trod_lt m _ _ _ hm
  obtain ⟨x0, x1, rfl⟩ := okWide_array (hval 0 22 v0 rfl rfl)
  obtain ⟨m0, m1, rfl, rfl⟩ : ∃ m0 m1 : Int, x0 = .int .i64 m0 ∧ x1 = .int .i64 m1 := by
    obtain ⟨fuel, hf⟩ := h0
    obtain ⟨xs, m, _, _, _, hxl, hi⟩ := DataW.trod_array Try.underlying22 hf
    have c3 : Try.prog.cellsOf 3 = 1 := by kernel_rfl
    have i0 := hi 0 (by omega)
    have i1 := hi 1 (by omega)
    match xs, hxl with
    | [y0, y1], _ =>
      simp [c3, Value.cells] at i0 i1
      obtain ⟨a, e0, _⟩ := DataW.trod_int Try.underlying3 i0
      obtain ⟨b, e1, _⟩ := DataW.trod_int Try.underlying3 i1
      simp at e0 e1
      exact ⟨a, b, e0, e1⟩
  obtain ⟨a1, len1, cap1, rfl⟩ := okWide_slice Try.underlying23 (hval 1 23 v1 rfl rfl)
  have k1 := h1
  have lt1 : ∀ x ∈ p1, x.block < W.heap.size := by obtain ⟨m, hm⟩ := k1; exact DataW.trod_lt m _ _ _ hm
  have hO : Ops W a1 len1 := by
    obtain ⟨fuel, hf⟩ := h1
    rcases open_slice_fields Try.underlying23 Try.underlying33 (by kernel_rfl) (by kernel_rfl) hf with hcs | ⟨x, l, c, hcs, hall⟩
    · simp [Value.cells] at hcs
      obtain ⟨rfl, rfl, rfl⟩ := hcs
      exact fun h => absurd h (by omega)
    · simp [Value.cells] at hcs
      obtain ⟨rfl, rfl, rfl⟩ := hcs
      intro hp
      obtain ⟨b, off, spot⟩ := x
      have hspot : spot = none := by
        obtain ⟨n, hj⟩ := hall 0 hp
        obtain ⟨v, y, hc, _⟩ := hj 0 _ rfl
        simpa [Addr.add] using World.cell?_spot hc
      subst hspot
      refine ⟨b, off, rfl, ?_, fun j hj => ?_⟩
      · obtain ⟨n, hj⟩ := hall 0 hp
        obtain ⟨v, y, hc, _⟩ := hj 0 _ rfl
        by_cases hb : b < W.heap.size
        · exact hb
        · simp [Addr.add, World.cell?, Array.getElem?_eq_none (by omega : W.heap.size ≤ b)] at hc
      · obtain ⟨n, hjj⟩ := hall j hj
        obtain ⟨v, y, hc0, ht0⟩ := hjj 0 _ rfl
        obtain ⟨v', y', hc1, ht1⟩ := hjj 1 _ rfl
        obtain ⟨v'', y'', hc2, ht2⟩ := hjj 2 _ rfl
        obtain ⟨k, e0, _⟩ := DataW.trod_int Try.underlying3 ht0
        obtain ⟨u, e1, _⟩ := DataW.trod_int Try.underlying3 ht1
        obtain ⟨o, e2, _⟩ := DataW.trod_bool Try.underlying4 ht2
        simp at e0 e1 e2
        subst e0 e1 e2
        rw [Go.WideShapes.add_plain] at hc0 hc1 hc2
        exact ⟨k, u, o, hc0, hc1, hc2⟩
  clear hA0 hval0
  refine (plays_any m0 m1 a1 len1 cap1 W hO).mono fun e W' ⟨he, bel⟩ => ?_
  subst he
  exact ⟨_, rfl, _, _, _, [], _, [], hW', trodAll_mk1 (shut_bool Try.underlying4 _), (trodAll_cons_mk (Below.trod laidOut (by kernel_rfl) (of_decide_eq_true (by kernel_rfl)) k0 bel lt0) (trodAll_cons_mk (Below.trod laidOut (by kernel_rfl) (of_decide_eq_true (by kernel_rfl)) k1 bel lt1) trodAll_mk0)), rfl, bel.frame _, fun h => by cases h⟩

theorem over : Rows.feedPlaysRow.holds Try.pinned (OpenSpec.ofChange Rows.feedPlaysSpec) :=
  OpenClaim.holds_of_wide 3 Try.f3 rfl rfl rfl rfl rfl rfl rfl ⟨rfl, rfl, rfl, rfl, rfl⟩ rfl rfl rfl rfl rfl (by kernel_rfl) Try.func3 (by kernel_rfl)
    (of_decide_eq_true (by kernel_rfl)) (by unfold Func.isWrapper; first | (rw [if_pos (by decide +kernel)]; kernel_rfl) | (rw [if_neg (by decide +kernel)]; exact ⟨rfl, rfl⟩))
    (fun os started H enc _ => lifted os started H enc)

/-- The statement. -/
theorem proved : Rows.FeedPlaysSaid := over
end Go.Proofs.Ytnkaenfmmlahlaa.feedPlays
